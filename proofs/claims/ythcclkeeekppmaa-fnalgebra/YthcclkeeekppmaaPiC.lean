import Derived.Test.YthcclkeeekppmaaRows
import Derived.Test.YthcclkeeekppmaaPiN
import Derived.Deep.Upon
namespace Go.Proofs.Ythcclkeeekppmaa
open Go.RowKit Go.Deep
set_option maxRecDepth 100000

theorem Try.info3 : (Try.prog.info? 3).map (fun i => (i.zero, i.size, i.bytes)) = some (some (.int .i64 0), 1, 8) := by kernel_rfl

/-- A slice of ints in the call's own memory (blocks from B on). -/
def OwnI (w : World) (B : Nat) (a : Option Addr) (n : Nat) (f : Nat → Int) : Prop :=
  n = 0 ∨ ∃ g, a = some ⟨g, 0, none⟩ ∧ B ≤ g ∧ rowIn w g 3 n (fun i => .int .i64 (f i))

theorem OwnI.rd {w : World} {B : Nat} {a : Option Addr} {n : Nat} {f : Nat → Int} (h : OwnI w B a n f) : Rd .i64 w a n f := by
  rcases h with h | ⟨g, rfl, _, hr⟩
  · exact Or.inl h
  · exact Or.inr ⟨g, 0, rfl, fun i hi => by rw [Nat.zero_add]; exact hr.cell hi⟩

theorem OwnI.mono {w : World} {B B' : Nat} {a : Option Addr} {n : Nat} {f : Nat → Int} (h : OwnI w B a n f) (hB : B' ≤ B) : OwnI w B' a n f := by
  rcases h with h | ⟨g, rfl, hg, hr⟩
  · exact Or.inl h
  · exact Or.inr ⟨g, rfl, by omega, hr⟩

theorem OwnI.congr {w : World} {B : Nat} {a : Option Addr} {n : Nat} {f f' : Nat → Int} (h : OwnI w B a n f) (e : ∀ i, i < n → f i = f' i) : OwnI w B a n f' := by
  rcases h with h | ⟨g, rfl, hg, hr⟩
  · exact Or.inl h
  · exact Or.inr ⟨g, rfl, hg, hr.congr (fun i hi => by rw [e i hi])⟩

theorem OwnI.below {w w' : World} {B : Nat} {a : Option Addr} {n : Nat} {f : Nat → Int} (h : OwnI w B a n f) (hb : Below w.heap.size w w') : OwnI w' B a n f := by
  rcases h with h | ⟨g, rfl, hg, hr⟩
  · exact Or.inl h
  · exact Or.inr ⟨g, rfl, hg, hr.of_block (hb.block g hr.lt)⟩

theorem OwnI.only {w w' : World} {B : Nat} {a a' : Option Addr} {n : Nat} {f : Nat → Int} (h : OwnI w B a n f) (ho : OnlyAt a' w w') (hne : n ≠ 0 → ∀ x y, a = some x → a' = some y → y.block ≠ x.block) : OwnI w' B a n f := by
  rcases h with h | ⟨g, rfl, hg, hr⟩
  · exact Or.inl h
  · by_cases hn : n = 0
    · exact Or.inl hn
    · exact Or.inr ⟨g, rfl, hg, hr.of_block (ho.block g (fun y e => hne hn ⟨g, 0, none⟩ y rfl e))⟩
/-- A slice of ints handed back, in new memory. -/
def RetI (w : World) (e : Ending) (w' : World) (n : Nat) (f : Nat → Int) : Prop :=
  ∃ a c, e = .returned (.slice a n c) ∧ OwnI w' w.heap.size a n f ∧ Below w.heap.size w w' ∧ n ≤ c ∧ c ≤ 9223372036854775807


/-- The cells of a row of ints. -/
def intRow (f : Nat → Int) (n : Nat) : List Value := (List.range n).map fun i => .int .i64 (f i)

theorem intRow_length (f : Nat → Int) (n : Nat) : (intRow f n).length = n := by simp [intRow]
theorem intRow_get (f : Nat → Int) (n i : Nat) (h : i < n) : (intRow f n)[i]? = some (.int .i64 (f i)) := by simp [intRow, h]

/-- Ints that can be read, appended to ints of the call's own. -/
theorem wpList_append_rdI {w : World} {ops : Array Oper} {rest : List Oper} {o : Oper} {act : Act} {Q : Exit → Act → World → Prop} (hgd : o.guard = none) (s x : Operand)
    (ho : o.op = .call { callee := .builtin .append, args := #[s, x], argTypes := #[63, 63] })
    (B : Nat) (v : Value) (n : Nat) (xs : List Value) (hs : act.eval s = v) (hown : w.ownsRow B 3 1 v n xs)
    (a : Option Addr) (m c : Nat) (f : Nat → Int) (hx : act.eval x = .slice a m c) (hrd : Rd .i64 w a m f) (hnm : n + m ≤ 1099511627776) (hB : B ≤ w.heap.size)
    (h : ∀ v' w', w'.ownsRow B 3 1 v' (n + m) (xs ++ intRow f m) → w.grownBy w' v.ownBlock → wpList Try.prog ops Q rest (act.put o.dst v') w') : wpList Try.prog ops Q (o :: rest) act w := by
  obtain ⟨i0, hi, hz0, hz1, hz2⟩ := info_parts Try.info3
  by_cases hm : m = 0
  · subst hm
    have hsrc : Src Try.prog i0.size 63 (.slice a 0 c) 0 [] w := by
      cases a with
      | none => exact Src.ofNil w Try.underlying63 c
      | some ad => exact Src.ofSlice w Try.underlying63 ad 0 c [] (by simp) (by simp) (by simp)
    have hsh : ∃ b l cap, v = .slice b l cap ∧ l ≤ cap := by
      rcases hown.2 with ⟨rfl, rfl⟩ | ⟨g, cap, cur, rfl, _, _, h1, _⟩
      · exact ⟨none, 0, 0, rfl, Nat.le_refl _⟩
      · exact ⟨_, n, cap, rfl, h1⟩
    obtain ⟨b, l, cap, hvv, hlc⟩ := hsh
    have hrun := run_append_nothing (P := Try.prog) w 63 63 o.type 3 i0 Try.underlying63 hi b l cap hlc (.slice a 0 c) hsrc
    rw [← hvv] at hrun
    refine wpList_plain hgd fun K hK => ?_
    unfold Oper.wp
    simp [execOp, ho, resolve, invoke, builtin, hs, hx, hrun, Result.andThen]
    exact hK _ _ (h v w (by simpa [intRow] using hown) ⟨rfl, rfl, rfl, Nat.le_refl _, fun _ _ _ => rfl⟩)
  · rcases hrd with h0 | ⟨b, off, rfl, hc⟩
    · exact absurd h0 hm
    · refine wpList_append_own w hgd s x 63 ho B 3 i0 (.int .i64 0) 1 8 Try.underlying63 hi hz0 hz1 hz2 rfl (by decide) v n xs hs hown ⟨b, off, none⟩ m c (intRow f m) hx (by simp [intRow]) (fun j u hj => ?_) (fun u hu => ?_) (by unfold maxLen; omega) (by omega) hB (fun v' w' h1 h2 _ => h v' w' h1 h2)
      · have hjm : j < m := by
          have := (List.getElem?_eq_some_iff.1 hj).1
          rwa [intRow_length] at this
        rw [intRow_get f m j hjm] at hj
        injection hj with hj
        subst hj
        have e : (Addr.add ⟨b, off, none⟩ j) = ⟨b, off + j, none⟩ := by
          unfold Addr.add
          by_cases h : j = 0
          · subst h; simp
          · simp [h]
        rw [e]
        exact hc j hjm
      · simp only [intRow, List.mem_map] at hu
        obtain ⟨i, _, rfl⟩ := hu
        rfl

theorem ownI_ofRow {w : World} {B : Nat} {v : Value} {n : Nat} {f : Nat → Int} (h : w.ownsRow B 3 1 v n (intRow f n)) : ∃ a c, v = .slice a n c ∧ OwnI w B a n f ∧ n ≤ c ∧ c ≤ 9223372036854775807 := by
  obtain ⟨_, h⟩ := h
  rcases h with ⟨rfl, rfl⟩ | ⟨g, cap, cur, rfl, hg, hh, h1, h2, h3, h4⟩
  · exact ⟨none, 0, rfl, Or.inl rfl, Nat.le_refl _, by omega⟩
  · unfold maxLen at h2
    refine ⟨_, cap, rfl, Or.inr ⟨g, rfl, hg, cur, hh, by omega, fun i hi => ?_⟩, h1, h2⟩
    rw [← intRow_get f n i hi, ← h4]
    have : i < n * 1 := by omega
    rw [List.getElem?_take, if_pos this]
    simp

set_option maxHeartbeats 400000 in
theorem copyInts_any (a : Option Addr) (n c : Nat) (f : Nat → Int) (w : World) (h : Rd .i64 w a n f) (hn : n ≤ 1048576) :
    Calls Try.prog 60 #[.slice a n c] w fun e w' => RetI w e w' n f := by
  have HR : Hid (Rd .i64 w a n f) := h
  clear h
  go_enter Try.func60, Try.ntmps60
  go_wp2_with (at_builtin; refine wpList_append_rdI rfl _ _ rfl w.heap.size (.slice none 0 0) 0 [] rfl (World.ownsRow_nil _ _ _ _) a n c f rfl HR.out (by omega) (Nat.le_refl _) ?_)
  intro v' w' ho hg
  have HB : Hid (Below w.heap.size w w') := (Below.refl _ _).grown hg (Nat.le_refl _) (fun k e => by simp [Value.ownBlock] at e)
  obtain ⟨a', c', rfl, h1, h2, h3⟩ := ownI_ofRow ho
  have H1 : Hid (OwnI w' w.heap.size a' n f) := h1
  clear ho hg h1
  go_wp2
  go_ret
  exact ⟨a', c', rfl, H1.out, HB.out, h2, h3⟩
end Go.Proofs.Ythcclkeeekppmaa
