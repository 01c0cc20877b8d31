import Derived.Test.YtfecgececffdoaaRows
import Derived.Test.YtfecgececffdoaaTerm
import Derived.WalkKit
import Derived.Deep.Upon
import Derived.Deep.RegionHeld3
import Derived.Handy
namespace Go.Proofs.Ytfecgececffdoaa
open Go.RowKit Go.Deep
set_option linter.unusedVariables false
set_option maxRecDepth 100000

theorem infoTm : (Try.prog.info? 51).map (fun i => (i.zero, i.size, i.bytes)) = some (some (.agg #[.int .i64 0, .string { data := #[] }, .int .i64 0]), 3, 32) := by kernel_rfl
theorem underTms : Try.prog.underlying 26 = some (.slice 51) := by kernel_rfl

/-- The cells of a row of terms. -/
def termRow (I : Nat → Int) (X : Nat → ByteArray) (R : Nat → Int) (n : Nat) : List Value := (List.range (n * 3)).map (termCell I X R)
theorem termRow_length (I : Nat → Int) (X : Nat → ByteArray) (R : Nat → Int) (n : Nat) : (termRow I X R n).length = n * 3 := by simp [termRow]
theorem termRow_get (I : Nat → Int) (X : Nat → ByteArray) (R : Nat → Int) (n i : Nat) (h : i < n * 3) : (termRow I X R n)[i]? = some (termCell I X R i) := by simp [termRow, h]
theorem termRow_zero (I : Nat → Int) (X : Nat → ByteArray) (R : Nat → Int) : termRow I X R 0 = [] := by simp [termRow]

def glue {T : Type} (n : Nat) (f g : Nat → T) (j : Nat) : T := if j < n then f j else g (j - n)
theorem glue_lt {T : Type} {n j : Nat} {f g : Nat → T} (h : j < n) : glue n f g j = f j := if_pos h
theorem glue_ge {T : Type} {n j : Nat} {f g : Nat → T} (h : ¬ j < n) : glue n f g j = g (j - n) := if_neg h

theorem termRow_app (I I' : Nat → Int) (X X' : Nat → ByteArray) (R R' : Nat → Int) (n m : Nat) :
    termRow I X R n ++ termRow I' X' R' m = termRow (glue n I I') (glue n X X') (glue n R R') (n + m) := by
  apply List.ext_getElem?
  intro i
  by_cases h1 : i < n * 3
  · rw [List.getElem?_append_left (by rw [termRow_length]; exact h1), termRow_get _ _ _ _ _ h1, termRow_get _ _ _ _ _ (by omega)]
    unfold termCell
    rw [glue_lt (by omega), glue_lt (by omega), glue_lt (by omega)]
  · rw [List.getElem?_append_right (by rw [termRow_length]; omega), termRow_length]
    by_cases h2 : i < (n + m) * 3
    · rw [termRow_get _ _ _ _ _ (by omega), termRow_get _ _ _ _ _ h2]
      unfold termCell
      rw [glue_ge (by omega), glue_ge (by omega), glue_ge (by omega), show (i - n * 3) % 3 = i % 3 by omega, show (i - n * 3) / 3 = i / 3 - n by omega]
    · rw [List.getElem?_eq_none (by rw [termRow_length]; omega), List.getElem?_eq_none (by rw [termRow_length]; omega)]

theorem termCell_congr {I I' : Nat → Int} {X X' : Nat → ByteArray} {R R' : Nat → Int} {c : Nat} (h : I (c / 3) = I' (c / 3) ∧ X (c / 3) = X' (c / 3) ∧ R (c / 3) = R' (c / 3)) : termCell I X R c = termCell I' X' R' c := by
  unfold termCell
  rw [h.1, h.2.1, h.2.2]

theorem termRow_congr {I I' : Nat → Int} {X X' : Nat → ByteArray} {R R' : Nat → Int} {n : Nat} (h : ∀ i, i < n → I i = I' i ∧ X i = X' i ∧ R i = R' i) : termRow I X R n = termRow I' X' R' n := by
  unfold termRow
  refine List.map_congr_left (fun c hc => termCell_congr (h _ ?_))
  have := List.mem_range.1 hc
  omega

/-- A slice of terms in the call's own memory. -/
def OwnT (w : World) (B : Nat) (a : Option Addr) (n : Nat) (I : Nat → Int) (X : Nat → ByteArray) (R : Nat → Int) : Prop :=
  n = 0 ∨ ∃ g, a = some ⟨g, 0, none⟩ ∧ B ≤ g ∧ rowIn w g 51 (n * 3) (termCell I X R)

section
variable {w w' : World} {B B' : Nat} {a : Option Addr} {n : Nat} {I I' : Nat → Int} {X X' : Nat → ByteArray} {R R' : Nat → Int}

theorem OwnT.rd (h : OwnT w B a n I X R) : RdT w a n I X R := by
  rcases h with h | ⟨g, rfl, _, hr⟩
  · exact Or.inl h
  · exact rdT_row hr
theorem OwnT.mono (h : OwnT w B a n I X R) (hB : B' ≤ B) : OwnT w B' a n I X R := by
  rcases h with h | ⟨g, rfl, hg, hr⟩
  · exact Or.inl h
  · exact Or.inr ⟨g, rfl, by omega, hr⟩
theorem OwnT.below (h : OwnT w B a n I X R) (hb : Below w.heap.size w w') : OwnT w' B a n I X R := by
  rcases h with h | ⟨g, rfl, hg, hr⟩
  · exact Or.inl h
  · exact Or.inr ⟨g, rfl, hg, hr.of_block (hb.block g hr.lt)⟩
theorem OwnT.congr (h : OwnT w B a n I X R) (e : ∀ i, i < n → I i = I' i ∧ X i = X' i ∧ R i = R' i) : OwnT w B a n I' X' R' := by
  rcases h with h | ⟨g, rfl, hg, hr⟩
  · exact Or.inl h
  · exact Or.inr ⟨g, rfl, hg, hr.congr (fun i hi => termCell_congr (e _ (by omega)))⟩
theorem OwnT.setOther (h : OwnT w B a n I X R) {p : Addr} (hp : p.block < B) (v : Value) : OwnT (w.setCell p v) B a n I X R := by
  rcases h with h | ⟨g, rfl, hg, hr⟩
  · exact Or.inl h
  · exact Or.inr ⟨g, rfl, hg, hr.of_block (Below.heap_setCell _ _ _ _ (by omega))⟩
theorem RdT.congr (h : RdT w a n I X R) (e : ∀ i, i < n → I i = I' i ∧ X i = X' i ∧ R i = R' i) : RdT w a n I' X' R' := by
  rcases h with h | ⟨b, o, rfl, hc⟩
  · exact Or.inl h
  · refine Or.inr ⟨b, o, rfl, fun i hi => ?_⟩
    obtain ⟨e1, e2, e3⟩ := e i hi
    rw [← e1, ← e2, ← e3]
    exact hc i hi

theorem ownT_ofRow {v : Value} (h : w.ownsRow B 51 3 v n (termRow I X R n)) : ∃ a c, v = .slice a n c ∧ OwnT w B a n I X R ∧ n ≤ c := by
  obtain ⟨_, h⟩ := h
  rcases h with ⟨rfl, rfl⟩ | ⟨g, cap, cur, rfl, hg, hh, h1, h2, h3, h4⟩
  · exact ⟨none, 0, rfl, Or.inl rfl, Nat.le_refl _⟩
  · refine ⟨_, cap, rfl, Or.inr ⟨g, rfl, hg, cur, hh, by omega, fun i hi => ?_⟩, h1⟩
    rw [← termRow_get I X R n i hi, ← h4, List.getElem?_take, if_pos hi]
    simp
end

theorem run_append_T {w : World} {B : Nat} {v : Value} {n : Nat} {xs : List Value} (hown : w.ownsRow B 51 3 v n xs) {a : Option Addr} {m c : Nat} {I : Nat → Int} {X : Nat → ByteArray} {R : Nat → Int} (hrd : RdT w a m I X R) (hnm : n + m ≤ 4194304) (hB : B ≤ w.heap.size) (ty : TypeId) :
    ∃ v' w', (Builtin.append_ #[26, 26] ty #[v, .slice a m c]).run Try.prog w = .ok v' w' ∧ w'.ownsRow B 51 3 v' (n + m) (xs ++ termRow I X R m) ∧ w.grownBy w' v.ownBlock := by
  obtain ⟨i0, hi, hz0, hz1, hz2⟩ := info_parts infoTm
  by_cases hm : m = 0
  · subst hm
    have hsrc : Src Try.prog i0.size 26 (.slice a 0 c) 0 [] w := by
      cases a with
      | none => exact Src.ofNil w underTms c
      | some ad => exact Src.ofSlice w underTms ad 0 c [] (by simp) (by simp) (by simp)
    have hsh : ∃ b l cap, v = .slice b l cap ∧ l ≤ cap := by
      rcases hown.2 with ⟨rfl, rfl⟩ | ⟨g, cap, cur, rfl, _, _, h1, _⟩
      · exact ⟨none, 0, 0, rfl, Nat.le_refl _⟩
      · exact ⟨_, n, cap, rfl, h1⟩
    obtain ⟨b, l, cap, hvv, hlc⟩ := hsh
    have hrun := run_append_nothing (P := Try.prog) w 26 26 ty 51 i0 underTms hi b l cap hlc (.slice a 0 c) hsrc
    rw [← hvv] at hrun
    exact ⟨v, w, hrun, by simpa [termRow_zero] using hown, ⟨rfl, rfl, rfl, Nat.le_refl _, fun _ _ _ => rfl⟩⟩
  · rcases hrd with h0 | ⟨b, off, rfl, hc⟩
    · exact absurd h0 hm
    · obtain ⟨v', w', h1, h2, h3, _⟩ := run_append_own (P := Try.prog) w B 26 ty 51 i0 _ 3 32 underTms hi hz0 hz1 hz2 rfl (by decide) v n xs hown ⟨b, off, none⟩ m c (termRow I X R m) (termRow_length _ _ _ _) (fun j u hj => by
          have hjm : j < m * 3 := by
            have := (List.getElem?_eq_some_iff.1 hj).1
            rwa [termRow_length] at this
          rw [termRow_get _ _ _ _ _ hjm] at hj
          injection hj with hj
          subst hj
          have e : (Addr.add ⟨b, off, none⟩ j) = ⟨b, off + j, none⟩ := by
            unfold Addr.add
            by_cases h : j = 0
            · subst h; simp
            · simp [h]
          rw [e]
          obtain ⟨q, hq⟩ : ∃ q, j = q * 3 ∨ j = q * 3 + 1 ∨ j = q * 3 + 2 := ⟨j / 3, by omega⟩
          obtain ⟨c0, c1, c2⟩ := hc q (by omega)
          rcases hq with hq | hq | hq
          · subst hq; rw [termCell_0]; exact c0
          · subst hq; rw [termCell_1]; exact c1
          · subst hq; rw [termCell_2]; exact c2) (fun u hu => by
          simp only [termRow, List.mem_map] at hu
          obtain ⟨i, _, rfl⟩ := hu
          unfold termCell
          split
          · rfl
          · split <;> rfl) (by unfold maxLen; omega) (by omega) hB
      exact ⟨v', w', h1, h2, h3⟩

/-- Terms that can be read, appended to terms of the call's own. -/
theorem wpList_append_T {w : World} {ops : Array Oper} {rest : List Oper} {o : Oper} {act : Act} {Q : Exit → Act → World → Prop} (hgd : o.guard = none) (s x : Operand)
    (ho : o.op = .call { callee := .builtin .append, args := #[s, x], argTypes := #[26, 26] })
    (B : Nat) (v : Value) (n : Nat) (xs : List Value) (hs : act.eval s = v) (hown : w.ownsRow B 51 3 v n xs)
    (a : Option Addr) (m c : Nat) (I : Nat → Int) (X : Nat → ByteArray) (R : Nat → Int) (hx : act.eval x = .slice a m c) (hrd : RdT w a m I X R) (hnm : n + m ≤ 4194304) (hB : B ≤ w.heap.size)
    (h : ∀ v' w', w'.ownsRow B 51 3 v' (n + m) (xs ++ termRow I X R m) → w.grownBy w' v.ownBlock → wpList Try.prog ops Q rest (act.put o.dst v') w') : wpList Try.prog ops Q (o :: rest) act w := by
  obtain ⟨v', w', hrun, h1, h2⟩ := run_append_T (c := c) hown hrd hnm hB o.type
  refine wpList_plain hgd fun K hK => ?_
  unfold Oper.wp
  simp [execOp, ho, resolve, invoke, builtin, hs, hx, hrun, Result.andThen]
  exact hK _ _ (h v' w' h1 h2)

/-- The same, as a step of a region that draws its order. -/
theorem step_append_T {ops : Array Oper} {o : Oper} {a : Act} {w : World} {K : Act → World → Prop} {Q : Exit → Act → World → Prop} {E : Prop} (hgd : o.guard = none) (x y : Operand)
    (ho : o.op = .call { callee := .builtin .append, args := #[x, y], argTypes := #[26, 26] })
    (B : Nat) (v : Value) (n : Nat) (xs : List Value) (hx : a.eval x = v) (hown : w.ownsRow B 51 3 v n xs)
    (ad : Option Addr) (m c : Nat) (I : Nat → Int) (X : Nat → ByteArray) (R : Nat → Int) (hy : a.eval y = .slice ad m c) (hrd : RdT w ad m I X R) (hnm : n + m ≤ 4194304) (hB : B ≤ w.heap.size)
    (h : ∀ v' w', w'.ownsRow B 51 3 v' (n + m) (xs ++ termRow I X R m) → w.grownBy w' v.ownBlock → K (a.put o.dst v') w') :
    if Region.wanted o (yielded ops a.tmps) = true then Oper.wp Try.prog o a w K Q else E := by
  have hw : Region.wanted o (yielded ops a.tmps) = true := by simp [Region.wanted, hgd]
  rw [if_pos hw]
  obtain ⟨v', w', hrun, h1, h2⟩ := run_append_T (c := c) hown hrd hnm hB o.type
  unfold Oper.wp
  simp [execOp, ho, resolve, invoke, builtin, hx, hy, hrun, Result.andThen]
  exact h v' w' h1 h2

/-- A slice of terms handed back in new memory. -/
def RetTs (w : World) (n : Nat) (I : Nat → Int) (X : Nat → ByteArray) (R : Nat → Int) (e : Ending) (w' : World) : Prop :=
  ∃ a c, e = .returned (.slice a n c) ∧ OwnT w' w.heap.size a n I X R ∧ Below w.heap.size w w' ∧ n ≤ c

set_option maxHeartbeats 400000 in
theorem copyTerms_any (a : Option Addr) (n c : Nat) (I : Nat → Int) (X : Nat → ByteArray) (R : Nat → Int) (w : World) (h : RdT w a n I X R) (hn : n ≤ 1048576) :
    Calls Try.prog 47 #[.slice a n c] w (RetTs w n I X R) := by
  have HR : Hid (RdT w a n I X R) := h
  clear h
  go_enter Try.func47, Try.ntmps47
  go_wp2_with (at_builtin; refine wpList_append_T rfl _ _ rfl w.heap.size (.slice none 0 0) 0 [] rfl (World.ownsRow_nil _ _ _ _) a n c I X R rfl HR.out (by omega) (Nat.le_refl _) ?_)
  intro v' w' ho hg
  have HB : Hid (Below w.heap.size w w') := (Below.refl _ _).grown hg (Nat.le_refl _) (fun k e => by simp [Value.ownBlock] at e)
  obtain ⟨a', c', rfl, h1, h2⟩ := ownT_ofRow ho
  have H1 : Hid (OwnT w' w.heap.size a' n I X R) := h1
  clear ho hg h1
  go_wp2
  go_ret
  exact ⟨a', c', rfl, H1.out, HB.out, h2⟩
end Go.Proofs.Ytfecgececffdoaa
