import Derived.Test.YtbpcafcipncloaaRows
import Derived.Test.YtbpcafcipncloaaOwnP
import Derived.Test.YtbpcafcipncloaaToByteS
import Derived.Deep.Upon
namespace Go.Proofs.Ytbpcafcipncloaa
open Go.RowKit Go.Deep
set_option maxRecDepth 100000

/-- The cells of a row of bytes. -/
def byteRow (f : Nat → Int) (n : Nat) : List Value := (List.range n).map fun i => .int .u8 (f i)

theorem byteRow_length (f : Nat → Int) (n : Nat) : (byteRow f n).length = n := by simp [byteRow]
theorem byteRow_get (f : Nat → Int) (n i : Nat) (h : i < n) : (byteRow f n)[i]? = some (.int .u8 (f i)) := by simp [byteRow, h]

/-- Bytes that can be read, appended to bytes of the call's own. -/
theorem wpList_append_rd {w : World} {ops : Array Oper} {rest : List Oper} {o : Oper} {act : Act} {Q : Exit → Act → World → Prop} (hgd : o.guard = none) (s x : Operand)
    (ho : o.op = .call { callee := .builtin .append, args := #[s, x], argTypes := #[24, 24] })
    (B : Nat) (v : Value) (n : Nat) (xs : List Value) (hs : act.eval s = v) (hown : w.ownsRow B 5 1 v n xs)
    (a : Option Addr) (m c : Nat) (f : Nat → Int) (hx : act.eval x = .slice a m c) (hrd : Rd .u8 w a m f) (hnm : n + m ≤ 1099511627776) (hB : B ≤ w.heap.size)
    (h : ∀ v' w', w'.ownsRow B 5 1 v' (n + m) (xs ++ byteRow f m) → w.grownBy w' v.ownBlock → wpList Try.prog ops Q rest (act.put o.dst v') w') : wpList Try.prog ops Q (o :: rest) act w := by
  obtain ⟨i0, hi, hz0, hz1, hz2⟩ := info_parts Try.info5
  by_cases hm : m = 0
  · subst hm
    have hsrc : Src Try.prog i0.size 24 (.slice a 0 c) 0 [] w := by
      cases a with
      | none => exact Src.ofNil w Try.underlying24 c
      | some ad => exact Src.ofSlice w Try.underlying24 ad 0 c [] (by simp) (by simp) (by simp)
    have hsh : ∃ b l cap, v = .slice b l cap ∧ l ≤ cap := by
      rcases hown.2 with ⟨rfl, rfl⟩ | ⟨g, cap, cur, rfl, _, _, h1, _⟩
      · exact ⟨none, 0, 0, rfl, Nat.le_refl _⟩
      · exact ⟨_, n, cap, rfl, h1⟩
    obtain ⟨b, l, cap, hvv, hlc⟩ := hsh
    have hrun := run_append_nothing (P := Try.prog) w 24 24 o.type 5 i0 Try.underlying24 hi b l cap hlc (.slice a 0 c) hsrc
    rw [← hvv] at hrun
    refine wpList_plain hgd fun K hK => ?_
    unfold Oper.wp
    simp [execOp, ho, resolve, invoke, builtin, hs, hx, hrun, Result.andThen]
    exact hK _ _ (h v w (by simpa [byteRow] using hown) ⟨rfl, rfl, rfl, Nat.le_refl _, fun _ _ _ => rfl⟩)
  · rcases hrd with h0 | ⟨b, off, rfl, hc⟩
    · exact absurd h0 hm
    · refine wpList_append_own w hgd s x 24 ho B 5 i0 (.int .u8 0) 1 1 Try.underlying24 hi hz0 hz1 hz2 rfl (by decide) v n xs hs hown ⟨b, off, none⟩ m c (byteRow f m) hx (by simp [byteRow]) (fun j u hj => ?_) (fun u hu => ?_) (by unfold maxLen; omega) (by omega) hB (fun v' w' h1 h2 _ => h v' w' h1 h2)
      · have hjm : j < m := by
          have := (List.getElem?_eq_some_iff.1 hj).1
          rwa [byteRow_length] at this
        rw [byteRow_get f m j hjm] at hj
        injection hj with hj
        subst hj
        have e : (Addr.add ⟨b, off, none⟩ j) = ⟨b, off + j, none⟩ := by
          unfold Addr.add
          by_cases h : j = 0
          · subst h; simp
          · simp [h]
        rw [e]
        exact hc j hjm
      · simp only [byteRow, List.mem_map] at hu
        obtain ⟨i, _, rfl⟩ := hu
        rfl

theorem ownB_ofRow {w : World} {B : Nat} {v : Value} {n : Nat} {f : Nat → Int} (h : w.ownsRow B 5 1 v n (byteRow f n)) : ∃ a c, v = .slice a n c ∧ OwnB w B a n f ∧ n ≤ c ∧ c ≤ 9223372036854775807 := by
  obtain ⟨_, h⟩ := h
  rcases h with ⟨rfl, rfl⟩ | ⟨g, cap, cur, rfl, hg, hh, h1, h2, h3, h4⟩
  · exact ⟨none, 0, rfl, Or.inl rfl, Nat.le_refl _, by omega⟩
  · unfold maxLen at h2
    refine ⟨_, cap, rfl, Or.inr ⟨g, rfl, hg, cur, hh, by omega, fun i hi => ?_⟩, h1, h2⟩
    rw [← byteRow_get f n i hi, ← h4]
    have : i < n * 1 := by omega
    rw [List.getElem?_take, if_pos this]
    simp

set_option maxHeartbeats 400000 in
theorem copyBytes_any (a : Option Addr) (n c : Nat) (f : Nat → Int) (w : World) (h : Rd .u8 w a n f) (hn : n ≤ 1048576) :
    Calls Try.prog 77 #[.slice a n c] w fun e w' => RetOwn w e w' n f := by
  have HR : Hid (Rd .u8 w a n f) := h
  clear h
  go_enter Try.func77, Try.ntmps77
  go_wp2_with (at_builtin; refine wpList_append_rd rfl _ _ rfl w.heap.size (.slice none 0 0) 0 [] rfl (World.ownsRow_nil _ _ _ _) a n c f rfl HR.out (by omega) (Nat.le_refl _) ?_)
  intro v' w' ho hg
  have HB : Hid (Below w.heap.size w w') := (Below.refl _ _).grown hg (Nat.le_refl _) (fun k e => by simp [Value.ownBlock] at e)
  obtain ⟨a', c', rfl, h1, h2, h3⟩ := ownB_ofRow ho
  have H1 : Hid (OwnB w' w.heap.size a' n f) := h1
  clear ho hg h1
  go_wp2
  go_ret
  exact ⟨a', c', rfl, H1.out, HB.out, h2, h3⟩
end Go.Proofs.Ytbpcafcipncloaa
