import Derived.Test.YtfcffpgiijnmjaaTerm
import Derived.WalkKit
import Derived.Handy
namespace Go.Proofs.Ytfcffpgiijnmjaa
open Go.RowKit Go.Deep
set_option linter.unusedVariables false
set_option maxRecDepth 100000

set_option maxHeartbeats 400000 in
theorem szTerm_any (i r : Int) (x : ByteArray) (l : Int) (w : World) (hx : x.size ≤ maxLen) (h0 : 0 ≤ l) (h1 : l ≤ 1048576) :
    Calls Try.prog 53 #[.agg #[.int .i64 i, .string x, .int .i64 r], .int .i64 l] w fun e w' => ∃ q : Int, e = .returned (.int .i64 q) ∧ (q = -1 ∨ (0 ≤ q ∧ q ≤ 1048576)) ∧ Below w.heap.size w w' := by
  unfold maxLen at hx
  by_cases h : l - (x.size : Int) < 0
  · go_enter Try.func53, Try.ntmps53
    go_wp2
    go_ret
    exact ⟨-1, rfl, Or.inl rfl, below_alloc _ _⟩
  · go_enter Try.func53, Try.ntmps53
    go_wp2
    go_ret
    exact ⟨_, rfl, Or.inr ⟨by omega, by omega⟩, below_alloc _ _⟩

set_option maxHeartbeats 1000000 in
theorem szTermS_any (a : Option Addr) (n c : Nat) (I : Nat → Int) (X : Nat → ByteArray) (R : Nat → Int) (l : Int) (w : World) (h : RdT w a n I X R) (hn : n ≤ maxLen) (hX : ∀ i, i < n → (X i).size ≤ maxLen) (h0 : 0 ≤ l) (h1 : l ≤ 1048576) :
    Calls Try.prog 35 #[.slice a n c, .int .i64 l] w fun e w' => ∃ r : Int, e = .returned (.int .i64 r) ∧ (r = -1 ∨ (0 ≤ r ∧ n ≤ 1048576)) ∧ Below w.heap.size w w' := by
  unfold maxLen at hn
  by_cases hneg : l - (n : Int) < 0
  · go_enter Try.func35, Try.ntmps35
    go_wp2
    go_ret
    exact ⟨-1, rfl, Or.inl rfl, Below.refl _ _⟩
  · go_enter Try.func35, Try.ntmps35
    go_wp2
    go_loopw [1, 5] (fun q i wr => ∃ (k : Nat) (l' : Int), k ≤ n ∧ i = .int .i64 k ∧ q = .int .i64 l' ∧ 0 ≤ l' ∧ l' ≤ 1048576 ∧ Below w.heap.size w wr) (fun _ i _ => n - (intOf i).toNat)
    case atStart => exact ⟨0, _, Nat.zero_le _, rfl, rfl, by omega, by omega, Below.refl _ _⟩
    case round =>
      obtain ⟨k, l', hk, rfl, rfl, hl0, hl1, hbel⟩ := hrel
      by_cases hlt : k < n
      · have hne : ¬ n = 0 := by omega
        have h' := h.below hbel
        have HB : Hid (Below w.heap.size w wr) := hbel
        have hsz := hbel.size
        rcases h' with h' | ⟨b, o, rfl, hc⟩
        · exact absurd h' hne
        obtain ⟨c1, c2, c3⟩ := hc k hlt
        have HX := hX k hlt
        clear hc h hbel hX
        go_wp2_with fail
        refine (szTerm_any (I k) (R k) (X k) l' _ HX hl0 hl1).mono ?_
        rintro e w1 ⟨q, rfl, hq, hb1⟩
        have HB1 : Hid (Below w.heap.size w w1) := HB.out.trans (hb1.mono (by simpa using hsz))
        clear hb1 c1 c2 c3
        rcases hq with rfl | ⟨hq0, hq1⟩
        · go_wp2
          go_ret
          exact ⟨-1, rfl, Or.inl rfl, HB1.out⟩
        · have hq2 : ¬ q < 0 := by omega
          go_wp2
          go_roundw
          case rel => exact ⟨k + 1, q, by omega, by go_num, rfl, hq0, hq1, HB1.out⟩
          case measure => simp [intOf]; omega
      · have e : k = n := by omega
        subst e
        go_wp2
        go_ret
        exact ⟨l', rfl, Or.inr ⟨hl0, by omega⟩, hbel⟩

set_option maxHeartbeats 1000000 in
theorem szDict_any (next : Int) (a : Option Addr) (n c : Nat) (I : Nat → Int) (X : Nat → ByteArray) (R : Nat → Int) (l : Int) (w : World) (h : RdT w a n I X R) (hn : n ≤ maxLen) (hX : ∀ i, i < n → (X i).size ≤ maxLen) (h0 : 0 ≤ l) (h1 : l ≤ 1048576) :
    Calls Try.prog 14 #[.agg #[.int .i64 next, .slice a n c], .int .i64 l] w fun e w' => ∃ r : Int, e = .returned (.int .i64 r) ∧ (r = -1 ∨ (0 ≤ r ∧ n ≤ 1048576)) ∧ Below w.heap.size w w' := by
  go_enter Try.func14, Try.ntmps14
  go_wp2_with fail
  refine (szTermS_any a n c I X R l _ (h.below (below_alloc _ _)) hn hX h0 h1).mono ?_
  rintro e w1 ⟨r, rfl, hr, hb1⟩
  have HB1 : Hid (Below w.heap.size w w1) := (below_alloc _ _).trans (hb1.mono (by simp))
  clear hb1
  rcases hr with rfl | ⟨hr, hrn⟩
  · go_wp2
    go_ret
    exact ⟨-1, rfl, Or.inl rfl, HB1.out⟩
  · have hr1 : ¬ r < 0 := by omega
    go_wp2
    go_ret
    exact ⟨r, rfl, Or.inr ⟨hr, hrn⟩, HB1.out⟩
end Go.Proofs.Ytfcffpgiijnmjaa
