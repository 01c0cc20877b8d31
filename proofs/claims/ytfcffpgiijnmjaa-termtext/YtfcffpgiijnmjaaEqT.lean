import Derived.Test.YtfcffpgiijnmjaaTerm
import Derived.WalkKit
import Derived.Deep.RegionWith
import Derived.Deep.RegionHeld3
import Derived.Handy
namespace Go.Proofs.Ytfcffpgiijnmjaa
open Go.RowKit Go.Deep
set_option linter.unusedVariables false
set_option maxRecDepth 100000

set_option maxHeartbeats 1000000 in
theorem eqTerm_yes (i r : Int) (x : ByteArray) (w : World) :
    Calls Try.prog 51 #[.agg #[.int .i64 i, .string x, .int .i64 r], .agg #[.int .i64 i, .string x, .int .i64 r]] w fun e w' => e = .returned (.bool true) ∧ Below w.heap.size w w' := by
  have h1 : (i != i) = false := by simp
  have h2 : (r != r) = false := by simp
  have h3 : (x.toList == x.toList) = true := by simp
  go_enter Try.func51, Try.ntmps51
  go_wp2
  go_ret
  exact ⟨rfl, (below_alloc _ _).trans ((below_alloc _ _).mono (by simp))⟩

set_option maxHeartbeats 2000000 in
theorem eqTermS_yes (a b : Option Addr) (n ca cb : Nat) (I : Nat → Int) (X : Nat → ByteArray) (R : Nat → Int) (w : World) (ha : RdT w a n I X R) (hb : RdT w b n I X R) (hn : n ≤ 1048576) :
    Calls Try.prog 32 #[.slice a n ca, .slice b n cb] w fun e w' => e = .returned (.bool true) ∧ Below w.heap.size w w' := by
  have hll : ((n : Int) != (n : Int)) = false := by simp
  go_enter Try.func32, Try.ntmps32
  go_wp2
  go_loopw [5] (fun i wr => ∃ k : Nat, k ≤ n ∧ i = .int .i64 k ∧ Below w.heap.size w wr) (fun i _ => n - (intOf i).toNat)
  case atStart => exact ⟨0, Nat.zero_le _, rfl, Below.refl _ _⟩
  case round =>
    obtain ⟨k, hk, rfl, hbel⟩ := hrel
    by_cases hlt : k < n
    · have hne : ¬ n = 0 := by omega
      have ha' := ha.below hbel
      have hb' := hb.below hbel
      rcases ha' with h | ⟨ba, oa, rfl, hca⟩
      · exact absurd h hne
      rcases hb' with h | ⟨bb, ob, rfl, hcb⟩
      · exact absurd h hne
      obtain ⟨h1, h2, h3⟩ := hca k hlt
      obtain ⟨g1, g2, g3⟩ := hcb k hlt
      clear hca hcb ha hb
      have hsz := hbel.size
      have HB : Hid (Below w.heap.size w wr) := hbel
      clear hbel
      go_wp2
      go_region_with (go_at_call 51; refine (eqTerm_yes (I k) (R k) (X k) _).mono ?_; rintro e w2 ⟨rfl, hb2⟩)
      all_goals
        have HX : Hid (Below w.heap.size w w2) := (HB.out.drew).trans (hb2.mono (by simpa using hsz))
        clear hb2 h1 h2 h3 g1 g2 g3
        go_wp2
        go_roundw
        case rel => exact ⟨k + 1, by omega, by go_num, HX.out⟩
        case measure => simp [intOf]; omega
    · have e : k = n := by omega
      subst e
      go_wp2
      go_ret
      exact ⟨rfl, hbel⟩

set_option maxHeartbeats 1000000 in
theorem eqDict_yes (next : Int) (a b : Option Addr) (n ca cb : Nat) (I : Nat → Int) (X : Nat → ByteArray) (R : Nat → Int) (w : World) (ha : RdT w a n I X R) (hb : RdT w b n I X R) (hn : n ≤ 1048576) :
    Calls Try.prog 11 #[.agg #[.int .i64 next, .slice a n ca], .agg #[.int .i64 next, .slice b n cb]] w fun e w' => e = .returned (.bool true) ∧ Below w.heap.size w w' := by
  have h1 : (next != next) = false := by simp
  have hbel : ∀ o1 o2, Below w.heap.size w ((w.alloc o1).alloc o2) := fun o1 o2 => ((Below.refl _ _).alloc (Nat.le_refl _) o1).alloc (by simp) o2
  have HH : Hid (∀ o1 o2, Below w.heap.size w ((w.alloc o1).alloc o2)) := hbel
  clear hbel
  go_enter Try.func11, Try.ntmps11
  go_wp2_with fail
  refine (eqTermS_yes a b n ca cb I X R _ (ha.below (HH.out _ _)) (hb.below (HH.out _ _)) hn).mono ?_
  rintro e w1 ⟨rfl, hb1⟩
  have HX : Hid (Below w.heap.size w w1) := (HH.out _ _).trans (hb1.mono (by simp; omega))
  clear hb1
  go_wp2
  go_ret
  exact ⟨rfl, HX.out⟩
end Go.Proofs.Ytfcffpgiijnmjaa
