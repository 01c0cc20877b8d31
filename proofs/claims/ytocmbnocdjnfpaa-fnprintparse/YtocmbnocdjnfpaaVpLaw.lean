import Derived.Test.YtocmbnocdjnfpaaPnTo
import Derived.Test.YtocmbnocdjnfpaaPnEq
import Derived.Test.YtocmbnocdjnfpaaPnSz
import Derived.Test.YtocmbnocdjnfpaaOpenPath
namespace Go.Proofs.Ytocmbnocdjnfpaa
open Go.RowKit Go.Deep
set_option linter.unusedVariables false
set_option maxRecDepth 100000

/-- A bool that tells whether P. -/
def AnsN (w : World) (P : Prop) (e : Ending) (w' : World) : Prop := ∃ b, e = .returned (.bool b) ∧ (b = true ↔ P) ∧ Below w.heap.size w w'

theorem pbox {W w' : World} {v0 : Value} {t : TypeId} (hb : Below (W.heap.size + 1) (W.alloc (.cells #[v0] t)) w') : w'.cell? ⟨W.heap.size, 0, none⟩ = some v0 ∧ W.heap.size < w'.heap.size := by
  have hs := hb.size
  refine ⟨?_, by simp at hs; omega⟩
  rw [hb.cell (by simp)]
  simp

set_option maxHeartbeats 2000000 in
theorem vpLaw0 (P : Prop) (a : Option Addr) (n c : Nat) (I : Nat → Int) (X : Nat → ByteArray) (R : Nat → ByteArray) (w : World) (ha : RdN w a n I X R) (hX : ∀ i, i < n → (X i).size ≤ maxLen ∧ (R i).size ≤ maxLen) (hn : n ≤ maxLen)
    (hspec : n ≤ 1048576 → ∀ W a, RdN W a n I X R → Calls Try.prog 10 #[.agg #[.slice a n n]] W (AnsN W P)) (himpl : n ≤ 1048576 → ∀ W a, RdN W a n I X R → Calls Try.prog 12 #[.agg #[.slice a n n]] W (AnsN W P)) :
    Calls Try.prog 3 #[.agg #[.slice a n c]] w fun e w' => e = .returned (.bool true) ∧ Below w.heap.size w w' := by
  have HA : Hid (RdN w a n I X R) := ha
  have HXs : Hid (∀ i, i < n → (X i).size ≤ maxLen ∧ (R i).size ≤ maxLen) := hX
  have HSP : Hid (n ≤ 1048576 → ∀ W a, RdN W a n I X R → Calls Try.prog 10 #[.agg #[.slice a n n]] W (AnsN W P)) := hspec
  have HIM : Hid (n ≤ 1048576 → ∀ W a, RdN W a n I X R → Calls Try.prog 12 #[.agg #[.slice a n n]] W (AnsN W P)) := himpl
  clear ha hX hspec himpl
  go_enter Try.func3, Try.ntmps3
  go_wp2_with fail
  refine (szPath_any a n c I X R 1048576 _ (HA.out.below (below_alloc _ _)) hn HXs.out (by omega) (by omega)).mono ?_
  rintro e w1 ⟨r, rfl, hr, hb1⟩
  rw [show ∀ O, (w.alloc O).heap.size = w.heap.size + 1 from fun O => by simp] at hb1
  have K1 : Hid (Below (w.heap.size + 1) (w.alloc (.cells #[.slice a n c] 24)) w1) := hb1
  have HJ : Hid (∀ {W : World}, Below (w.heap.size + 1) (w.alloc (.cells #[.slice a n c] 24)) W → Below w.heap.size w W) := fun h => (below_alloc _ _).trans (h.mono (by omega))
  obtain ⟨x0, xz1⟩ := pbox hb1
  clear hb1
  rcases hr with rfl | ⟨hr0, hn1⟩
  · clear x0
    go_wp2
    go_ret
    exact ⟨rfl, HJ.out K1.out⟩
  have hr1 : ¬ r < 0 := by omega
  clear hn
  go_wp2_with fail
  refine (toPath_any a n c I X R w1 (HA.out.below (HJ.out K1.out)) hn1).mono ?_
  rintro e w2 ⟨g2, rfl, hg2, hr2, hb2⟩
  have K2 : Hid (Below (w.heap.size + 1) (w.alloc (.cells #[.slice a n c] 24)) w2) := K1.out.trans (hb2.mono (by omega))
  have H2 : Hid (rowIn w2 g2 61 (n * 3) (pnCell I X R)) := hr2
  clear x0 hr2 hb2
  go_wp2_with fail
  refine (HSP.out hn1 w2 (some ⟨g2, 0, none⟩) (rdN_row H2.out)).mono ?_
  rintro e w3 ⟨b3, rfl, hb3v, hb3⟩
  have K3 : Hid (Below (w.heap.size + 1) (w.alloc (.cells #[.slice a n c] 24)) w3) := K2.out.trans (hb3.mono (by have := K2.out.size; simp at this; omega))
  obtain ⟨x0, xz3⟩ := pbox K3.out
  have B3 : Hid (b3 = true ↔ P) := hb3v
  clear hb3 hb3v
  go_wp2_with fail
  refine (toPath_any a n c I X R w3 (HA.out.below (HJ.out K3.out)) hn1).mono ?_
  rintro e w4 ⟨g4, rfl, hg4, hr4, hb4⟩
  have K4 : Hid (Below (w.heap.size + 1) (w.alloc (.cells #[.slice a n c] 24)) w4) := K3.out.trans (hb4.mono (by omega))
  have H4 : Hid (rowIn w4 g4 61 (n * 3) (pnCell I X R)) := hr4
  clear x0 hr4 hb4
  go_wp2_with fail
  refine (HIM.out hn1 _ (some ⟨g4, 0, none⟩) ((rdN_row H4.out).below (below_alloc _ _))).mono ?_
  rintro e w5 ⟨b5, rfl, hb5v, hb5⟩
  rw [show ∀ O, (w4.alloc O).heap.size = w4.heap.size + 1 from fun O => by simp] at hb5
  have K5 : Hid (Below (w.heap.size + 1) (w.alloc (.cells #[.slice a n c] 24)) w5) := (K4.out.alloc (by have := K4.out.size; simpa using this) _).trans (hb5.mono (by have := K4.out.size; simp at this; omega))
  have H5 : Hid (RdN w5 (some ⟨g4, 0, none⟩) n I X R) := ((rdN_row H4.out).below (below_alloc _ _)).below (hb5.mono (by simp))
  obtain ⟨x0, xz5⟩ := pbox K5.out
  obtain ⟨y0, yz5⟩ := pbox hb5
  have hbb : b5 = b3 := by
    rw [Bool.eq_iff_iff]
    exact hb5v.trans B3.out.symm
  have R5 : Hid (RdN w5 a n I X R) := HA.out.below (HJ.out K5.out)
  have L5 : Hid (Below (w4.heap.size + 1) (w4.alloc (.cells #[.slice (some ⟨g4, 0, none⟩) n n] 29)) w5) := hb5
  clear hb5 hb5v B3
  subst hbb
  have hbb : (!(b5 == b5)) = false := by simp
  go_wp2
  go_region_with (first
    | (go_at_call 11; refine (toPath_any a n c I X R _ (by exact R5.out) hn1).mono ?_; rintro e w6 ⟨g6, rfl, hg6, hr6, hb6⟩; obtain ⟨z0, zz⟩ := pbox (L5.out.drew.trans (hb6.mono (by simp; omega))))
    | (go_at_call 13; refine (eqPath_yes (some ⟨g4, 0, none⟩) (some ⟨g6, 0, none⟩) n n n I X R _ ((by exact H5.out : RdN w5.drew (some ⟨g4, 0, none⟩) n I X R).below hb6) (rdN_row hr6) hn1).mono ?_; rintro e w7 ⟨rfl, hb7⟩))
  all_goals
    have HE : Hid (Below w.heap.size w w7) := by
      have q1 := (HJ.out K5.out).drew
      have s1 := q1.size
      have q2 := q1.trans (hb6.mono (by simpa using s1))
      exact q2.trans (hb7.mono q2.size)
    clear hb6 hb7 z0 x0 y0
    go_wp2
    go_ret
    exact ⟨rfl, HE.out⟩
end Go.Proofs.Ytocmbnocdjnfpaa
