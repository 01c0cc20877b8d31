import Derived.Test.YtfcffpgiijnmjaaTermI
import Derived.Test.YtfcffpgiijnmjaaEqT
import Derived.Test.YtfcffpgiijnmjaaSzT
import Derived.Test.YtfcffpgiijnmjaaToT
import Derived.Test.YtfcffpgiijnmjaaOpenDict
namespace Go.Proofs.Ytfcffpgiijnmjaa
open Go.RowKit Go.Deep
set_option linter.unusedVariables false
set_option maxRecDepth 100000

set_option maxHeartbeats 2000000 in
theorem tiLaw (v : Value) (x : ByteArray) (w : World) (hv : IsDict w v) (hx : x.size ≤ maxLen) :
    Calls Try.prog 5 #[v, .string x] w fun e w' => e = .returned (.bool true) ∧ Below w.heap.size w w' := by
  obtain ⟨next, a, n, c, I, X, R, rfl, ha, hX, hn⟩ := hv
  have HA : Hid (RdT w a n I X R) := ha
  have HXs : Hid (∀ i, i < n → (X i).size ≤ maxLen) := hX
  clear ha hX
  unfold maxLen at hx
  by_cases hbig : 1048576 < (x.size : Int)
  · go_enter Try.func5, Try.ntmps5
    go_wp2
    go_ret
    exact ⟨rfl, below_alloc _ _⟩
  go_enter Try.func5, Try.ntmps5
  go_wp2_with fail
  refine (szDict_any next a n c I X R 1048576 _ (HA.out.below (below_alloc _ _)) hn HXs.out (by omega) (by omega)).mono ?_
  rintro e w1 ⟨r, rfl, hr, hb1⟩
  rw [show ∀ O, (w.alloc O).heap.size = w.heap.size + 1 from fun O => by simp] at hb1
  have K1 : Hid (Below (w.heap.size + 1) (w.alloc (.cells #[.int .i64 next, .slice a n c] 31)) w1) := hb1
  have HJ : Hid (∀ {W : World}, Below (w.heap.size + 1) (w.alloc (.cells #[.int .i64 next, .slice a n c] 31)) W → Below w.heap.size w W) := fun h => (below_alloc _ _).trans (h.mono (by omega))
  obtain ⟨x0, x1, xz1, _⟩ := dbox hb1
  clear hb1
  rcases hr with rfl | ⟨hr0, hn1⟩
  · clear x0 x1
    go_wp2
    go_ret
    exact ⟨rfl, HJ.out K1.out⟩
  have hr1 : ¬ r < 0 := by omega
  clear hn
  go_wp2_with fail
  refine (toDict_any next a n c I X R w1 (HA.out.below (HJ.out K1.out)) hn1).mono ?_
  rintro e w2 ⟨g2, rfl, hg2, hr2, hb2⟩
  have K2 : Hid (Below (w.heap.size + 1) (w.alloc (.cells #[.int .i64 next, .slice a n c] 31)) w2) := K1.out.trans (hb2.mono (by omega))
  have H2 : Hid (rowIn w2 g2 57 (n * 3) (termCell I X R)) := hr2
  clear x0 x1 hr2 hb2
  go_wp2_with fail
  refine (specTermId next (some ⟨g2, 0, none⟩) n n I X R x w2 (rdT_row H2.out) hn1).mono ?_
  rintro e w3 ⟨b3, rfl, hb3v, hb3⟩
  have K3 : Hid (Below (w.heap.size + 1) (w.alloc (.cells #[.int .i64 next, .slice a n c] 31)) w3) := K2.out.trans (hb3.mono (by have := K2.out.size; simp at this; omega))
  obtain ⟨x0, x1, xz3, _⟩ := dbox K3.out
  have B3 : Hid (IdOf n I X R next x b3) := hb3v
  clear hb3 hb3v
  go_wp2_with fail
  refine (toDict_any next a n c I X R w3 (HA.out.below (HJ.out K3.out)) hn1).mono ?_
  rintro e w4 ⟨g4, rfl, hg4, hr4, hb4⟩
  have K4 : Hid (Below (w.heap.size + 1) (w.alloc (.cells #[.int .i64 next, .slice a n c] 31)) w4) := K3.out.trans (hb4.mono (by omega))
  have H4 : Hid (rowIn w4 g4 57 (n * 3) (termCell I X R)) := hr4
  clear x0 x1 hr4 hb4
  go_wp2_with fail
  refine (implTermId next (some ⟨g4, 0, none⟩) n n I X R x _ ((rdT_row H4.out).below (below_alloc _ _)) hn1).mono ?_
  rintro e w5 ⟨b5, rfl, hb5v, hb5⟩
  rw [show ∀ O, (w4.alloc O).heap.size = w4.heap.size + 1 from fun O => by simp] at hb5
  have K5 : Hid (Below (w.heap.size + 1) (w.alloc (.cells #[.int .i64 next, .slice a n c] 31)) w5) := (K4.out.alloc (by have := K4.out.size; simpa using this) _).trans (hb5.mono (by have := K4.out.size; simp at this; omega))
  have H5 : Hid (RdT w5 (some ⟨g4, 0, none⟩) n I X R) := ((rdT_row H4.out).below (below_alloc _ _)).below (hb5.mono (by simp))
  obtain ⟨x0, x1, xz5, _⟩ := dbox K5.out
  obtain ⟨y0, y1, yz5, _⟩ := dbox hb5
  have hbb : b5 = b3 := hb5v.same B3.out
  have R5 : Hid (RdT w5 a n I X R) := HA.out.below (HJ.out K5.out)
  have L5 : Hid (Below (w4.heap.size + 1) (w4.alloc (.cells #[.int .i64 next, .slice (some ⟨g4, 0, none⟩) n n] 24)) w5) := hb5
  clear hb5 hb5v B3
  subst hbb
  have hbb : (b5 != b5) = false := by simp
  go_wp2
  go_region_with (first
    | (go_at_call 16; refine (toDict_any next a n c I X R _ (by exact R5.out) hn1).mono ?_; rintro e w6 ⟨g6, rfl, hg6, hr6, hb6⟩; obtain ⟨z0, z1, zz, _⟩ := dbox (L5.out.drew.trans (hb6.mono (by simp; omega))))
    | (go_at_call 11; refine (eqDict_yes next (some ⟨g4, 0, none⟩) (some ⟨g6, 0, none⟩) n n n I X R _ ((by exact H5.out : RdT w5.drew (some ⟨g4, 0, none⟩) n I X R).below hb6) (rdT_row hr6) hn1).mono ?_; rintro e w7 ⟨rfl, hb7⟩))
  all_goals
    have HE : Hid (Below w.heap.size w w7) := by
      have q1 := (HJ.out K5.out).drew
      have s1 := q1.size
      have q2 := q1.trans (hb6.mono (by simpa using s1))
      exact q2.trans (hb7.mono q2.size)
    clear hb6 hb7 z0 z1 x0 x1 y0 y1
    go_wp2
    go_ret
    exact ⟨rfl, HE.out⟩
end Go.Proofs.Ytfcffpgiijnmjaa
