import Derived.Test.YtakemeccigpbaaaTnT2
import Derived.Test.YtakemeccigpbaaaTnEq
import Derived.Test.YtakemeccigpbaaaTnSz
import Derived.Test.YtakemeccigpbaaaOpenTree
namespace Go.Proofs.Ytakemeccigpbaaa
open Go.RowKit Go.Deep
set_option linter.unusedVariables false
set_option maxRecDepth 100000

/-- A bool that tells whether P. -/
def AnsN (w : World) (P : Prop) (e : Ending) (w' : World) : Prop := ∃ b, e = .returned (.bool b) ∧ (b = true ↔ P) ∧ Below w.heap.size w w'

theorem pbox {W w' : World} {v0 : Value} {t : TypeId} (hb : Below (W.heap.size + 1) (W.alloc (.cells #[v0] t)) w') : w'.cell? ⟨W.heap.size, 0, none⟩ = some v0 ∧ W.heap.size < w'.heap.size := by
  have hs := hb.size
  refine ⟨?_, by simp at hs; omega⟩
  rw [hb.cell (by simp)]
  simp

set_option maxHeartbeats 2000000 in
theorem vtLaw0 (P : Prop) (a : Option Addr) (n c : Nat) (N : Nat → Tn) (w : World) (ha : RdTn w a n N) (hX : ∀ i, i < n → TnBig (N i)) (hn : n ≤ maxLen)
    (hspec : n ≤ 1048576 → (∀ i, i < n → TnFit (N i)) → ∀ W a, RdTn W a n N → Calls Try.prog 15 #[.agg #[.slice a n n]] W (AnsN W P)) (himpl : n ≤ 1048576 → (∀ i, i < n → TnFit (N i)) → ∀ W a, RdTn W a n N → Calls Try.prog 16 #[.agg #[.slice a n n]] W (AnsN W P)) :
    Calls Try.prog 4 #[.agg #[.slice a n c]] w fun e w' => e = .returned (.bool true) ∧ Below w.heap.size w w' := by
  have HA : Hid (RdTn w a n N) := ha
  have HXs : Hid (∀ i, i < n → TnBig (N i)) := hX
  have HSP : Hid (n ≤ 1048576 → (∀ i, i < n → TnFit (N i)) → ∀ W a, RdTn W a n N → Calls Try.prog 15 #[.agg #[.slice a n n]] W (AnsN W P)) := hspec
  have HIM : Hid (n ≤ 1048576 → (∀ i, i < n → TnFit (N i)) → ∀ W a, RdTn W a n N → Calls Try.prog 16 #[.agg #[.slice a n n]] W (AnsN W P)) := himpl
  clear ha hX hspec himpl
  go_enter Try.func4, Try.ntmps4
  go_wp2_with fail
  refine (szTree_any a n c N _ (HA.out.below (below_alloc _ _)) hn HXs.out).mono ?_
  rintro e w1 ⟨r, rfl, hr, hb1⟩
  rw [show ∀ O, (w.alloc O).heap.size = w.heap.size + 1 from fun O => by simp] at hb1
  have K1 : Hid (Below (w.heap.size + 1) (w.alloc (.cells #[.slice a n c] 41)) w1) := hb1
  have HJ : Hid (∀ {W : World}, Below (w.heap.size + 1) (w.alloc (.cells #[.slice a n c] 41)) W → Below w.heap.size w W) := fun h => (below_alloc _ _).trans (h.mono (by omega))
  obtain ⟨x0, xz1⟩ := pbox hb1
  clear hb1
  rcases hr with rfl | ⟨hr0, hn1, hfit⟩
  · clear x0
    go_wp2
    go_ret
    exact ⟨rfl, HJ.out K1.out⟩
  have hr1 : ¬ r < 0 := by omega
  have HF : Hid (∀ i, i < n → TnFit (N i)) := hfit
  clear hn hfit
  go_wp2_with fail
  refine (toTree_any a n c N w1 (HA.out.below (HJ.out K1.out)) hn1 HF.out).mono ?_
  rintro e w2 ⟨g2, KA2, DA2, KC2, DC2, rfl, hg2, hr2, hb2⟩
  have K2 : Hid (Below (w.heap.size + 1) (w.alloc (.cells #[.slice a n c] 41)) w2) := K1.out.trans (hb2.mono (by omega))
  have H2 : Hid (RdTn w2 (some ⟨g2, 0, none⟩) n N) := hr2.rd
  clear x0 hr2 hb2
  go_wp2_with fail
  refine (HSP.out hn1 HF.out w2 (some ⟨g2, 0, none⟩) (H2.out)).mono ?_
  rintro e w3 ⟨b3, rfl, hb3v, hb3⟩
  have K3 : Hid (Below (w.heap.size + 1) (w.alloc (.cells #[.slice a n c] 41)) w3) := K2.out.trans (hb3.mono (by have := K2.out.size; simp at this; omega))
  obtain ⟨x0, xz3⟩ := pbox K3.out
  have B3 : Hid (b3 = true ↔ P) := hb3v
  clear hb3 hb3v
  go_wp2_with fail
  refine (toTree_any a n c N w3 (HA.out.below (HJ.out K3.out)) hn1 HF.out).mono ?_
  rintro e w4 ⟨g4, KA4, DA4, KC4, DC4, rfl, hg4, hr4, hb4⟩
  have K4 : Hid (Below (w.heap.size + 1) (w.alloc (.cells #[.slice a n c] 41)) w4) := K3.out.trans (hb4.mono (by omega))
  have H4 : Hid (RdTn w4 (some ⟨g4, 0, none⟩) n N) := hr4.rd
  clear x0 hr4 hb4
  go_wp2_with fail
  refine (HIM.out hn1 HF.out _ (some ⟨g4, 0, none⟩) (H4.out.below (below_alloc _ _))).mono ?_
  rintro e w5 ⟨b5, rfl, hb5v, hb5⟩
  rw [show ∀ O, (w4.alloc O).heap.size = w4.heap.size + 1 from fun O => by simp] at hb5
  have K5 : Hid (Below (w.heap.size + 1) (w.alloc (.cells #[.slice a n c] 41)) w5) := (K4.out.alloc (by have := K4.out.size; simpa using this) _).trans (hb5.mono (by have := K4.out.size; simp at this; omega))
  have H5 : Hid (RdTn w5 (some ⟨g4, 0, none⟩) n N) := (H4.out.below (below_alloc _ _)).below (hb5.mono (by simp))
  obtain ⟨x0, xz5⟩ := pbox K5.out
  obtain ⟨y0, yz5⟩ := pbox hb5
  have hbb : b5 = b3 := by
    rw [Bool.eq_iff_iff]
    exact hb5v.trans B3.out.symm
  have R5 : Hid (RdTn w5 a n N) := HA.out.below (HJ.out K5.out)
  have L5 : Hid (Below (w4.heap.size + 1) (w4.alloc (.cells #[.slice (some ⟨g4, 0, none⟩) n n] 25)) w5) := hb5
  clear hb5 hb5v B3
  subst hbb
  have hbb : (!(b5 == b5)) = false := by simp
  go_wp2
  go_region_with (first
    | (go_at_call 21; refine (toTree_any a n c N _ (by exact R5.out) hn1 HF.out).mono ?_; rintro e w6 ⟨g6, KA6, DA6, KC6, DC6, rfl, hg6, hr6, hb6⟩; obtain ⟨z0, zz⟩ := pbox (L5.out.drew.trans (hb6.mono (by simp; omega))))
    | (go_at_call 22; refine (eqTree_yes (some ⟨g4, 0, none⟩) (some ⟨g6, 0, none⟩) n n n N _ ((by exact H5.out : RdTn w5.drew (some ⟨g4, 0, none⟩) n N).below hb6) hr6.rd hn1 HF.out).mono ?_; rintro e w7 ⟨rfl, hb7⟩))
  all_goals
    have HE : Hid (Below w.heap.size w w7) := by
      have q1 := (HJ.out K5.out).drew
      have s1 := q1.size
      have q2 := q1.trans (hb6.mono (by simpa using s1))
      exact q2.trans (hb7.mono q2.size)
    clear hb6 hb7 z0 x0 y0
    go_wp2
    go_ret
    exact ⟨rfl, HE.out⟩
end Go.Proofs.Ytakemeccigpbaaa
