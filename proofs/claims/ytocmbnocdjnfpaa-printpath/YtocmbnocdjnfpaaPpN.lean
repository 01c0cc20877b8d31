import Derived.Test.YtocmbnocdjnfpaaPpF
import Derived.Test.YtocmbnocdjnfpaaPpN0
import Derived.Test.YtocmbnocdjnfpaaPaV
namespace Go.Proofs.Ytocmbnocdjnfpaa
open Go.RowKit Go.Deep
set_option linter.unusedVariables false
set_option maxRecDepth 100000

set_option maxHeartbeats 1000000 in
theorem specPP (pt : List Int) (a : Option Addr) (n c : Nat) (I : Nat → Int) (X R : Nat → ByteArray) (w : World) (h : RdN w a n I X R) (hn : n ≤ 1048576) (hc : n ≤ c) (hcm : c ≤ 9223372036854775807) (ht : IsTx n I X R pt) :
    Calls Try.prog 14 #[.agg #[.slice a n c]] w (RetL w pt) := by
  have HT : Hid (IsTx n I X R pt) := ht
  clear ht
  have HV : Hid (∀ W, Below w.heap.size w W → Calls Try.prog 10 #[.agg #[.slice a n c]] W (AnsN W (VPth n I X R))) := fun W hW => specVP a n c I X R W (h.below hW) hn hc hcm
  have HR : Hid (RdN w a n I X R) := h
  have HB0 : Hid (Below w.heap.size w (w.alloc (.cells #[.slice a n c] 29))) := below_alloc _ _
  clear h
  go_enter Try.func14, Try.ntmps14
  go_wp2_with fail
  refine (HV.out _ HB0.out).mono ?_
  rintro e w1 ⟨bv1, rfl, hbv, hb1⟩
  have HB1 : Hid (Below w.heap.size w w1) := HB0.out.trans (hb1.mono HB0.out.size)
  have hbx : w1.cell? ⟨w.heap.size, 0, none⟩ = some (.slice a n c) := by
    rw [hb1.cell (by simp)]
    simp
  have hlt : w.heap.size < w1.heap.size := by have := hb1.size; simp at this; omega
  clear hb1 HV HB0
  cases bv1 with
  | false =>
    have hno : ¬ VPth n I X R := fun hv => by have := hbv.2 hv; cases this
    have HE : Hid (pt = []) := by
      rcases HT.out with ⟨q, _⟩ | ⟨_, q⟩
      · exact absurd q hno
      · exact q
    clear hbv hno
    have HF : Hid (RetL w pt (.returned (.slice (some ⟨w1.heap.size, 0, none⟩) 0 0)) (w1.alloc (.cells #[] 5))) := by
      rw [HE.out]
      exact retL_of rfl (.inl rfl) (HB1.out.alloc HB1.out.size _) (fun h0 => absurd h0 (by decide))
    go_wp2
    go_ret
    exact HF.out
  | true =>
    have hv : VPth n I X R := hbv.1 rfl
    have HE : Hid (pt = T I X R (n - 1)) := by
      rcases HT.out with ⟨_, q⟩ | ⟨q, _⟩
      · exact q
      · exact absurd hv q
    obtain ⟨m, hm⟩ : ∃ m, n = m + 1 := ⟨n - 1, by have := hv.1; omega⟩
    subst hm
    obtain ⟨b, o, ea⟩ : ∃ b o, a = some ⟨b, o, none⟩ := by
      rcases HR.out with h0 | ⟨b, o, e, _⟩
      · omega
      · exact ⟨b, o, e⟩
    subst ea
    have HS : Hid (Calls Try.prog 46 #[.slice (some ⟨b, o, none⟩) (m + 1) c] w1 (RetL w1 (T I X R m))) := by
      have q := l6Show_any hv.gd (m + 1) b o 0 m c w1 (by simpa only [Nat.zero_add] using HR.out.below HB1.out) (Nat.le_refl _) (by have := hv.1; omega) hc hcm (by omega) (by simpa only [Nat.zero_add] using hv.2.2.1)
      rw [Nat.zero_add] at q
      exact q
    clear hbv hv
    go_wp2_with fail
    refine HS.out.mono ?_
    rintro e w2 ⟨a2, c2, rfl, hr2, hb2, hf2⟩
    have HF : Hid (RetL w pt (.returned (.slice a2 (T I X R m).length c2)) w2) := by
      rw [HE.out, Nat.add_sub_cancel]
      exact retL_of rfl hr2 (HB1.out.trans (hb2.mono HB1.out.size)) (fun h0 p hp => Nat.le_trans HB1.out.size (hf2 h0 p hp))
    clear hr2 hb2 hf2
    go_wp2
    go_ret
    exact HF.out
end Go.Proofs.Ytocmbnocdjnfpaa
