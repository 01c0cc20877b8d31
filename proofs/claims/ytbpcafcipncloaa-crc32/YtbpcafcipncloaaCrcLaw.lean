import Derived.Test.YtbpcafcipncloaaToByteS
import Derived.Test.YtbpcafcipncloaaEqByteS
import Derived.Test.YtbpcafcipncloaaCrc
namespace Go.Proofs.Ytbpcafcipncloaa
open Go.RowKit Go.Deep


set_option maxHeartbeats 1000000 in
theorem crcLaw (a : Option Addr) (len cap : Nat) (f : Nat → Int) (w : World) (h : Rd .u8 w a len f) (hf : ∀ i, i < len → 0 ≤ f i ∧ f i < 256) (hlm : len ≤ 9223372036854775807) :
    Calls Try.prog 4 #[.slice a len cap] w fun e w' => e = .returned (.bool true) ∧ Below w.heap.size w w' := by
  by_cases hbig : 1048576 < len
  · have hb' : (1048576 : Int) < (len : Int) := by omega
    go_enter Try.func4, Try.ntmps4
    go_wp2
    go_ret
    exact ⟨rfl, Below.refl _ _⟩
  · have hb' : ¬ (1048576 : Int) < (len : Int) := by omega
    have HF : Hid (∀ i, i < len → 0 ≤ f i ∧ f i < 256) := hf
    clear hf
    go_enter Try.func4, Try.ntmps4
    go_wp2_with fail
    refine (toByteS_any a len cap f w h (by omega)).mono ?_
    rintro e w1 ⟨rfl, hrow1, hb1, hs1⟩
    have H1 : Hid (w1.heap.size = w.heap.size + 1) := hs1
    clear hs1
    go_wp2_with fail
    refine (specCrc_any _ len len f w1 (Rd.ofRow hrow1) HF.out (by omega)).mono ?_
    rintro e w2 ⟨rfl, hw⟩
    subst hw
    go_wp2_with fail
    refine (toByteS_any a len cap f w2 (h.below hb1) (by omega)).mono ?_
    rintro e w3 ⟨rfl, hrow3, hb3, hs3⟩
    have H3 : Hid (w3.heap.size = w2.heap.size + 1) := hs3
    clear hs3
    go_wp2_with fail
    refine (implCrc_any _ len len f w3 (Rd.ofRow hrow3) HF.out (by omega)).mono ?_
    rintro e w4 ⟨rfl, hw⟩
    subst hw
    have hxx : (bits .xor .u32 (crcTo f len) 4294967295 != bits .xor .u32 (crcTo f len) 4294967295) = false := by simp
    generalize bits .xor .u32 (crcTo f len) 4294967295 = cc at *
    go_wp2_with fail
    have h4 : Rd .u8 w4 a len f := (h.below hb1).below hb3
    refine (toByteS_any a len cap f w4 h4 (by omega)).mono ?_
    rintro e w5 ⟨rfl, hrow5, hb5, hs5⟩
    have H5 : Hid (w5.heap.size = w4.heap.size + 1) := hs5
    clear hs5
    go_wp2_with fail
    refine (eqByteS_yes _ _ len len len f w5 ((Rd.ofRow hrow3).below hb5) (Rd.ofRow hrow5) (by omega)).mono ?_
    rintro e w6 ⟨rfl, n, rfl⟩
    go_wp2
    go_ret
    refine ⟨rfl, below_drewN ?_ n⟩
    have e1 := H1.out
    have e3 := H3.out
    exact (hb1.trans (hb3.mono (by omega))).trans (hb5.mono (by omega))
end Go.Proofs.Ytbpcafcipncloaa
