import Derived.Test.YtocmbnocdjnfpaaPlC
namespace Go.Proofs.Ytocmbnocdjnfpaa
open Go.RowKit Go.Deep
set_option linter.unusedVariables false
set_option maxRecDepth 100000

/-- Nothing is said of the contexts. -/
def AnyC (_ : Nat) (_ : Nat → Int) (_ : Nat → ByteArray) (_ : Nat → Bool) (_ : Nat → ByteArray) : Prop := True

theorem bind_any : BindOk AnyC := by
  intro g n c B I X R AA CC H w hP hO hcap hok hn hn0 hB
  refine (callsIn_wide.1 (bind_in Fence.wide 6 trivial trivial trivial rfl (by omega) g n c B I X R AA CC H w ⟨_, _, hP⟩ hO hcap hok hn hn0)).mono ?_
  rintro e w' ⟨he, ⟨Bd, Lb, hp⟩, hg⟩
  exact ⟨he, Bd, Lb, trivial, hp, hg⟩

theorem readPath_w (a : Option Addr) (n c : Nat) (I : Nat → Int) (X R : Nat → ByteArray) (w : World) (h : RdN w a n I X R) (hn : n ≤ 1048576) (hc : n ≤ c) (hcm : c ≤ 9223372036854775807) :
    Calls Try.prog 44 #[.agg #[.slice a n c]] w (PathRet (AnyC n I X) w n I X R) := readPath_any AnyC measure_any bind_any last_any a n c I X R w h hn hc hcm

set_option maxHeartbeats 2000000 in
theorem implVP (a : Option Addr) (n c : Nat) (I : Nat → Int) (X R : Nat → ByteArray) (w : World) (h : RdN w a n I X R) (hn : n ≤ 1048576) (hc : n ≤ c) (hcm : c ≤ 9223372036854775807) :
    Calls Try.prog 12 #[.agg #[.slice a n c]] w (AnsN w (VPth n I X R)) := by
  have HR : Hid (RdN w a n I X R) := h
  clear h
  go_enter Try.func12, Try.ntmps12
  go_wp2_with fail
  refine (readPath_w a n c I X R _ (HR.out.below (below_alloc _ _)) hn hc hcm).mono ?_
  rintro e w1 ⟨hb, hr⟩
  have HB : Hid (Below w.heap.size w w1) := (below_alloc _ _).trans (hb.mono (by simp))
  clear hb
  rcases hr with ⟨hv, v, rfl⟩ | ⟨hv, g, c', AA, CC, Bd, Lb, rfl, -⟩
  · have HV : Hid (¬ VPth n I X R) := hv
    clear hv
    go_wp2
    go_ret
    exact AnsN.no HV.out HB.out
  · have HV : Hid (VPth n I X R) := hv
    clear hv
    go_wp2
    go_ret
    exact AnsN.yes HV.out HB.out

theorem vpLaw (v : Value) (w : World) (hv : IsPath w v) : Calls Try.prog 3 #[v] w fun e w' => e = .returned (.bool true) ∧ Below w.heap.size w w' := by
  obtain ⟨a, n, c, I, X, R, rfl, ha, hX, hn⟩ := hv
  exact vpLaw0 (VPth n I X R) a n c I X R w ha hX hn
    (fun hn W a h => specVP a n n I X R W h hn (Nat.le_refl _) (by omega)) (fun hn W a h => implVP a n n I X R W h hn (Nat.le_refl _) (by omega))
end Go.Proofs.Ytocmbnocdjnfpaa
