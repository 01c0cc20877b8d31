import Derived.Test.YtfecgececffdoaaVDict
import Derived.Test.YtfecgececffdoaaReadD
import Derived.Test.YtfecgececffdoaaEqT
import Derived.Test.YtfecgececffdoaaSzT
import Derived.Test.YtfecgececffdoaaToT
import Derived.Test.YtfecgececffdoaaOpenDict
namespace Go.Proofs.Ytfecgececffdoaa
open Go.RowKit Go.Deep
set_option linter.unusedVariables false
set_option maxRecDepth 100000

set_option maxHeartbeats 1000000 in
theorem implVD (next : Int) (a : Option Addr) (n c : Nat) (I : Nat → Int) (X : Nat → ByteArray) (R : Nat → Int) (w : World) (h : RdT w a n I X R) (hn : n ≤ 1048576) :
    Calls Try.prog 24 #[.agg #[.int .i64 next, .slice a n c]] w (AnsP w (VDt next n I X R)) := by
  go_enter Try.func24, Try.ntmps24
  go_wp2_with fail
  refine (readDict_any next a n c I X R _ (h.below (below_alloc _ _)) hn).mono ?_
  rintro e w1 hr
  have hsz : ∀ O : Obj, (w.alloc O).heap.size = w.heap.size + 1 := fun O => by simp
  rcases hr with ⟨hv, rfl, hb⟩ | ⟨hv, V, dt, rfl, hst⟩
  · have HV : Hid (¬ VDt next n I X R) := hv
    have HB : Hid (Below w.heap.size w w1) := (below_alloc _ _).trans (hb.mono (by rw [hsz]; omega))
    clear hv hb hsz
    go_wp2
    go_ret
    exact AnsP.no HV.out HB.out
  · have HV : Hid (VDt next n I X R) := hv
    have HB : Hid (Below w.heap.size w w1) := (below_alloc _ _).trans (hst.below.mono (by rw [hsz]; omega))
    clear hv hst hsz
    go_wp2
    go_ret
    exact AnsP.yes HV.out HB.out

end Go.Proofs.Ytfecgececffdoaa
