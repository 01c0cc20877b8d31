import Derived.Test.YtbmffmifemebmaaGreatDoorRows
import Derived.ProofKit
namespace Go.Proofs.YtbmffmifemebmaaGreatDoor.fnExactFormat
open Go
theorem closed : joinedFacts Tryz.pinned.checked.prog 3 Tryz.f3 Rows.fnExactFormatSpec Rows.fnExactFormatRow = true := by kernel_rfl
end Go.Proofs.YtbmffmifemebmaaGreatDoor.fnExactFormat
