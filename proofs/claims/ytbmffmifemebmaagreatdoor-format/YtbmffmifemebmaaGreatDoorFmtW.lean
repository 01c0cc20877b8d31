import Derived.Test.YtbmffmifemebmaaGreatDoorRows
import Derived.ProofKit
import Derived.LaidMore
import Derived.LaidHandle
namespace Go.Proofs.YtbmffmifemebmaaGreatDoor.fnExactFormat
open Go.ChangeShapes Go.WideShapes Go.ChangeAt Go.RowKit
/-- The heap that the door's own run leaves holds what the row lists. -/
theorem door_met (os : Go.Os) (args : Array Value) : laidMetH Tryz.prog Rows.fnExactFormatRow.laid ((World.doorLaid Tryz.prog 400 os).forCall (fun _ _ => 0) ⟨#[], args, []⟩).memory :=
  laidMetH_of_parts3 (fuel := 8) (laidMet_of_run' 8 (by kernel_rfl) (by kernel_rfl)) (by kernel_rfl) (by kernel_rfl)
end Go.Proofs.YtbmffmifemebmaaGreatDoor.fnExactFormat
