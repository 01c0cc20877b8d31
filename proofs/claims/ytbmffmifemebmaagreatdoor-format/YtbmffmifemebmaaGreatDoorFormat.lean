import Derived.Test.YtbmffmifemebmaaGreatDoorRows
import Derived.Test.YtbmffmifemebmaaGreatDoorCards
import Derived.Test.YtbmffmifemebmaaGreatDoorTie
import Derived.Test.YtbmffmifemebmaaGreatDoorFmtA
import Derived.Test.YtbmffmifemebmaaGreatDoorFmtB
import Derived.ProofKit
import Derived.SevenTiedAt
namespace Go.Proofs.YtbmffmifemebmaaGreatDoor.fnExactFormat
open Go.ChangeShapes Go.WideShapes Go.ChangeAt Go.RowKit
theorem over : Rows.FnExactFormatSaid :=
  OpenClaim.holds_of_wide 3 Tryz.f3 rfl rfl rfl rfl rfl rfl rfl ⟨rfl, rfl, rfl, rfl, rfl⟩ rfl rfl rfl rfl rfl (by kernel_rfl) Tryz.func3 closed
    (of_decide_eq_true (by kernel_rfl)) (by unfold Func.isWrapper; first | (rw [if_pos (by decide +kernel)]; kernel_rfl) | (rw [if_neg (by decide +kernel)]; exact ⟨rfl, rfl⟩))
    (fun os started H enc _ => lifted os started H enc)
end Go.Proofs.YtbmffmifemebmaaGreatDoor.fnExactFormat

namespace Go.Proofs.YtbmffmifemebmaaGreatDoor
open Go
theorem format_holds : Rows.FnExactFormatCardSaid :=
  Claim7.holds_tied_plain_at .later [] [.data, .data, .data, .sentinel, .sentinel, .sentinel, .sentinel, .sentinel] true (true, "1e6e2dc09bfc9280e8fb335b6dab8a528c4c1f6e75c4751c6dc6974ee4a526ae") true
    fnExactFormat.over (fun _ h => by cases h) (by kernel_rfl) (fun _ h => by cases h) fnExactFormat_row_tie rfl ⟨rfl, rfl⟩ (by kernel_rfl) rfl
    (fun f fn hf hfn => by
      obtain rfl : f = 3 := Option.some.inj ((show Tryz.prog.funcNamed "loop.example/s01136/laws.FnExactFormat" = some 3 by kernel_rfl).symm.trans hf) |>.symm
      obtain rfl : fn = Tryz.f3 := (Option.some.inj (Tryz.func3.symm.trans hfn)).symm
      exact ⟨by kernel_rfl, fun j t ht => by
        rw [Tryz.params3] at ht
        have h3 : t = 2 := by
          rcases j with _ | j
          · simpa using ht.symm
          · simp at ht
        subst h3
        exact (show Tryz.prog.wantsStandIn 2 = false by kernel_rfl)⟩)
    (by kernel_rfl)
#print axioms format_holds
end Go.Proofs.YtbmffmifemebmaaGreatDoor
