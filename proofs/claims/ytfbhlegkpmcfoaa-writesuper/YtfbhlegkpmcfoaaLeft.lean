import Derived.Test.YtfbhlegkpmcfoaaDevG
namespace Go.Proofs.Ytfbhlegkpmcfoaa
open Go.RowKit Go.Deep
set_option linter.unusedVariables false
set_option maxRecDepth 100000

/-- What the steps leave in the device. -/
def Left (W : World) (b B n : Nat) (w' : World) (d2 : Nat → Int) (m2 : Nat) (S2 : Nat → Int) (L2 : Nat → Nat) (F2 : Nat → Nat → Int) (fuel2 : Int) (dead2 : Bool) : Prop :=
  ∃ a' c' p' q' A' C', Dev w' b (.slice a' n c') (.slice p' m2 q') fuel2 dead2 ∧ OwnB w' B a' n d2 ∧ Gath w' B (.slice p' m2 q') m2 S2 L2 F2 A' C' ∧ (n ≠ 0 → ∀ i, i < m2 → L2 i ≠ 0 → A' i ≠ a') ∧ Below B W w'

theorem devNew (W : World) (v0 v1 : Value) (fuel : Int) (dead : Bool) : Dev (W.alloc (.cells #[v0, v1, .int .i64 fuel, .bool dead] 103)) W.heap.size v0 v1 fuel dead := by
  refine ⟨_, blk_alloc_new _ _, by simp, fun i hi => ?_⟩
  match i, hi with
  | 0, _ => rfl
  | 1, _ => rfl
  | 2, _ => rfl
  | 3, _ => rfl
end Go.Proofs.Ytfbhlegkpmcfoaa
