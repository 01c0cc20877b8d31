import Derived.Test.YtocmbnocdjnfpaaPpT
import Derived.Test.YtocmbnocdjnfpaaPpL
namespace Go.Proofs.Ytocmbnocdjnfpaa
open Go.RowKit Go.Deep
set_option linter.unusedVariables false
set_option maxRecDepth 100000

/-- '[]byte(s)': a row of its own, marked behind. -/
theorem conv_sm (x : ByteArray) (W : World) : ∃ (c : Nat) (W' : World), (convert 9 33 (.string x)).run Try.prog W = .ok (.slice (some ⟨W.heap.size, 0, none⟩) x.size c) W' ∧ Below W.heap.size W W' ∧ rowM W' W.heap.size x.size (fun i => .int .u8 (lf (bl x) i)) := by
  refine ⟨_, _, run_bytes_of_string W _ _ 5 x (by kernel_rfl) (by kernel_rfl) (by kernel_rfl), ((Below.refl _ _).drew).alloc (by exact Nat.le_refl _) _, ?_⟩
  have hz : x.size ≤ (bytesRow x (grownCap W x.size 0 5)).size := by
    unfold bytesRow
    rw [Array.size_append, Array.size_map]
    show x.data.size ≤ _
    omega
  refine ⟨bytesRow x (grownCap W x.size 0 5), _, Array.getElem?_push_size, hz, hz, fun i hi => ?_⟩
  unfold bytesRow lf bl
  rw [Array.getElem?_append_left (by simp; exact hi), Array.getElem?_map]
  have hx : x.data[i]? = some x.data[i] := Array.getElem?_eq_getElem hi
  dsimp only
  rw [hx, List.getD_eq_getElem?_getD, List.getElem?_map, Array.getElem?_toList, hx]
  rfl
end Go.Proofs.Ytocmbnocdjnfpaa
