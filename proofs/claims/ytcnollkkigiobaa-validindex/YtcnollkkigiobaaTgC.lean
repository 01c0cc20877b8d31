import Derived.Test.YtcnollkkigiobaaTgB
namespace Go.Proofs.Ytcnollkkigiobaa
open Go.RowKit Go.Deep
set_option linter.unusedVariables false
set_option maxRecDepth 100000

/-- What TreeRange answers. -/
def RetRg (w : World) (n : Nat) (N : Nat → Tn) (lo hi : ByteArray) (e : Ending) (w' : World) : Prop :=
  ∃ (L : List ByteArray) (a : Option Addr) (c : Nat), e = .returned (.slice a L.length c) ∧ OwnS w' w.heap.size a L.length (gt L) ∧ Below w.heap.size w w' ∧ L.length ≤ 1048576 ∧ ((∃ t, VTt n N t ∧ L = fil lo hi (keysR 21 t)) ∨ (¬ VT n N ∧ L = []))

end Go.Proofs.Ytcnollkkigiobaa
