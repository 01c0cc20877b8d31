import Derived.Test.YtcnollkkigiobaaGreatTnT2
import Derived.Test.YtcnollkkigiobaaGreatTnEq
import Derived.Test.YtcnollkkigiobaaGreatTnSz
import Derived.Test.YtcnollkkigiobaaGreatOpenTree
namespace Go.Proofs.YtcnollkkigiobaaGreat
open Go.RowKit Go.Deep
set_option linter.unusedVariables false
set_option maxRecDepth 100000

/-- A bool that tells whether P. -/
def AnsN (w : World) (P : Prop) (e : Ending) (w' : World) : Prop := ∃ b, e = .returned (.bool b) ∧ (b = true ↔ P) ∧ Below w.heap.size w w'

theorem pbox {W w' : World} {v0 : Value} {t : TypeId} (hb : Below (W.heap.size + 1) (W.alloc (.cells #[v0] t)) w') : w'.cell? ⟨W.heap.size, 0, none⟩ = some v0 ∧ W.heap.size < w'.heap.size := by
  have hs := hb.size
  refine ⟨?_, by simp at hs; omega⟩
  rw [hb.cell (by simp)]
  simp

end Go.Proofs.YtcnollkkigiobaaGreat
