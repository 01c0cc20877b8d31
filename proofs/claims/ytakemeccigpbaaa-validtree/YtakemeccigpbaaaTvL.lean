import Derived.Test.YtakemeccigpbaaaTiR
import Derived.Test.YtakemeccigpbaaaOpenTree
namespace Go.Proofs.Ytakemeccigpbaaa
open Go.RowKit Go.Deep
set_option linter.unusedVariables false

theorem vtLawV (v : Value) (w : World) (hv : IsTree w v) : Calls Try.prog 4 #[v] w fun e w' => e = .returned (.bool true) ∧ Below w.heap.size w w' := by
  obtain ⟨a, n, c, N, rfl, ha, hX, hn⟩ := hv
  exact vtLaw a n c N w ha hX hn
end Go.Proofs.Ytakemeccigpbaaa
