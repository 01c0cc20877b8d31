import Derived.Test.YtakemeccigpbaaaTnT2Z
import Derived.Test.YtakemeccigpbaaaTnSzZ
import Derived.Deep.QuietTactic
import Derived.BigQuiet
import Derived.Deep.RegionWith
import Derived.Test.YtakemeccigpbaaaOpenTreeZ
namespace Go.Proofs.Ytakemeccigpbaaa
open Go.RowKit Go.Deep
set_option linter.unusedVariables false
set_option maxRecDepth 100000

/-- A bool that tells whether P. -/
def AnsN (w : World) (P : Prop) (e : Ending) (w' : World) : Prop := ∃ b, e = .returned (.bool b) ∧ (b = true ↔ P) ∧ Below w.heap.size w w'

end Go.Proofs.Ytakemeccigpbaaa
