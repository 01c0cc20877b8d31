import Derived.Test.YtakemeccigpbaaaMkTx
import Derived.Test.YtakemeccigpbaaaTnT2Z
import Derived.Test.YtakemeccigpbaaaTnSsZ
import Derived.Test.YtakemeccigpbaaaTiPZ
import Derived.Deep.RegionHeld3
namespace Go.Proofs.Ytakemeccigpbaaa
open Go.RowKit Go.Deep
set_option linter.unusedVariables false
set_option maxRecDepth 100000

/-- A slice whose cells the call may write. -/
def OwnV (w : World) (t : TypeId) (a : Option Addr) (n : Nat) (f : Nat → Value) : Prop := n = 0 ∨ ∃ g, a = some ⟨g, 0, none⟩ ∧ rowIn w g t n f

end Go.Proofs.Ytakemeccigpbaaa
