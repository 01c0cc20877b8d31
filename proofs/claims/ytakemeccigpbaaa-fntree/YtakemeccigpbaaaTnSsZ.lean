import Derived.Test.YtakemeccigpbaaaTnSzZ
namespace Go.Proofs.Ytakemeccigpbaaa
open Go.RowKit Go.Deep
set_option linter.unusedVariables false
set_option maxRecDepth 100000

/-- How many keys and children the first k nodes tell. -/
def sumT (N : Nat → Tn) : Nat → Nat
  | 0 => 0
  | k + 1 => sumT N k + (N k).kn + (N k).dn

end Go.Proofs.Ytakemeccigpbaaa
