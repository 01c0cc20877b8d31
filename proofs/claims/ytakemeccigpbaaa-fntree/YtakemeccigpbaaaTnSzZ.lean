import Derived.Test.YtakemeccigpbaaaTnR
import Derived.WalkKit
import Derived.Handy
namespace Go.Proofs.Ytakemeccigpbaaa
open Go.RowKit Go.Deep
set_option linter.unusedVariables false
set_option maxRecDepth 100000

/-- What is known of the sizes of a node that came in, and of one that passed. -/
def TnBig (x : Tn) : Prop := x.kn ≤ maxLen ∧ x.dn ≤ maxLen ∧ ∀ j, j < x.kn → (x.ks j).size ≤ maxLen
def TnFit (x : Tn) : Prop := x.kn ≤ 1048576 ∧ x.dn ≤ 1048576

end Go.Proofs.Ytakemeccigpbaaa
