import Derived.Test.YtakemeccigpbaaaRows
import Derived.Test.YtakemeccigpbaaaTnSzZ
import Derived.ProofKit
import Derived.OpenShut
import Derived.Lib.SmallJoins
import Derived.Deep.SlicePairs
namespace Go.Proofs.Ytakemeccigpbaaa
open Go.ChangeShapes Go.WideShapes Go.ChangeAt Go.RowKit Go.Deep Go.Joins
set_option linter.unusedVariables false

section
variable {H : Type} {enc : TypeId × Value → H} {W : World}

/-- What the walk is told of a tree that came in. -/
def IsTree (w : World) (v : Value) : Prop :=
  ∃ a n c N, v = .agg #[.slice a n c] ∧ RdTn w a n N ∧ (∀ i, i < n → TnBig (N i)) ∧ n ≤ maxLen

end
end Go.Proofs.Ytakemeccigpbaaa
