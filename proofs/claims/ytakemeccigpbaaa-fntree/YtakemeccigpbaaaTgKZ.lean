import Derived.Test.YtakemeccigpbaaaTgHZ
namespace Go.Proofs.Ytakemeccigpbaaa
open Go.RowKit Go.Deep
set_option linter.unusedVariables false
set_option maxRecDepth 100000

/-- The number at which node i is marked. -/
def koT (k : Nat) (N : Nat → Tn) (i : Nat) : Nat := k + 2 * i + sumT N i
/-- A node, marked. -/
def mkN (k : Nat) (N : Nat → Tn) (i : Nat) : Tn :=
  { lf := ((koT k N i : Int) % 3 == 0), kn := (N i).kn, ks := fun j => mkT (koT k N i + 1 + j), dn := (N i).dn, kd := fun j => ((koT k N i + 1 + (N i).kn + j : Nat) : Int), ct := ((koT k N i + 1 + (N i).kn + (N i).dn : Nat) : Int) }
/-- The first j nodes marked. -/
def mkTo (k : Nat) (N : Nat → Tn) (j i : Nat) : Tn := if i < j then mkN k N i else N i

end Go.Proofs.Ytakemeccigpbaaa
