import Derived.Test.YtcnollkkigiobaaGreatNd18
import Derived.Deep.QuietTactic
import Derived.BigQuiet
set_option linter.unusedVariables false
set_option maxRecDepth 100000
namespace Go.Proofs.YtcnollkkigiobaaGreat
open Go.RowKit Go.Deep

def fit1 (p q:Int):Bool:=p == 0 || p == q
def fitB (q p:Qd):Bool:=fit1 p.s q.s && fit1 p.p q.p && fit1 p.o q.o && fit1 p.g q.g
end Go.Proofs.YtcnollkkigiobaaGreat
