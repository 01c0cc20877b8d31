import Derived.Test.YtcnollkkigiobaaGreatNa18
set_option linter.unusedVariables false
set_option maxRecDepth 100000
namespace Go.Proofs.YtcnollkkigiobaaGreat
open Go.RowKit Go.Deep

def RankC (w:World) (v:Value) (key:ByteArray) (r:Nat):Prop :=
  (∃ p,v = .iface 204 (.pointer (some p)) /\ Calls Tryz.prog 206 #[.pointer (some p),.string key] w fun e w' => e = .returned (.int .i64 (r:Int)) /\ w' = w) \/
  (∃ p,v = .iface 174 (.pointer (some p)) /\ Calls Tryz.prog 189 #[.pointer (some p),.string key] w fun e w' => e = .returned (.int .i64 (r:Int)) /\ w' = w)


def RetRk (w:World) (n:Nat) (N:Nat -> Tn) (key:ByteArray) (e:Ending) (w' : World):Prop :=
  ∃ r:Nat,e = .returned (.int .i64 (r:Int)) /\ Below w.heap.size w w' /\ ((∃ t,VTt n N t /\ r = cntL key (keysR 21 t)) \/ (¬ VT n N /\ r = 0))

end Go.Proofs.YtcnollkkigiobaaGreat
