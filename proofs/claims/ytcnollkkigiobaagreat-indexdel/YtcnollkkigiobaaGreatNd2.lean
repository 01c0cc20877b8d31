import Derived.Test.YtcnollkkigiobaaGreatRows
import Derived.Test.YtcnollkkigiobaaGreatNd1
import Derived.WalkKit
import Derived.Deep.OwnRows
import Derived.Deep.RegionHeld3
import Derived.Deep.CutRange
import Derived.Deep.QuietTactic
import Derived.BigQuiet
import Derived.Handy
set_option linter.unusedVariables false
set_option maxRecDepth 100000
namespace Go.Proofs.YtcnollkkigiobaaGreat
open Go.RowKit Go.Deep

def freeB (x:Int):Bool:=decide (0<=x) && decide (x<=2000000000)

theorem runStoreFunc (P:Program) (w:World) (a:Addr) (m:Mode) (f:Fn) (x y:Array Value):(store a (.func f x y) m).run P w=stored P w a (.func f x y) m:=run_store P w a _ m rfl

set_option maxHeartbeats 1000000 in
theorem orders_any (w:World) :
  Calls Tryz.prog 62 #[] w fun e w'=>e=.returned (.agg #[.func (.func 101) #[] #[],.func (.func 102) #[] #[],.func (.func 103) #[] #[],.func (.func 104) #[] #[],.func (.func 105) #[] #[],.func (.func 106) #[] #[]])/\Below w.heap.size w w':=by
 go_enter Tryz.func62,Tryz.ntmps62
 go_wp2
 simp [runStoreFunc,go_sem,stored]
 rename_i hk
 refine hk _ _ ?_
 go_wp2
 refine bodyPost_ret (v:=.agg #[.func (.func 101) #[] #[],.func (.func 102) #[] #[],.func (.func 103) #[] #[],.func (.func 104) #[] #[],.func (.func 105) #[] #[],.func (.func 106) #[] #[]]) (by simp [results,Tryz.results62,go_sem]) rfl ⟨rfl,below_alloc _ _⟩

end Go.Proofs.YtcnollkkigiobaaGreat
