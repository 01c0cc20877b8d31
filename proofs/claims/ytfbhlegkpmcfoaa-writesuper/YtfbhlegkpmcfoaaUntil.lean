import Derived.Test.YtfbhlegkpmcfoaaRows
import Derived.Test.YtfbhlegkpmcfoaaBase
import Derived.Defers
import Derived.Recover
import Derived.WalkLawsBesides
namespace Go.Proofs.Ytfbhlegkpmcfoaa
open Go.RowKit Go.Deep
set_option linter.unusedVariables false
set_option maxRecDepth 100000

set_option maxHeartbeats 400000 in
theorem catch_idle (w : World) :
    CallsD Try.prog 87 #[] .returning w fun e u' w' => e = .returned (.tuple #[]) ∧ u' = .returning ∧ w' = w := by
  refine callsD_of_wpS Try.func87 rfl fun c₀ cs hu => ?_
  apply wpS_seq
  apply wpS_region
  simp [wpOpsS, go_sem, recoverD, hu, Try.ntmps87, Exit.thenS]
  refine wpS_of_wp ?_
  have e : ((Array.replicate 14 undef).setIfInBounds 3 Value.nilIface).setIfInBounds 0 Value.nilIface = #[Value.nilIface, undef, undef, Value.nilIface, undef, undef, undef, undef, undef, undef, undef, undef, undef, undef] := rfl
  rw [e]
  clear e
  go_wp2
  cases c₀
  simp_all [bodyPostS, results, Try.results87]

set_option maxHeartbeats 400000 in
theorem catch_power (older : List PanicEntry) (w : World) :
    CallsD Try.prog 87 #[] (.panicking ({ v := .iface 111 (.agg #[]), recovered := false } :: older)) w fun e u' w' =>
      e = .returned (.tuple #[]) ∧ u' = .panicking ({ v := .iface 111 (.agg #[]), recovered := true } :: older) ∧ Below w.heap.size w w' := by
  have hta : ∀ w : World, (Instr.typeAssert (Value.iface 111 (.agg #[])) 20 111 true).run Try.prog w = .ok (.tuple #[.agg #[], .bool true]) w := fun w => by kernel_rfl
  refine callsD_of_wpS Try.func87 rfl fun c₀ cs hu => ?_
  apply wpS_seq
  apply wpS_region
  simp [wpOpsS, go_sem, recoverD, hu, Try.ntmps87, Exit.thenS]
  refine wpS_of_wp ?_
  have e : ((Array.replicate 14 undef).setIfInBounds 3 (Value.iface 111 (.agg #[]))).setIfInBounds 0 (Value.iface 111 (.agg #[])) = #[(Value.iface 111 (.agg #[])), undef, undef, (Value.iface 111 (.agg #[])), undef, undef, undef, undef, undef, undef, undef, undef, undef, undef] := rfl
  rw [e]
  clear e
  go_wp2
  simp [bodyPostS, results, Try.results87]
  exact below_alloc _ _

/-- How the steps end: they are done, or the power has gone. -/
def Stepped (e : Ending) : Prop := e = .returned (.tuple #[]) ∨ e = .panicked [{ v := .iface 111 (.agg #[]), recovered := false }]
end Go.Proofs.Ytfbhlegkpmcfoaa
