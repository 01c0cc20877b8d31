import Derived.Test.YtbpcafcipncloaaRows
import Derived.Test.YtbpcafcipncloaaBase
import Derived.Defers
import Derived.Recover
import Derived.WalkLawsBesides
namespace Go.Proofs.Ytbpcafcipncloaa
open Go.RowKit Go.Deep
set_option linter.unusedVariables false
set_option maxRecDepth 100000

set_option maxHeartbeats 400000 in
theorem catch_idle (w : World) :
    CallsD Try.prog 86 #[] .returning w fun e u' w' => e = .returned (.tuple #[]) ∧ u' = .returning ∧ w' = w := by
  refine callsD_of_wpS Try.func86 rfl fun c₀ cs hu => ?_
  apply wpS_seq
  apply wpS_region
  simp [wpOpsS, go_sem, recoverD, hu, Try.ntmps86, Exit.thenS]
  refine wpS_of_wp ?_
  have e : ((Array.replicate 14 undef).setIfInBounds 3 Value.nilIface).setIfInBounds 0 Value.nilIface = #[Value.nilIface, undef, undef, Value.nilIface, undef, undef, undef, undef, undef, undef, undef, undef, undef, undef] := rfl
  rw [e]
  clear e
  go_wp2
  cases c₀
  simp_all [bodyPostS, results, Try.results86]

set_option maxHeartbeats 400000 in
theorem catch_power (older : List PanicEntry) (w : World) :
    CallsD Try.prog 86 #[] (.panicking ({ v := .iface 103 (.agg #[]), recovered := false } :: older)) w fun e u' w' =>
      e = .returned (.tuple #[]) ∧ u' = .panicking ({ v := .iface 103 (.agg #[]), recovered := true } :: older) ∧ Below w.heap.size w w' := by
  have hta : ∀ w : World, (Instr.typeAssert (Value.iface 103 (.agg #[])) 20 103 true).run Try.prog w = .ok (.tuple #[.agg #[], .bool true]) w := fun w => by kernel_rfl
  refine callsD_of_wpS Try.func86 rfl fun c₀ cs hu => ?_
  apply wpS_seq
  apply wpS_region
  simp [wpOpsS, go_sem, recoverD, hu, Try.ntmps86, Exit.thenS]
  refine wpS_of_wp ?_
  have e : ((Array.replicate 14 undef).setIfInBounds 3 (Value.iface 103 (.agg #[]))).setIfInBounds 0 (Value.iface 103 (.agg #[])) = #[(Value.iface 103 (.agg #[])), undef, undef, (Value.iface 103 (.agg #[])), undef, undef, undef, undef, undef, undef, undef, undef, undef, undef] := rfl
  rw [e]
  clear e
  go_wp2
  simp [bodyPostS, results, Try.results86]
  exact below_alloc _ _

/-- How the steps end: they are done, or the power has gone. -/
def Stepped (e : Ending) : Prop := e = .returned (.tuple #[]) ∨ e = .panicked [{ v := .iface 103 (.agg #[]), recovered := false }]
end Go.Proofs.Ytbpcafcipncloaa
