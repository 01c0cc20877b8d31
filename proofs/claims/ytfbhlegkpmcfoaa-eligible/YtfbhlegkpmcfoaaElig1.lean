import Derived.Test.YtfbhlegkpmcfoaaRows
import Derived.Test.YtfbhlegkpmcfoaaBase
import Derived.WalkKit
import Derived.Deep.OwnRows
import Derived.Deep.RegionHeld3
import Derived.Deep.CutRange
import Derived.Deep.QuietTactic
import Derived.BigQuiet
import Derived.Handy
namespace Go.Proofs.Ytfbhlegkpmcfoaa
open Go.RowKit Go.Deep
set_option linter.unusedVariables false
set_option maxRecDepth 100000

/-- A part of a pattern. -/
def freeB (x : Int) : Bool := decide (0 ≤ x) && decide (x ≤ 2000000000)

set_option maxHeartbeats 400000 in
theorem isFree_any (x : Int) (w : World) :
    Calls Try.prog 51 #[.int .i64 x] w fun e w' => e = .returned (.bool (freeB x)) ∧ w' = w := by
  by_cases h0 : x = 0
  · subst h0
    go_enter Try.func51, Try.ntmps51
    go_wp2
    go_ret
    exact ⟨rfl, rfl⟩
  by_cases h1 : 1 ≤ x
  · have HE : Hid (freeB x = (x == 0 || decide (x ≤ 2000000000))) := by show _ = _; unfold freeB; rw [decide_eq_true (by omega)]; simp [h0]
    go_enter Try.func51, Try.ntmps51
    go_wp2
    go_ret
    exact ⟨by rw [HE.out]; rfl, rfl⟩
  · have HE : Hid (freeB x = (x == 0)) := by show _ = _; unfold freeB; rw [decide_eq_false (by omega)]; simp [h0]
    go_enter Try.func51, Try.ntmps51
    go_wp2
    go_ret
    exact ⟨by rw [HE.out]; rfl, rfl⟩

set_option maxHeartbeats 1000000 in
theorem isPattern_any (a b c d : Int) (w : World) :
    Calls Try.prog 22 #[.agg #[.int .i64 a, .int .i64 b, .int .i64 c, .int .i64 d]] w fun e w' => e = .returned (.bool (freeB a && freeB b && freeB c && freeB d)) ∧ Below w.heap.size w w' := by
  have hs : freeB a = false ∨ (freeB a = true ∧ freeB b = false) ∨ (freeB a = true ∧ freeB b = true ∧ freeB c = false) ∨ (freeB a = true ∧ freeB b = true ∧ freeB c = true ∧ freeB d = false) ∨ (freeB a = true ∧ freeB b = true ∧ freeB c = true ∧ freeB d = true) := by
    cases freeB a <;> cases freeB b <;> cases freeB c <;> cases freeB d <;> simp
  rcases hs with ha | ⟨ha, hb⟩ | ⟨ha, hb, hc⟩ | ⟨ha, hb, hc, hd⟩ | ⟨ha, hb, hc, hd⟩
  all_goals
    have HA := ha
    go_enter Try.func22, Try.ntmps22
    go_wp2_with (first
      | (go_at_call 51; refine (isFree_any _ _).mono ?_; rintro e w1 ⟨rfl, rfl⟩)
      | go_in)
    go_ret
    exact ⟨by simp_all, (below_alloc _ _).trans ((below_alloc _ _).mono (by simp))⟩


theorem runStoreFunc (P : Program) (w : World) (a : Addr) (m : Mode) (f : Fn) (x y : Array Value) : (store a (.func f x y) m).run P w = stored P w a (.func f x y) m := run_store P w a _ m rfl

set_option maxHeartbeats 1000000 in
theorem orders_any (w : World) :
    Calls Try.prog 23 #[] w fun e w' => e = .returned (.agg #[.func (.func 52) #[] #[], .func (.func 53) #[] #[], .func (.func 54) #[] #[], .func (.func 55) #[] #[], .func (.func 56) #[] #[], .func (.func 57) #[] #[]]) ∧ Below w.heap.size w w' := by
  go_enter Try.func23, Try.ntmps23
  go_wp2
  simp [runStoreFunc, go_sem, stored]
  rename_i hk
  refine hk _ _ ?_
  go_wp2
  refine bodyPost_ret (v := .agg #[.func (.func 52) #[] #[], .func (.func 53) #[] #[], .func (.func 54) #[] #[], .func (.func 55) #[] #[], .func (.func 56) #[] #[], .func (.func 57) #[] #[]]) (by simp [results, Try.results23, go_sem]) rfl ⟨rfl, below_alloc _ _⟩

end Go.Proofs.Ytfbhlegkpmcfoaa
