import Derived.Test.YtocmbnocdjnfpaaPlL
namespace Go.Proofs.Ytocmbnocdjnfpaa
open Go.RowKit Go.Deep
set_option linter.unusedVariables false
set_option maxRecDepth 100000

set_option maxHeartbeats 1000000 in
theorem last_any : LastOk := by
  intro g n c f w h hn h100
  obtain ⟨m, rfl⟩ : ∃ m, n = m + 1 := ⟨n - 1, by omega⟩
  obtain ⟨c0, c1, c2, c3, c4, c5, c6⟩ := h.seven (i := m) (by omega)
  have wm : IntKind.i64.wrap (((m + 1 : Nat) : Int) - 1) = (m : Int) := by rw [IntKind.wrap_i64]; omega
  have im : (m : Int) < ((m + 1 : Nat) : Int) := by omega
  have im0 : (0 : Int) ≤ (m : Int) := by omega
  have hg := h.lt
  have hne : ¬ (g = w.heap.size) := by omega
  rw [show m + 1 - 1 = m by omega]
  generalize (f m).kind = z0 at *
  generalize (f m).s = z1 at *
  generalize (f m).t = z2 at *
  generalize (f m).bound = z3 at *
  generalize (f m).label = z4 at *
  generalize (f m).ad = z5 at *
  generalize (f m).cnt = z6 at *
  generalize (f m).cap = z7 at *
  generalize (f m).height = z8 at *
  clear h
  go_enter Try.func84, Try.ntmps84
  go_wp2
  refine bodyPost_ret (v := .agg #[.int .i64 z0, .string z1, .string z2, .bool z3, .string z4, .slice z5 z6 z7, .int .i64 z8]) (by simp [results, Try.results84, go_sem]) rfl ⟨rfl, ?_⟩
  exact below_alloc _ _
end Go.Proofs.Ytocmbnocdjnfpaa
