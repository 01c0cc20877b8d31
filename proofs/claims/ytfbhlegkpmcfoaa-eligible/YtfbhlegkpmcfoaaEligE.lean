import Derived.Test.YtfbhlegkpmcfoaaElig4
namespace Go.Proofs.Ytfbhlegkpmcfoaa
open Go.RowKit Go.Deep
set_option maxRecDepth 100000
theorem idx_0 (w : World) : (Instr.index 56 (.agg #[.func (.func 52) #[] #[], .func (.func 53) #[] #[], .func (.func 54) #[] #[], .func (.func 55) #[] #[], .func (.func 56) #[] #[], .func (.func 57) #[] #[]]) (.int .i64 0)).run Try.prog w = .ok (.func (.func 52) #[] #[]) w := by
  simp [Instr.index, go_sem]
theorem idx_1 (w : World) : (Instr.index 56 (.agg #[.func (.func 52) #[] #[], .func (.func 53) #[] #[], .func (.func 54) #[] #[], .func (.func 55) #[] #[], .func (.func 56) #[] #[], .func (.func 57) #[] #[]]) (.int .i64 1)).run Try.prog w = .ok (.func (.func 53) #[] #[]) w := by
  simp [Instr.index, go_sem]
theorem idx_2 (w : World) : (Instr.index 56 (.agg #[.func (.func 52) #[] #[], .func (.func 53) #[] #[], .func (.func 54) #[] #[], .func (.func 55) #[] #[], .func (.func 56) #[] #[], .func (.func 57) #[] #[]]) (.int .i64 2)).run Try.prog w = .ok (.func (.func 54) #[] #[]) w := by
  simp [Instr.index, go_sem]
theorem idx_3 (w : World) : (Instr.index 56 (.agg #[.func (.func 52) #[] #[], .func (.func 53) #[] #[], .func (.func 54) #[] #[], .func (.func 55) #[] #[], .func (.func 56) #[] #[], .func (.func 57) #[] #[]]) (.int .i64 3)).run Try.prog w = .ok (.func (.func 55) #[] #[]) w := by
  simp [Instr.index, go_sem]
theorem idx_4 (w : World) : (Instr.index 56 (.agg #[.func (.func 52) #[] #[], .func (.func 53) #[] #[], .func (.func 54) #[] #[], .func (.func 55) #[] #[], .func (.func 56) #[] #[], .func (.func 57) #[] #[]]) (.int .i64 4)).run Try.prog w = .ok (.func (.func 56) #[] #[]) w := by
  simp [Instr.index, go_sem]
theorem idx_5 (w : World) : (Instr.index 56 (.agg #[.func (.func 52) #[] #[], .func (.func 53) #[] #[], .func (.func 54) #[] #[], .func (.func 55) #[] #[], .func (.func 56) #[] #[], .func (.func 57) #[] #[]]) (.int .i64 5)).run Try.prog w = .ok (.func (.func 57) #[] #[]) w := by
  simp [Instr.index, go_sem]

theorem fieldsQ : (Try.prog.fieldsOf 25).toList = [{ name := "S", type := 2, offset := 0, embedded := false, tag := "", pkgPath := "", byteOffset := 0 }, { name := "P", type := 2, offset := 1, embedded := false, tag := "", pkgPath := "", byteOffset := 8 }, { name := "O", type := 2, offset := 2, embedded := false, tag := "", pkgPath := "", byteOffset := 16 }, { name := "G", type := 2, offset := 3, embedded := false, tag := "", pkgPath := "", byteOffset := 24 }] := by kernel_rfl
theorem eqQ (a b c d a' b' c' d' : Int) (w : World) : (Op.equalIn 10000 25 (.agg #[.int .i64 a, .int .i64 b, .int .i64 c, .int .i64 d]) (.agg #[.int .i64 a', .int .i64 b', .int .i64 c', .int .i64 d'])).run Try.prog w = .ok (a == a' && (b == b' && (c == c' && d == d'))) w := by
  rw [show (10000 : Nat) = 9999 + 1 from rfl, run_equalIn_struct (P := Try.prog) w 9999 25 _ _ (by kernel_rfl) (by kernel_rfl), fieldsQ]
  simp [Op.eqFields, go_sem]
  by_cases h1 : a = a' <;> by_cases h2 : b = b' <;> by_cases h3 : c = c' <;> by_cases h4 : d = d' <;> simp [h1, h2, h3, h4]
end Go.Proofs.Ytfbhlegkpmcfoaa
