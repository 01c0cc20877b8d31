import Derived.Test.YthcclkeeekppmaaNp16
namespace Go.Proofs.Ythcclkeeekppmaa
open Go.RowKit Go.Deep
set_option linter.unusedVariables false
set_option linter.unusedSimpArgs false
set_option maxRecDepth 100000

def ixT (c : Nat) : Nat := if 6 ≤ c ∧ c ≤ 8 then c else 0

/-- A row of nodes to which can be appended. -/
def ndC (x : Nd) : List Value := [.int .i64 (x.k : Int), .string (strT x.s), .string (strT x.t)]
def ndR (l : List Nd) : List Value := l.flatMap ndC
theorem ndC_length (x : Nd) : (ndC x).length = 3 := rfl
theorem ndR_length (l : List Nd) : (ndR l).length = l.length * 3 := by
  unfold ndR
  induction l with
  | nil => rfl
  | cons a l ih => rw [List.flatMap_cons, List.length_append, ih, ndC_length, List.length_cons]; omega
theorem ndR_app (a b : List Nd) : ndR (a ++ b) = ndR a ++ ndR b := List.flatMap_append
theorem ndR_one (l : List Nd) : ∀ u ∈ ndR l, u.oneCell' = true := by
  intro u hu
  unfold ndR at hu
  obtain ⟨x, _, hx⟩ := List.mem_flatMap.1 hu
  simp [ndC] at hx
  rcases hx with rfl | rfl | rfl <;> rfl
theorem infoPN : (Try.prog.info? 35).map (fun i => (i.zero, i.size, i.bytes)) = some (some (.agg #[.int .i64 0, .string { data := #[] }, .string { data := #[] }]), 3, 40) := by kernel_rfl
end Go.Proofs.Ythcclkeeekppmaa
