import Derived.Test.YthcclkeeekppmaaNp17
import Derived.Test.YthcclkeeekppmaaPaG
import Derived.BigQuiet
import Derived.Test.YthcclkeeekppmaaNp2
import Derived.Laws.BytesArg
namespace Go.Proofs.Ythcclkeeekppmaa
open Go.RowKit Go.Deep
set_option linter.unusedVariables false
set_option linter.unusedSimpArgs false
set_option maxRecDepth 100000

theorem strOfNums_T (l : List Int) : strOfNums l = strT l := rfl
theorem lf_map (q : List Int) : (List.range q.length).map (lf q) = q := by
  apply List.ext_getElem (by simp)
  intro i h1 h2
  simp at h1 h2 ⊢
  unfold lf
  rw [List.getD_eq_getElem?_getD, List.getElem?_eq_getElem h1]
  rfl
/-- Bytes turned into a string. -/
theorem conv_T {w : World} {a : Option Addr} {q : List Int} (n c : Nat) (hn : n = q.length) (h : Rd .u8 w a n (lf q)) : (convert 22 9 (.slice a n c)).run Try.prog w = .ok (.string (strT q)) w := by
  subst hn
  by_cases h0 : q = []
  · subst h0
    cases a with
    | none => exact run_convert_bytes_nil (P := Try.prog) w 22 5 (by kernel_rfl) (by kernel_rfl) 0 c 9 (by kernel_rfl)
    | some x =>
      show (convert 22 9 (.slice (some x) 0 c)).run Try.prog w = _
      rw [run_convert_bytes_string (P := Try.prog) w 22 9 5 _ 0 c (by kernel_rfl) (by kernel_rfl) (by kernel_rfl)]
      simp [Conv.bytesToString, loadCells]
      rfl
  · rcases h with h1 | ⟨b, off, rfl, hc⟩
    · exact absurd (List.length_eq_zero_iff.1 h1) h0
    · have := run_convert_bytes_arg (P := Try.prog) w 22 5 (by kernel_rfl) (by kernel_rfl) b off q.length c ((List.range q.length).map (lf q)) (by simp) (fun i hi => by rw [hc i hi]; simp [List.getD, hi]) 9 (by kernel_rfl)
      rw [this, lf_map, strOfNums_T]
theorem TxA.drew {w : World} {B n : Nat} {v : Value} {l : List Int} (h : TxA w B v n l) : TxA w.drew B v n l := h

/-- What l6Quoted gives back. -/
def QRet (f : Nat → Int) (n i : Nat) (w : World) (e : Ending) (w' : World) : Prop :=
  ∃ ok s k, e = .returned (.tuple #[.bool ok, .string s, .int .i64 k]) ∧ Below w.heap.size w w' ∧
    ((∃ q k', quoF f n (i + 1) [] = some (q, k') ∧ ok = true ∧ s = strT q ∧ k = (k' : Int)) ∨ (quoF f n (i + 1) [] = none ∧ ok = false))

end Go.Proofs.Ythcclkeeekppmaa
