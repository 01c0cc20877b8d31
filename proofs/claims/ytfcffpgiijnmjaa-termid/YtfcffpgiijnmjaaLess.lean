import Derived.Test.YtfcffpgiijnmjaaVDefs
namespace Go.Proofs.Ytfcffpgiijnmjaa
open Go.RowKit Go.Deep
set_option linter.unusedVariables false

theorem less_irrefl : ∀ l : List UInt8, Op.bytesLess l l = false
  | [] => rfl
  | a :: x => by simp [Op.bytesLess, less_irrefl x]

theorem less_trans : ∀ a b c : List UInt8, Op.bytesLess a b = true → Op.bytesLess b c = true → Op.bytesLess a c = true
  | _, [], _, h, _ => by simp [Op.bytesLess] at h
  | _, _ :: _, [], _, h => by simp [Op.bytesLess] at h
  | [], _ :: _, _ :: _, _, _ => rfl
  | a :: x, b :: y, c :: z, h1, h2 => by
    simp only [Op.bytesLess, Bool.or_eq_true, Bool.and_eq_true, decide_eq_true_eq, beq_iff_eq] at h1 h2 ⊢
    rcases h1 with h1 | ⟨rfl, h1⟩
    · rcases h2 with h2 | ⟨rfl, h2⟩
      · exact .inl (UInt8.lt_trans h1 h2)
      · exact .inl h1
    · rcases h2 with h2 | ⟨rfl, h2⟩
      · exact .inl h2
      · exact .inr ⟨rfl, less_trans x y z h1 h2⟩

/-- 'b <= a' is 'not a < b'. -/
theorem less_total : ∀ a b : List UInt8, (Op.bytesLess b a || b == a) = !Op.bytesLess a b
  | [], [] => rfl
  | [], _ :: _ => rfl
  | _ :: _, [] => rfl
  | a :: x, b :: y => by
    have ih := less_total x y
    simp only [Op.bytesLess]
    by_cases h : a = b
    · subst h
      have e1 : ((a :: y) == (a :: x)) = (y == x) := by simp
      rw [e1]
      simp
      simpa using ih
    · have h' : ¬ b = a := fun e => h e.symm
      have e0 : (a == b) = false := by simp [h]
      have e1 : (b == a) = false := by simp [h']
      have e2 : ((b :: y) == (a :: x)) = false := by simp [h']
      rw [e0, e1, e2]
      simp
      by_cases hl : a < b
      · simp [hl]
        exact UInt8.le_of_lt hl
      · simp [hl]
        have := UInt8.not_lt.1 hl
        exact UInt8.lt_of_le_of_ne this h'

/-- Ascending texts: an earlier one is less than a later one. -/
theorem asc_less {X : Nat → ByteArray} {k : Nat} (h : ∀ m, m < k → 0 < m → Op.bytesLess (X (m - 1)).toList (X m).toList = true) (p : Nat) (hp : p < k) : ∀ j, j < p → Op.bytesLess (X j).toList (X p).toList = true := by
  induction p with
  | zero => intro j hj; omega
  | succ p ih =>
    intro j hj
    have h1 := h (p + 1) hp (by omega)
    rw [show p + 1 - 1 = p from rfl] at h1
    by_cases e : j = p
    · subst e; exact h1
    · exact less_trans _ _ _ (ih (by omega) j (by omega)) h1

theorem less_ne {x y : ByteArray} (h : Op.bytesLess x.toList y.toList = true) : x ≠ y := by
  rintro rfl
  rw [less_irrefl] at h
  cases h
end Go.Proofs.Ytfcffpgiijnmjaa
