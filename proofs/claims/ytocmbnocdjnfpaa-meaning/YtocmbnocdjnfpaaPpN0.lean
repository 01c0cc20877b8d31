import Derived.Test.YtocmbnocdjnfpaaPpD
import Derived.Test.YtocmbnocdjnfpaaPaV
namespace Go.Proofs.Ytocmbnocdjnfpaa
open Go.RowKit Go.Deep
set_option linter.unusedVariables false
set_option maxRecDepth 100000

theorem emS_size {x : ByteArray} (h : emS x = true) : x.size ≤ 30 := by
  have := emS_yes h
  have e : x.toList = x.data.toList := by rw [ByteArray.toList_eq]
  rw [e] at this
  have : x.data.size = 0 := by rw [← Array.length_toList, this]; rfl
  show x.data.size ≤ 30
  omega
theorem txS_size {x : ByteArray} (h : txS x = true) : x.size ≤ 30 := by
  unfold txS at h
  simp at h
  exact h.2
theorem gn_good {k : Int} {s t : ByteArray} (h : gnB k s t = true) : (1 ≤ k ∧ k ≤ 9) ∧ s.size ≤ 30 ∧ t.size ≤ 30 := by
  unfold gnB at h
  split at h
  · simp only [Bool.and_eq_true] at h
    exact ⟨by omega, emS_size h.1, emS_size h.2⟩
  · split at h
    · simp only [Bool.and_eq_true] at h
      exact ⟨by omega, txS_size h.1, emS_size h.2⟩
    · split at h
      · simp only [Bool.and_eq_true] at h
        exact ⟨by omega, txS_size h.1, txS_size h.2⟩
      · cases h
theorem VPth.gd {n : Nat} {I : Nat → Int} {X R : Nat → ByteArray} (h : VPth n I X R) : GdN n I X R := fun i hi => gn_good (h.2.1 i hi)
/-- The text of a path: pt. -/
def IsTx (n : Nat) (I : Nat → Int) (X R : Nat → ByteArray) (pt : List Int) : Prop := (VPth n I X R ∧ pt = T I X R (n - 1)) ∨ (¬ VPth n I X R ∧ pt = [])
theorem isTx_ex (n : Nat) (I : Nat → Int) (X R : Nat → ByteArray) : ∃ pt, IsTx n I X R pt := by
  by_cases h : VPth n I X R
  · exact ⟨_, .inl ⟨h, rfl⟩⟩
  · exact ⟨_, .inr ⟨h, rfl⟩⟩
theorem IsTx.len {n : Nat} {I : Nat → Int} {X R : Nat → ByteArray} {pt : List Int} (ht : IsTx n I X R pt) : pt.length ≤ 30000 := by
  rcases ht with ⟨h, rfl⟩ | ⟨_, rfl⟩
  · have h1 := h.1
    have := T_len h.gd n 0 (n - 1) (by omega) (by omega) (by simpa only [Nat.zero_add, show n - 1 + 1 = n by omega] using h.2.2.1)
    rw [Nat.zero_add] at this
    omega
  · simp

end Go.Proofs.Ytocmbnocdjnfpaa
