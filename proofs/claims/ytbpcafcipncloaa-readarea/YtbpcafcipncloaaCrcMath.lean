import Derived.WalkKit
namespace Go.Proofs.Ytbpcafcipncloaa

/-- One step of the sum: a shift, and the polynomial where a one falls out. -/
def crcSt (c : Int) : Int := if c % 2 = 1 then bits .xor .u32 (c / 2) 3988292384 else c / 2
def crcStN : Nat → Int → Int
  | 0, c => c
  | n + 1, c => crcSt (crcStN n c)
def crcTo (f : Nat → Int) : Nat → Int
  | 0 => 4294967295
  | k + 1 => crcStN 8 (bits .xor .u32 (crcTo f k) (f k))

theorem xor_range (a b : Int) : 0 ≤ bits .xor .u32 a b ∧ bits .xor .u32 a b < 4294967296 := by
  show 0 ≤ IntKind.u32.wrap _ ∧ IntKind.u32.wrap _ < 4294967296
  rw [IntKind.wrap_u32']
  omega

theorem crcSt_range (c : Int) (h0 : 0 ≤ c) (h1 : c < 4294967296) : 0 ≤ crcSt c ∧ crcSt c < 4294967296 := by
  unfold crcSt
  split
  · exact xor_range _ _
  · omega

theorem crcStN_range (n : Nat) (c : Int) (h0 : 0 ≤ c) (h1 : c < 4294967296) : 0 ≤ crcStN n c ∧ crcStN n c < 4294967296 := by
  induction n with
  | zero => exact ⟨h0, h1⟩
  | succ n ih => exact crcSt_range _ ih.1 ih.2

theorem crcTo_range (f : Nat → Int) (k : Nat) : 0 ≤ crcTo f k ∧ crcTo f k < 4294967296 := by
  cases k with
  | zero => exact ⟨by simp [crcTo], by simp [crcTo]⟩
  | succ k => exact crcStN_range 8 _ (xor_range _ _).1 (xor_range _ _).2

theorem and_one_u32 (c : Int) (h0 : 0 ≤ c) (h1 : c < 4294967296) : bits .and .u32 c 1 = c % 2 := by
  rw [u32_and c 1 h0 h1 (by omega) (by omega)]
  have e : (1 : Int).toNat = 1 := rfl
  rw [e, Nat.and_one_is_mod]
  omega

theorem crcSt_one (c : Int) (h : c % 2 = 1) : crcSt c = bits .xor .u32 (c / 2) 3988292384 := by unfold crcSt; rw [if_pos h]
theorem crcSt_zero (c : Int) (h : ¬ c % 2 = 1) : crcSt c = c / 2 := by unfold crcSt; rw [if_neg h]
end Go.Proofs.Ytbpcafcipncloaa
