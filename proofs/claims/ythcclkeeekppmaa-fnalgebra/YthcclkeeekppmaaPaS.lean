import Derived.Test.YthcclkeeekppmaaPathM
import Derived.WalkKit
import Derived.Handy
namespace Go.Proofs.Ythcclkeeekppmaa
open Go.RowKit Go.Deep
set_option linter.unusedVariables false
set_option maxRecDepth 100000

/-- How many operands a node of this kind has. -/
def arOf (k : Int) : Nat := if k ≤ 2 then 0 else if 6 ≤ k ∧ k ≤ 8 then 2 else 1
theorem arOf_le (k : Int) : arOf k ≤ 2 := by unfold arOf; split <;> (try split) <;> omega

set_option maxHeartbeats 400000 in
theorem l6Arity_any (k : Int) (w : World) : Calls Try.prog 56 #[.int .i64 k] w fun e w' => e = .returned (.int .i64 (arOf k)) ∧ w' = w := by
  by_cases h1 : k ≤ 2
  · have HE : Hid (arOf k = 0) := by show _ = _; unfold arOf; rw [if_pos h1]
    go_enter Try.func56, Try.ntmps56
    go_wp2
    go_ret
    exact ⟨by rw [HE.out]; rfl, rfl⟩
  · have h1' : decide (k ≤ 2) = false := decide_eq_false h1
    by_cases h2 : 6 ≤ k
    · have h2' : decide (6 ≤ k) = true := decide_eq_true h2
      by_cases h3 : k ≤ 8
      · have h3' : decide (k ≤ 8) = true := decide_eq_true h3
        have HE : Hid (arOf k = 2) := by show _ = _; unfold arOf; rw [if_neg h1, if_pos ⟨h2, h3⟩]
        go_enter Try.func56, Try.ntmps56
        go_wp2
        go_ret
        exact ⟨by rw [HE.out]; rfl, rfl⟩
      · have h3' : decide (k ≤ 8) = false := decide_eq_false h3
        have HE : Hid (arOf k = 1) := by show _ = _; unfold arOf; rw [if_neg h1, if_neg (fun h => h3 h.2)]
        go_enter Try.func56, Try.ntmps56
        go_wp2
        go_ret
        exact ⟨by rw [HE.out]; rfl, rfl⟩
    · have h2' : decide (6 ≤ k) = false := decide_eq_false h2
      have HE : Hid (arOf k = 1) := by show _ = _; unfold arOf; rw [if_neg h1, if_neg (fun h => h2 h.1)]
      go_enter Try.func56, Try.ntmps56
      go_wp2
      go_ret
      exact ⟨by rw [HE.out]; rfl, rfl⟩

theorem need_le {a : Nat → Nat} (ha : ∀ i, a i ≤ 2) (n : Nat) : ∀ k, k ≤ n → need a n (n - k) ≤ 1 + k
  | 0, _ => by rw [Nat.sub_zero, need_end]; omega
  | k + 1, h => by
    have h1 := need_le ha n k (by omega)
    have h2 := need_step a n (n - (k + 1))
    rw [show n - (k + 1) + 1 = n - k by omega] at h2
    have := ha (n - (k + 1))
    omega

/-- Where the subtree at a list's end begins, or -1. -/
def FromRet (A : Nat → Nat) (n : Nat) (w : World) (e : Ending) (w' : World) : Prop :=
  w' = w ∧ ((∃ s, Begins A n s ∧ e = .returned (.int .i64 (s : Int))) ∨ ((¬ ∃ s, Begins A n s) ∧ e = .returned (.int .i64 (-1))))

set_option maxHeartbeats 1000000 in
theorem l6From_any (a : Option Addr) (n c : Nat) (I : Nat → Int) (X R : Nat → ByteArray) (w : World) (h : RdN w a n I X R) (hn : n ≤ 1048576) :
    Calls Try.prog 26 #[.slice a n c] w (FromRet (fun i => arOf (I i)) n w) := by
  obtain ⟨A, hA⟩ : ∃ A : Nat → Nat, A = fun i => arOf (I i) := ⟨_, rfl⟩
  rw [← hA]
  have HA : Hid (∀ i, arOf (I i) = A i) := fun i => by rw [hA]
  have HA2 : Hid (∀ i, A i ≤ 2) := fun i => by rw [hA]; exact arOf_le _
  have HR : Hid (RdN w a n I X R) := h
  clear hA h
  go_enter Try.func26, Try.ntmps26
  go_wp2
  go_loop [3, 4] (fun m i => ∃ k : Nat, k ≤ n ∧ i = .int .i64 k ∧ m = .int .i64 (need A n k) ∧ ∀ j, k < j → j ≤ n → 0 < need A n j) (fun _ i => (intOf i).toNat + 1)
  case atStart => exact ⟨n, Nat.le_refl _, rfl, by rw [need_end], fun j h1 h2 => absurd h1 (by omega)⟩
  case round =>
    obtain ⟨k, hk, rfl, rfl, hpos⟩ := hrel
    have HP : Hid (∀ j, k < j → j ≤ n → 0 < need A n j) := hpos
    have hup := need_le HA2.out n (n - k) (by omega)
    rw [show n - (n - k) = k by omega] at hup
    clear hpos
    by_cases h0 : 0 < need A n k
    · have h0' : decide (0 < need A n k) = true := decide_eq_true h0
      by_cases hk0 : k = 0
      · have HN : Hid (¬ ∃ s, Begins A n s) := by
          rintro ⟨s, h1, h2, _⟩
          by_cases hs : s = 0
          · rw [hs, ← hk0] at h2; omega
          · have := HP.out s (by omega) (by omega)
            omega
        have e1 : IntKind.i64.wrap ((k : Int) - 1) = -1 := by rw [hk0]; rfl
        have e2 : IntKind.i64.wrap ((0 : Int) - 1) = -1 := rfl
        have e3 : IntKind.i64.wrap (-1) = -1 := rfl
        have HK : Hid (k = 0) := hk0
        obtain ⟨m, hm⟩ : ∃ m, m = need A n k := ⟨_, rfl⟩
        rw [← hm] at h0 h0' hup ⊢
        clear hk0 hm HP
        go_wp2
        go_ret
        exact ⟨rfl, Or.inr ⟨HN.out, rfl⟩⟩
      · obtain ⟨k', rfl⟩ : ∃ k', k = k' + 1 := ⟨k - 1, by omega⟩
        have hne : ¬ n = 0 := by omega
        rcases HR.out with h | ⟨b, o, rfl, hc⟩
        · exact absurd h hne
        have c1 := (hc k' (by omega)).1
        have e1 : IntKind.i64.wrap (((k' + 1 : Nat) : Int) - 1) = (k' : Int) := by rw [IntKind.wrap_i64]; omega
        have e1' : IntKind.i64.wrap ((k' : Int) + 1 - 1) = (k' : Int) := by rw [IntKind.wrap_i64]; omega
        have ek : IntKind.i64.wrap (k' : Int) = (k' : Int) := by rw [IntKind.wrap_i64]; omega
        have ik : (k' : Int) < (n : Int) := by omega
        have ik0 : ¬ (k' : Int) < 0 := by omega
        have ik1 : (0 : Int) ≤ (k' : Int) := by omega
        obtain ⟨m, hm⟩ : ∃ m, m = need A n (k' + 1) := ⟨_, rfl⟩
        obtain ⟨q, hq⟩ : ∃ q, q = A k' := ⟨_, rfl⟩
        have HS : Hid (need A n k' = m - 1 + q ∧ m = need A n (k' + 1) ∧ q = A k') := ⟨by rw [hm, hq]; exact need_step A n k', hm, hq⟩
        have hq2 : q ≤ 2 := by rw [hq]; exact HA2.out _
        rw [← hm] at h0 h0' hup ⊢
        clear hm hq hc
        have e2 : IntKind.i64.wrap (m - 1) = m - 1 := by rw [IntKind.wrap_i64]; omega
        have e3 : IntKind.i64.wrap (m - 1 + (q : Int)) = m - 1 + (q : Int) := by rw [IntKind.wrap_i64]; omega
        go_wp2_with fail
        refine (l6Arity_any (I k') w).mono ?_
        rintro e w1 ⟨rfl, hw1⟩
        rw [HA.out, ← HS.out.2.2]
        subst hw1
        go_wp2
        go_round
        case rel =>
          refine ⟨k', by omega, by go_num, ?_, fun j h1 h2 => ?_⟩
          · rw [HS.out.1]
          · by_cases e : j = k' + 1
            · subst e; rw [← HS.out.2.1]; exact h0
            · exact HP.out j (by omega) h2
        case measure => simp [intOf]
    · have h0' : decide (0 < need A n k) = false := decide_eq_false h0
      have HB : Hid (Begins A n k) := by
        have hkn : k ≠ n := fun e => by rw [e, need_end] at h0; omega
        have h1 := HP.out (k + 1) (by omega) (by omega)
        have h2 := need_step A n k
        exact ⟨by omega, by omega, HP.out⟩
      go_wp2
      go_ret
      exact ⟨rfl, Or.inl ⟨k, HB.out, rfl⟩⟩
end Go.Proofs.Ythcclkeeekppmaa
