import Derived.Test.YtocmbnocdjnfpaaPpC
namespace Go.Proofs.Ytocmbnocdjnfpaa
open Go.RowKit Go.Deep
set_option linter.unusedVariables false
set_option maxRecDepth 100000

/-- The nodes of a path are good. -/
def GdN (N : Nat) (I : Nat → Int) (X R : Nat → ByteArray) : Prop := ∀ i, i < N → (1 ≤ I i ∧ I i ≤ 9) ∧ (X i).size ≤ 31 ∧ (R i).size ≤ 31
theorem T_len {N : Nat} {I : Nat → Int} {X R : Nat → ByteArray} (hv : GdN N I X R) : ∀ (f base m : Nat), m + 1 ≤ f → base + m < N → Begins (fun i => arOf (I (base + i))) (m + 1) 0 → (T I X R (base + m)).length ≤ 300 * (m + 1)
  | 0, base, m, hf, _, _ => absurd hf (by omega)
  | f + 1, base, m, hf, hN, hb => by
    obtain ⟨h9, hx, hr⟩ := hv (base + m) hN
    have hk := kids_math (n := m + 1) (by omega) hb (by exact arOf_le _)
    rw [Nat.add_sub_cancel] at hk
    rw [T_eq]
    refine Nat.le_trans (nodeT_length _ _ _ _ _ _ _ hx hr h9) ?_
    rcases hk with ⟨e, hm⟩ | ⟨e, h1⟩ | ⟨e, s, hs, h1, h2⟩
    · rw [e]
      simp
      omega
    · rw [e]
      have hm := h1.1
      have e0 : opf (arI I) (base + m) 0 = base + (m - 1) := by
        unfold opf arI
        rw [if_neg (by omega)]
        omega
      have ih := T_len hv f base (m - 1) (by omega) (by omega) (by rw [show m - 1 + 1 = m by omega]; exact h1)
      rw [e0, dif_pos (by omega)]
      simp
      omega
    · rw [e]
      have hm := h1.1
      have hs2 := h2.1
      have e0 : opf (arI I) (base + m) 0 = base + (s - 1) := by
        have q := bgF_of (Begins.lift (A := arI I) h1)
        unfold opf
        rw [if_pos ⟨e, rfl⟩, q]
        omega
      have e1 : opf (arI I) (base + m) 1 = (base + s) + (m - s - 1) := by
        unfold opf
        rw [if_neg (by omega)]
        omega
      have ih0 := T_len hv f base (s - 1) (by omega) (by omega) (by rw [show s - 1 + 1 = s by omega]; exact h2)
      have ih1 := T_len hv f (base + s) (m - s - 1) (by omega) (by omega) (by
        rw [show m - s - 1 + 1 = m - s by omega]
        have := h1.shift
        simpa only [Nat.add_assoc] using this)
      rw [e0, e1, dif_pos (by omega), dif_pos (by omega)]
      simp
      omega

set_option maxHeartbeats 400000 in
theorem l6Strength_any (k : Int) (w : World) : Calls Try.prog 109 #[.int .i64 k] w fun e w' => e = .returned (.int .i64 (sB k)) ∧ w' = w := by
  by_cases h6 : k = 6
  · subst h6
    go_enter Try.func109, Try.ntmps109
    go_wp2
    go_ret
    exact ⟨rfl, rfl⟩
  by_cases h7 : k = 7
  · subst h7
    go_enter Try.func109, Try.ntmps109
    go_wp2
    go_ret
    exact ⟨rfl, rfl⟩
  by_cases h8 : k = 8
  · subst h8
    go_enter Try.func109, Try.ntmps109
    go_wp2
    go_ret
    exact ⟨rfl, rfl⟩
  have b6 : (k == 6) = false := by simp [h6]
  have b7 : (k == 7) = false := by simp [h7]
  have b8 : (k == 8) = false := by simp [h8]
  have HE : Hid (sB k = 0) := by show _ = _; unfold sB; rw [if_neg h6, if_neg (by omega)]
  go_enter Try.func109, Try.ntmps109
  go_wp2
  go_ret
  exact ⟨by rw [HE.out]; rfl, rfl⟩

theorem sB_three (k : Int) : sB k = 0 ∨ sB k = 1 ∨ sB k = 2 := by
  unfold sB
  split
  · exact .inr (.inr rfl)
  · split
    · exact .inr (.inl rfl)
    · exact .inl rfl

set_option maxHeartbeats 2000000 in
theorem l6Wrapped_any (op kid : Int) (r : Bool) (w : World) (h : 3 ≤ op ∧ op ≤ 9) : Calls Try.prog 87 #[.int .i64 op, .bool r, .int .i64 kid] w fun e w' => e = .returned (.bool (wrB op r (sB kid))) ∧ w' = w := by
  have HS : Hid (Calls Try.prog 109 #[.int .i64 kid] w fun e w' => e = .returned (.int .i64 (sB kid)) ∧ w' = w) := l6Strength_any kid w
  have h3 := sB_three kid
  generalize sB kid = s at HS h3 ⊢
  have h9 : op = 3 ∨ op = 4 ∨ op = 5 ∨ op = 6 ∨ op = 7 ∨ op = 8 ∨ op = 9 := by omega
  clear h
  rcases h3 with rfl | rfl | rfl <;> rcases h9 with rfl | rfl | rfl | rfl | rfl | rfl | rfl <;> cases r
  all_goals
    go_enter Try.func87, Try.ntmps87
    go_wp2_with fail
    refine HS.out.mono ?_
    rintro e w1 ⟨rfl, hw1⟩
    subst hw1
    go_wp2
    go_ret
    exact ⟨rfl, rfl⟩

set_option maxHeartbeats 400000 in
theorem l6Root_any (b o m c : Nat) (I : Nat → Int) (X R : Nat → ByteArray) (w : World) (h : RdN w (some ⟨b, o, none⟩) (m + 1) I X R) (hm : m ≤ 1048576) : Calls Try.prog 86 #[.slice (some ⟨b, o, none⟩) (m + 1) c] w fun e w' => e = .returned (.agg #[.int .i64 (I m), .string (X m), .string (R m)]) ∧ Below w.heap.size w w' := by
  rcases h with h | ⟨b', o', e, hc⟩
  · omega
  injection e with e
  injection e with e1 e2
  subst e1 e2
  obtain ⟨c0, c1, c2⟩ := hc m (by omega)
  have hw : IntKind.i64.wrap (((m + 1 : Nat) : Int) - 1) = (m : Int) := by rw [IntKind.wrap_i64]; omega
  have hw2 : IntKind.i64.wrap ((m : Int) + 1 - 1) = (m : Int) := by rw [IntKind.wrap_i64]; omega
  have hb := World.block_lt_of_cell? _ _ c0
  clear hc
  go_enter Try.func86, Try.ntmps86
  go_wp2
  exact bodyPost_ret (v := .agg #[.int .i64 (I m), .string (X m), .string (R m)]) (by simp [results, Try.results86, go_sem]) rfl ⟨rfl, below_alloc _ _⟩
end Go.Proofs.Ytocmbnocdjnfpaa
