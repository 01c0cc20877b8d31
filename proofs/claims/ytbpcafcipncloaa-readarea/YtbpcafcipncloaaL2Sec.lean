import Derived.Test.YtbpcafcipncloaaSpB
import Derived.Test.YtbpcafcipncloaaRecI
namespace Go.Proofs.Ytbpcafcipncloaa
open Go.RowKit Go.Deep
set_option linter.unusedVariables false
set_option maxRecDepth 100000

/-- Where a slice's rest begins. -/
def shA (a : Option Addr) (lo c : Nat) : Option Addr := if c = lo then a else a.map fun x => x.add lo

theorem run_from (a : Option Addr) (n c lo : Nat) (h1 : lo ≤ n) (h2 : n ≤ c) (w : World) : (Instr.sliceAt 24 (.slice a n c) (some (.int .i64 (lo : Int))) none none).run Try.prog w = .ok (.slice (shA a lo c) (n - lo) (c - lo)) w := by
  simp [Instr.sliceAt, Instr.slice, go_sem, shA]
  intro h
  omega

theorem run_upto (a : Option Addr) (n c : Nat) (h1 : 48 < n) (h2 : n ≤ c) (w : World) : (Instr.sliceAt 24 (.slice a n c) none (some (.int .i64 48)) none).run Try.prog w = .ok (.slice a 48 c) w := by
  simp [Instr.sliceAt, Instr.slice, go_sem]
  intro h
  omega

theorem rd_shift {w : World} {a : Option Addr} {n lo : Nat} {f : Nat → Int} (c : Nat) (h : Rd .u8 w a n f) (hl : lo ≤ n) (hc : n ≤ c) : Rd .u8 w (shA a lo c) (n - lo) (fun j => f (lo + j)) := by
  rcases h with h0 | ⟨b, o, rfl, hcell⟩
  · exact Or.inl (by omega)
  · by_cases e : n = lo
    · exact Or.inl (by omega)
    · refine Or.inr ⟨b, o + lo, ?_, fun i hi => ?_⟩
      · unfold shA
        rw [if_neg (by omega)]
        simp only [Option.map_some]
        unfold Addr.add
        by_cases e0 : lo = 0
        · subst e0; simp
        · simp [e0]
      · have := hcell (lo + i) (by omega)
        rw [show o + lo + i = o + (lo + i) by omega]
        exact this

/-- How many sectors n bytes take. -/
def cntOf (n : Nat) : Nat := if n = 0 then 1 else (n + 47) / 48
theorem cntOf_lt {n i : Nat} (h : i < cntOf n) : i * 48 ≤ n := by
  unfold cntOf at h
  split at h <;> omega

set_option maxHeartbeats 1000000 in
theorem specRecS (n : Nat) (hn : n ≤ 30000) (w : World) : Calls Try.prog 8 #[.int .i64 n] w fun e w' => e = .returned (.int .i64 (cntOf n)) ∧ w' = w := by
  have h1 : ¬ ((n : Int) < 0) := by omega
  have h2 : ¬ (30000 < (n : Int)) := by omega
  by_cases h0 : n = 0
  · subst h0
    go_enter Try.func8, Try.ntmps8
    go_wp2
    go_ret
    exact ⟨rfl, rfl⟩
  · have h3 : ((n : Int) == 0) = false := by simp; omega
    have HE : Hid (((n : Int) + 48 - 1) / 48 = (cntOf n : Int)) := by show _ = _; unfold cntOf; rw [if_neg h0]; omega
    go_enter Try.func8, Try.ntmps8
    go_wp2
    go_ret
    exact ⟨by rw [← HE.out]; rfl, rfl⟩

/-- Three things, by number. -/
def three {α : Type} (x0 x1 x2 : α) (i : Nat) : α := if i = 0 then x0 else if i = 1 then x1 else x2
theorem rdS_three {W : World} {a0 a1 a2 : Option Addr} {n0 n1 n2 c0 c1 c2 : Nat} {f0 f1 f2 : Nat → Int} {t : TypeId} (h0 : Rd .u8 W a0 n0 f0) (h1 : Rd .u8 W a1 n1 f1) (h2 : Rd .u8 W a2 n2 f2) :
    RdS (W.alloc (.cells #[.slice a0 n0 c0, .slice a1 n1 c1, .slice a2 n2 c2] t)) W.heap.size 0 3 (three n0 n1 n2) (three f0 f1 f2) := by
  intro i hi
  match i, hi with
  | 0, _ => exact ⟨a0, c0, by simp [three], by simpa [three] using h0.below (below_alloc _ _)⟩
  | 1, _ => exact ⟨a1, c1, by simp [three], by simpa [three] using h1.below (below_alloc _ _)⟩
  | 2, _ => exact ⟨a2, c2, by simp [three], by simpa [three] using h2.below (below_alloc _ _)⟩

theorem head_cat (seq i k L : Int) (j : Nat) (hj : j < 12) : catF (five 4 2 2 2 2) (five (byteAt seq) (byteAt i) (byteAt k) (byteAt L) (two 82 49)) 5 j =
    if j < 4 then byteAt seq j else if j < 6 then byteAt i (j - 4) else if j < 8 then byteAt k (j - 6) else if j < 10 then byteAt L (j - 8) else two 82 49 (j - 10) := by
  simp only [catF, catL, five]
  by_cases h1 : j < 4
  · simp [h1, show j < 10 by omega, show j < 8 by omega, show j < 6 by omega]
  by_cases h2 : j < 6
  · simp [h1, h2, show j < 10 by omega, show j < 8 by omega]
  by_cases h3 : j < 8
  · simp [h1, h2, h3, show j < 10 by omega]
  by_cases h4 : j < 10
  · simp [h1, h2, h3, h4]
  · simp [h1, h2, h3, h4]

theorem rec_cat (seq i k : Int) (L : Nat) (pf : Nat → Int) (hL : L ≤ 48) (h : Nat → Int) (hh : ∀ j, j < 12 → h j = if j < 4 then byteAt seq j else if j < 6 then byteAt i (j - 4) else if j < 8 then byteAt k (j - 6) else if j < 10 then byteAt L (j - 8) else two 82 49 (j - 10)) (j : Nat) (hj : j < 60) :
    catF (three 12 L (48 - L)) (three h pf (fun _ => 0)) 3 j = recH seq i k L pf j := by
  simp only [catF, catL, three]
  unfold recH layN
  by_cases h1 : j < 12
  · have q := hh j h1
    rw [if_neg (by omega : ¬ (12 ≤ j ∧ j < 12 + L))]
    simp [h1, show j < 12 + L by omega]
    rw [q]
    unfold putN
    by_cases a4 : j < 4
    · simp [a4, show ¬ j = 11 by omega, show ¬ j = 10 by omega, show ¬ (8 ≤ j ∧ j < 10) by omega, show ¬ (6 ≤ j ∧ j < 8) by omega, show ¬ (4 ≤ j ∧ j < 6) by omega]
    by_cases a6 : j < 6
    · simp [a4, a6, show ¬ j = 11 by omega, show ¬ j = 10 by omega, show ¬ (8 ≤ j ∧ j < 10) by omega, show ¬ (6 ≤ j ∧ j < 8) by omega, show 4 ≤ j by omega]
    by_cases a8 : j < 8
    · simp [a4, a6, a8, show ¬ j = 11 by omega, show ¬ j = 10 by omega, show ¬ (8 ≤ j ∧ j < 10) by omega, show 6 ≤ j by omega]
    by_cases a10 : j < 10
    · simp [a4, a6, a8, a10, show ¬ j = 11 by omega, show ¬ j = 10 by omega, show 8 ≤ j by omega]
    · have : j = 10 ∨ j = 11 := by omega
      rcases this with rfl | rfl <;> simp [two]
  · by_cases h2 : j < 12 + L
    · rw [if_pos (by omega : 12 ≤ j ∧ j < 12 + L)]
      simp [h1, h2]
    · rw [if_neg (by omega : ¬ (12 ≤ j ∧ j < 12 + L))]
      simp [h2, show ¬ j = 11 by omega, show ¬ j = 10 by omega]
      unfold putN
      simp [show ¬ (8 ≤ j ∧ j < 10) by omega, show ¬ (6 ≤ j ∧ j < 8) by omega, show ¬ (4 ≤ j ∧ j < 6) by omega, show ¬ j < 4 by omega]

end Go.Proofs.Ytbpcafcipncloaa
