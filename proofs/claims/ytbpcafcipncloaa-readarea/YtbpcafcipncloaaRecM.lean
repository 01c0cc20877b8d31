import Derived.Test.YtbpcafcipncloaaSpRec
namespace Go.Proofs.Ytbpcafcipncloaa
open Go.RowKit Go.Deep
set_option linter.unusedVariables false
set_option maxRecDepth 100000

theorem catL_mono (L : Nat → Nat) {i k : Nat} (h : i ≤ k) : catL L i ≤ catL L k := by
  induction k with
  | zero => have : i = 0 := by omega
            subst this; exact Nat.le_refl _
  | succ k ih =>
    by_cases e : i = k + 1
    · subst e; exact Nat.le_refl _
    · have := ih (by omega)
      simp only [catL]
      omega

theorem cat_pos (L : Nat → Nat) (F : Nat → Nat → Int) : ∀ (k i j : Nat), i < k → j < L i → catF L F k (catL L i + j) = F i j
  | 0, _, _, h, _ => absurd h (Nat.not_lt_zero _)
  | k + 1, i, j, h, hj => by
    simp only [catF]
    by_cases e : i = k
    · subst e
      rw [if_neg (by omega), show catL L i + j - catL L i = j by omega]
    · have h1 : catL L (i + 1) ≤ catL L k := catL_mono L (by omega)
      simp only [catL] at h1
      rw [if_pos (by omega)]
      exact cat_pos L F k i j (by omega) hj

theorem catL_const (L : Nat → Nat) (i : Nat) (h : ∀ j, j < i → L j = 48) : catL L i = 48 * i := by
  induction i with
  | zero => rfl
  | succ i ih =>
    simp only [catL]
    rw [ih (fun j hj => h j (by omega)), h i (by omega)]
    omega

theorem byteAt_two (L : Nat) (h : L < 65536) : byteAt (L : Int) 0 + byteAt (L : Int) 1 * 256 = L := by
  unfold byteAt
  simp
  omega

theorem recF_at (seq i k : Int) (L : Nat) (g : Nat → Int) (hL : L ≤ 48) (j : Nat) (hj : j < 60) : recF seq i k L g j = recH seq i k L g j := by
  unfold recF sealF putN
  rw [if_neg (by omega)]

theorem recF_len (seq i k : Int) (L : Nat) (g : Nat → Int) (hL : L ≤ 48) : getN (recF seq i k L g) 8 2 = L := by
  simp only [getN]
  rw [recF_at seq i k L g hL 8 (by omega), recF_at seq i k L g hL 9 (by omega)]
  unfold recH layN putN
  simp
  exact byteAt_two L (by omega)

theorem recF_piece (seq i k : Int) (L : Nat) (g : Nat → Int) (hL : L ≤ 48) (j : Nat) (hj : j < L) : recF seq i k L g (12 + j) = g j := by
  rw [recF_at seq i k L g hL (12 + j) (by omega)]
  unfold recH layN
  rw [if_pos (by omega), show 12 + j - 12 = j by omega]

theorem recF_congr (seq i k : Int) (L : Nat) (g g' : Nat → Int) (h : ∀ j, j < L → g j = g' j) : recF seq i k L g = recF seq i k L g' := by
  have : recH seq i k L g = recH seq i k L g' := by
    funext j
    unfold recH layN
    split
    · rename_i hj
      exact h _ (by omega)
    · rfl
  unfold recF
  rw [this]

/-- When a record's bytes are those that were read. -/
theorem rec_same (G : Nat → Nat → Int) (r seq : Int) (k : Nat) (hG : getN (G 0) 6 2 = k) (hk1 : 1 ≤ k) (hkr : (k : Int) ≤ r) (hn0 : ∀ i, 0 ≤ getN (G i) 8 2) (hN : ∀ i, i < k → getN (G i) 8 2 ≤ 48) (hP : catL (recLz G) k ≤ 30000) :
    recOk G r seq ↔ (cntOf (catL (recLz G) k) = k ∧ ∀ i, i < k → ∀ j, j < 64 → secW (catL (recLz G) k) seq (catF (recLz G) (recFz G) k) i j = G i j) := by
  constructor
  · intro h
    obtain ⟨_, h2, _, h4⟩ := h
    rw [hG] at h2 h4
    have each : ∀ i, i < k → leastV i k ≤ getN (G i) 8 2 ∧ sameB (G i) (recF seq i k (getN (G i) 8 2).toNat (fun j => G i (12 + j))) = true := fun i hi => by
      have q := h4 i (by omega)
      unfold pieceB at q
      simp only [Bool.and_eq_true, decide_eq_true_eq] at q
      exact ⟨q.1.1, q.2⟩
    have l48 : ∀ i, i + 1 < k → recLz G i = 48 := fun i hi => by
      have q := (each i (by omega)).1
      have q2 := hN i (by omega)
      unfold leastV at q
      rw [if_pos (by omega)] at q
      unfold recLz
      omega
    obtain ⟨k', rfl⟩ : ∃ k', k = k' + 1 := ⟨k - 1, by omega⟩
    have hc : catL (recLz G) k' = 48 * k' := catL_const _ k' (fun j hj => l48 j (by omega))
    have hP' : catL (recLz G) (k' + 1) = 48 * k' + recLz G k' := by simp only [catL]; rw [hc]
    have last := each k' (by omega)
    have ll : recLz G k' ≤ 48 := by have := hN k' (by omega); unfold recLz; omega
    have l1 : 1 ≤ k' → 1 ≤ recLz G k' := fun h1 => by
      have q := last.1
      unfold leastV at q
      rw [if_neg (by omega), if_pos (by omega)] at q
      unfold recLz
      omega
    have hcnt : cntOf (48 * k' + recLz G k') = k' + 1 := by
      unfold cntOf
      split <;> omega
    rw [hP']
    refine ⟨hcnt, fun i hi j hj => ?_⟩
    have hpos : catL (recLz G) i = 48 * i := catL_const _ i (fun j hj => l48 j (by omega))
    have hpl : plen (48 * k' + recLz G k') i = recLz G i := by
      unfold plen
      by_cases e : i = k'
      · subst e
        split <;> omega
      · rw [l48 i (by omega)]
        rw [if_pos (by omega)]
    unfold secW
    rw [hpl, hcnt]
    have hs := (sameB_iff _ _).1 (each i hi).2 j hj
    rw [hs]
    have hz : recLz G i = (getN (G i) 8 2).toNat := rfl
    rw [← hz]
    have e : recF seq i ((k' + 1 : Nat) : Int) (recLz G i) (fun j => catF (recLz G) (recFz G) (k' + 1) (i * 48 + j)) = recF seq i ((k' + 1 : Nat) : Int) (recLz G i) (fun j => G i (12 + j)) := recF_congr _ _ _ _ _ _ (fun j hj => by
      have := cat_pos (recLz G) (recFz G) (k' + 1) i j hi hj
      rw [hpos, show 48 * i = i * 48 by omega] at this
      exact this)
    rw [e]
  · rintro ⟨hcnt, hs⟩
    refine ⟨by omega, ?_, by omega, fun i hi => ?_⟩
    · rw [hG]
      have : cntOf (catL (recLz G) k) ≤ 625 := by unfold cntOf; split <;> omega
      omega
    · rw [hG] at hi ⊢
      have hik : i < k := by omega
      have hpl := plen_le (catL (recLz G) k) i
      have hGi : ∀ j, j < 64 → G i j = recF seq i k (plen (catL (recLz G) k) i) (fun j => catF (recLz G) (recFz G) k (i * 48 + j)) j := fun j hj => by
        have := hs i hik j hj
        unfold secW at this
        rw [hcnt] at this
        exact this.symm
      have hN8 : getN (G i) 8 2 = plen (catL (recLz G) k) i := by
        have q := recF_len seq i k (plen (catL (recLz G) k) i) (fun j => catF (recLz G) (recFz G) k (i * 48 + j)) hpl
        simp only [getN] at q ⊢
        rw [hGi (8 + 0) (by omega), hGi (8 + 1) (by omega)]
        exact q
      unfold pieceB
      simp only [Bool.and_eq_true, decide_eq_true_eq]
      refine ⟨⟨?_, by omega⟩, (sameB_iff _ _).2 (fun j hj => ?_)⟩
      · rw [hN8]
        unfold leastV plen
        unfold cntOf at hcnt
        split at hcnt <;> (repeat' split) <;> omega
      · rw [hN8, hGi j hj, Int.toNat_natCast]
        have e := recF_congr seq i k (plen (catL (recLz G) k) i) (fun j => catF (recLz G) (recFz G) k (i * 48 + j)) (fun j => G i (12 + j)) (fun j hj => by
          rw [hGi (12 + j) (by omega), recF_piece _ _ _ _ _ hpl j hj])
        rw [e]
end Go.Proofs.Ytbpcafcipncloaa
