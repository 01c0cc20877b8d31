import Derived.Test.YtlcamfkgkcjehaaNr23
namespace Go.Proofs.Ytlcamfkgkcjehaa
open Go.RowKit Go.Deep
set_option linter.unusedVariables false
set_option maxRecDepth 100000

theorem getN_congr {f g : Nat → Int} {o : Nat} : ∀ {k : Nat}, (∀ j, j < k → f (o + j) = g (o + j)) → getN f o k = getN g o k
  | 0, _ => rfl
  | k + 1, h => by
    show getN f o k + f (o + k) * 256 ^ k = getN g o k + g (o + k) * 256 ^ k
    rw [getN_congr (k := k) (fun j hj => h j (by omega)), h k (by omega)]
theorem recF_seq (seq i k : Int) (L : Nat) (g : Nat → Int) (hL : L ≤ 48) (h0 : 0 ≤ seq) (h1 : seq < 4294967296) : getN (recF seq i k L g) 0 4 = seq := by
  simp only [getN]
  rw [recF_at seq i k L g hL 0 (by omega), recF_at seq i k L g hL (0 + 1) (by omega), recF_at seq i k L g hL (0 + 2) (by omega), recF_at seq i k L g hL (0 + 3) (by omega)]
  unfold recH layN putN byteAt
  simp
  omega
theorem recF_cnt (seq i : Int) (k : Nat) (L : Nat) (g : Nat → Int) (hL : L ≤ 48) (h1 : k < 65536) : getN (recF seq i k L g) 6 2 = k := by
  simp only [getN]
  rw [recF_at seq i k L g hL 6 (by omega), recF_at seq i k L g hL (6 + 1) (by omega)]
  unfold recH layN putN
  simp
  exact byteAt_two k h1
theorem piece_parts {f : Nat → Int} {seq i : Int} {k : Nat} (h : pieceB f seq i k = true) (h0 : 0 ≤ seq) (h1 : seq < 4294967296) (hk : k < 65536) : getN f 0 4 = seq ∧ getN f 6 2 = k := by
  unfold pieceB at h
  simp only [Bool.and_eq_true, decide_eq_true_eq] at h
  obtain ⟨⟨_, h3⟩, h4⟩ := h
  have h5 := (sameB_iff _ _).1 h4
  have hL : (getN f 8 2).toNat ≤ 48 := by omega
  refine ⟨?_, ?_⟩
  · rw [getN_congr (fun j hj => h5 (0 + j) (by omega))]
    exact recF_seq _ _ _ _ _ hL h0 h1
  · rw [getN_congr (fun j hj => h5 (6 + j) (by omega))]
    exact recF_cnt _ _ _ _ _ hL hk
theorem pieceB_congr {f g : Nat → Int} (h : ∀ j, j < 64 → f j = g j) (seq i k : Int) (hp : pieceB f seq i k = true) : pieceB g seq i k = true := by
  have e : getN f 8 2 = getN g 8 2 := getN_congr (fun j hj => h _ (by omega))
  unfold pieceB at hp ⊢
  rw [e] at hp
  simp only [Bool.and_eq_true, decide_eq_true_eq] at hp ⊢
  obtain ⟨⟨h1, h2⟩, h3⟩ := hp
  refine ⟨⟨h1, h2⟩, ?_⟩
  rw [sameB_iff] at h3 ⊢
  intro j hj
  rw [← h j hj, h3 j hj, recF_congr seq i k _ _ _ (fun x hx => h (12 + x) (by omega))]
theorem recOk_congr {G G' : Nat → Nat → Int} {r seq : Int} (m : Nat) (hm : getN (G 0) 6 2 ≤ m) (h : ∀ i, i < m → ∀ j, j < 64 → G i j = G' i j) (hp : recOk G r seq) : recOk G' r seq := by
  obtain ⟨h1, h2, h3, h4⟩ := hp
  have e : getN (G 0) 6 2 = getN (G' 0) 6 2 := getN_congr (fun j hj => h 0 (by omega) _ (by omega))
  rw [e] at h1 h2 h3 h4 hm
  exact ⟨h1, h2, h3, fun i hi => pieceB_congr (h i (by omega)) _ _ _ (h4 i hi)⟩

/-- A record whose last sector is the old one is not read, where none was read before and the old one has another number. -/
theorem torn_no {d c : Nat → Int} {A last N : Nat} {seq r : Int} {f : Nat → Int} (h0 : 0 ≤ seq) (h1 : seq < 4294967296) (hN : N ≤ 30000) (hl : cntOf N = last + 1) (hs : SameS c d (A + last)) (hx : ∀ x, x < last → SameS c d (A + x) ∨ IsS c (A + x) (secW N seq f x))
    (hq : getN (fun j => d ((A + last) * 64 + j)) 0 4 ≠ seq) (hno : ¬ recOk (fun i j => d ((A + i) * 64 + j)) r seq) : ¬ recOk (fun i j => c ((A + i) * 64 + j)) r seq := by
  intro hr
  obtain ⟨r1, r2, r3, r4⟩ := hr
  dsimp only at r1 r2 r3 r4
  obtain ⟨k, hk⟩ : ∃ k : Nat, getN (fun j => c ((A + 0) * 64 + j)) 6 2 = (k : Int) := ⟨(getN (fun j => c ((A + 0) * 64 + j)) 6 2).toNat, by omega⟩
  rw [hk] at r1 r2 r3 r4
  have hl6 : last ≤ 624 := by unfold cntOf at hl; split at hl <;> omega
  by_cases hkl : last < k
  · have hp := piece_parts (r4 last (by omega)) h0 h1 (by omega)
    refine hq ?_
    rw [← hp.1]
    exact (getN_congr (fun j hj => hs (0 + j) (by omega))).symm
  · have old : ∀ x, x < k → SameS c d (A + x) := fun x hxk => by
      rcases hx x (by omega) with q | q
      · exact q
      · exfalso
        have hp := piece_parts (r4 x (by omega)) h0 h1 (by omega)
        have e := hp.2
        rw [getN_congr (f := fun j => c ((A + x) * 64 + j)) (g := secW N seq f x) (fun j hj => q (6 + j) (by omega))] at e
        unfold secW at e
        rw [recF_cnt _ _ _ _ _ (plen_le _ _) (by omega)] at e
        omega
    exact hno (recOk_congr k (by show getN (fun j => c ((A + 0) * 64 + j)) 6 2 ≤ _; omega) (fun i hi j hj => old i hi j hj) ⟨by dsimp only; omega, by dsimp only; omega, by dsimp only; omega, by dsimp only; rw [hk]; exact r4⟩)

theorem secW_piece {N last : Nat} (hl : cntOf N = last + 1) (seq : Int) (f : Nat → Int) {x : Nat} (hx : x ≤ last) : pieceB (secW N seq f x) seq x ((last + 1 : Nat) : Int) = true := by
  unfold pieceB secW
  rw [hl, recF_len _ _ _ _ _ (plen_le _ _)]
  simp only [Bool.and_eq_true, decide_eq_true_eq]
  refine ⟨⟨?_, by have := plen_le N x; omega⟩, ?_⟩
  · unfold leastV plen
    unfold cntOf at hl
    split at hl <;> split <;> (try split) <;> (try split) <;> omega
  · rw [sameB_iff]
    intro j hj
    rw [recF_congr seq x ((last + 1 : Nat) : Int) ((plen N x : Int)).toNat (fun j => recF seq x ((last + 1 : Nat) : Int) (plen N x) (fun j => f (x * 48 + j)) (12 + j)) (fun j => f (x * 48 + j)) (fun j hj => recF_piece _ _ _ _ _ (plen_le _ _) j (by omega)), Int.toNat_natCast]

/-- A whole record is read, and its payload is what was written. -/
theorem whole_yes {c : Nat → Int} {A last N : Nat} {seq r : Int} {f : Nat → Int} (hN : N ≤ 30000) (hl : cntOf N = last + 1) (hr : (last : Int) + 1 ≤ r) (h : ∀ x, x ≤ last → IsS c (A + x) (secW N seq f x)) :
    recOk (fun i j => c ((A + i) * 64 + j)) r seq ∧ getN ((fun i j => c ((A + i) * 64 + j)) 0) 6 2 = ((last + 1 : Nat) : Int) ∧ catL (recLz (fun i j => c ((A + i) * 64 + j))) (last + 1) = N ∧ ∀ j, j < N → catF (recLz (fun i j => c ((A + i) * 64 + j))) (recFz (fun i j => c ((A + i) * 64 + j))) (last + 1) j = f j := by
  have hl6 : last ≤ 624 := by unfold cntOf at hl; split at hl <;> omega
  have hG : ∀ x, x ≤ last → ∀ j, j < 64 → c ((A + x) * 64 + j) = secW N seq f x j := fun x hx => h x hx
  have ecnt : getN (fun j => c ((A + 0) * 64 + j)) 6 2 = ((last + 1 : Nat) : Int) := by
    rw [getN_congr (f := fun j => c ((A + 0) * 64 + j)) (g := secW N seq f 0) (fun j hj => hG 0 (by omega) _ (by omega))]
    unfold secW
    rw [hl]
    exact recF_cnt _ _ _ _ _ (plen_le _ _) (by omega)
  have eL : ∀ x, x ≤ last → recLz (fun i j => c ((A + i) * 64 + j)) x = plen N x := fun x hx => by
    show (getN (fun j => c ((A + x) * 64 + j)) 8 2).toNat = _
    rw [getN_congr (f := fun j => c ((A + x) * 64 + j)) (g := secW N seq f x) (fun j hj => hG x hx _ (by omega))]
    unfold secW
    rw [recF_len _ _ _ _ _ (plen_le _ _), Int.toNat_natCast]
  have e48 : ∀ x, x < last → plen N x = 48 := fun x hx => by
    unfold plen
    unfold cntOf at hl
    split at hl <;> split <;> omega
  have eC : ∀ x, x ≤ last → catL (recLz (fun i j => c ((A + i) * 64 + j))) x = 48 * x := fun x hx => catL_const _ _ (fun j hj => by rw [eL j (by omega), e48 j (by omega)])
  have eN : catL (recLz (fun i j => c ((A + i) * 64 + j))) (last + 1) = N := by
    show catL (recLz (fun i j => c ((A + i) * 64 + j))) last + recLz (fun i j => c ((A + i) * 64 + j)) last = N
    rw [eC last (Nat.le_refl _), eL last (Nat.le_refl _)]
    unfold plen
    unfold cntOf at hl
    split at hl <;> split <;> omega
  refine ⟨⟨?_, ?_, ?_, fun i hi => ?_⟩, ecnt, eN, ?_⟩
  · show 1 ≤ getN (fun j => c ((A + 0) * 64 + j)) 6 2
    rw [ecnt]; omega
  · show getN (fun j => c ((A + 0) * 64 + j)) 6 2 ≤ 625
    rw [ecnt]; omega
  · show getN (fun j => c ((A + 0) * 64 + j)) 6 2 ≤ r
    rw [ecnt]; omega
  · have hi' : (i : Int) < getN (fun j => c ((A + 0) * 64 + j)) 6 2 := hi
    show pieceB (fun j => c ((A + i) * 64 + j)) seq i (getN (fun j => c ((A + 0) * 64 + j)) 6 2) = true
    rw [ecnt] at hi' ⊢
    exact pieceB_congr (fun j hj => (hG i (by omega) j hj).symm) _ _ _ (secW_piece hl seq f (by omega))
  · have key : ∀ k, k ≤ last + 1 → ∀ j, j < catL (recLz (fun i j => c ((A + i) * 64 + j))) k → catF (recLz (fun i j => c ((A + i) * 64 + j))) (recFz (fun i j => c ((A + i) * 64 + j))) k j = f j := by
      intro k
      induction k with
      | zero => intro _ j hj; exact absurd hj (Nat.not_lt_zero _)
      | succ k ih =>
        intro hk j hj
        show (if j < catL (recLz (fun i j => c ((A + i) * 64 + j))) k then catF (recLz (fun i j => c ((A + i) * 64 + j))) (recFz (fun i j => c ((A + i) * 64 + j))) k j else recFz (fun i j => c ((A + i) * 64 + j)) k (j - catL (recLz (fun i j => c ((A + i) * 64 + j))) k)) = f j
        by_cases hjk : j < catL (recLz (fun i j => c ((A + i) * 64 + j))) k
        · rw [if_pos hjk]
          exact ih (by omega) j hjk
        · rw [if_neg hjk]
          have hj2 : j < catL (recLz (fun i j => c ((A + i) * 64 + j))) k + recLz (fun i j => c ((A + i) * 64 + j)) k := hj
          rw [eC k (by omega)] at hjk hj2 ⊢
          rw [eL k (by omega)] at hj2
          have hp := plen_le N k
          show c ((A + k) * 64 + (12 + (j - 48 * k))) = f j
          rw [hG k (by omega) _ (by omega)]
          unfold secW
          rw [recF_piece _ _ _ _ _ hp _ (by omega)]
          congr 1
          omega
    intro j hj
    exact key (last + 1) (Nat.le_refl _) j (by rw [eN]; exact hj)
end Go.Proofs.Ytlcamfkgkcjehaa
