import Derived.Test.YtocmbnocdjnfpaaBase
namespace Go.Proofs.Ytocmbnocdjnfpaa

/-- The first place from j on at which p does not hold of the text; n at most. -/
def runL (p : Int → Bool) (f : Nat → Int) (n : Nat) : Nat → Nat → Nat
  | 0, j => j
  | g + 1, j => if j < n ∧ p (f j) = true then runL p f n g (j + 1) else j
def endF (p : Int → Bool) (f : Nat → Int) (n j : Nat) : Nat := runL p f n (n - j) j

theorem endF_go {p : Int → Bool} {f : Nat → Int} {n j : Nat} (h : j < n) (hp : p (f j) = true) : endF p f n j = endF p f n (j + 1) := by
  unfold endF
  have e : n - j = (n - (j + 1)) + 1 := by omega
  rw [e]
  show (if j < n ∧ p (f j) = true then _ else _) = _
  rw [if_pos ⟨h, hp⟩]
theorem endF_stop {p : Int → Bool} {f : Nat → Int} {n j : Nat} (h : ¬ (j < n ∧ p (f j) = true)) : endF p f n j = j := by
  unfold endF
  cases e : n - j with
  | zero => rfl
  | succ g =>
    show (if j < n ∧ p (f j) = true then _ else _) = _
    rw [if_neg h]
theorem runL_ge (p : Int → Bool) (f : Nat → Int) (n : Nat) : ∀ g j, j ≤ runL p f n g j
  | 0, j => Nat.le_refl _
  | g + 1, j => by
    show j ≤ if j < n ∧ p (f j) = true then runL p f n g (j + 1) else j
    split
    · have := runL_ge p f n g (j + 1); omega
    · exact Nat.le_refl _
theorem endF_ge (p : Int → Bool) (f : Nat → Int) (n j : Nat) : j ≤ endF p f n j := runL_ge _ _ _ _ _
theorem runL_le (p : Int → Bool) (f : Nat → Int) (n : Nat) : ∀ g j, j ≤ n → runL p f n g j ≤ n
  | 0, j, h => h
  | g + 1, j, h => by
    show (if j < n ∧ p (f j) = true then runL p f n g (j + 1) else j) ≤ n
    split
    · rename_i h1; exact runL_le p f n g (j + 1) (by omega)
    · exact h
theorem endF_le {p : Int → Bool} {f : Nat → Int} {n j : Nat} (h : j ≤ n) : endF p f n j ≤ n := runL_le _ _ _ _ _ h
theorem endF_end {p : Int → Bool} {f : Nat → Int} {n : Nat} : ∀ (k j : Nat), n - j ≤ k → ¬ (endF p f n j < n ∧ p (f (endF p f n j)) = true)
  | 0, j, hk, h => by have := endF_ge p f n j; omega
  | k + 1, j, hk, h => by
    by_cases h1 : j < n ∧ p (f j) = true
    · rw [endF_go h1.1 h1.2] at h
      exact endF_end k (j + 1) (by omega) h
    · rw [endF_stop h1] at h
      exact h1 h
theorem endF_all {p : Int → Bool} {f : Nat → Int} {n : Nat} : ∀ (k j : Nat), n - j ≤ k → ∀ i, j ≤ i → i < endF p f n j → p (f i) = true
  | 0, j, hk, i, h1, h2 => by
    have : endF p f n j = j := endF_stop (by omega)
    omega
  | k + 1, j, hk, i, h1, h2 => by
    by_cases h3 : j < n ∧ p (f j) = true
    · rw [endF_go h3.1 h3.2] at h2
      by_cases e : i = j
      · subst e; exact h3.2
      · exact endF_all k (j + 1) (by omega) i (by omega) h2
    · rw [endF_stop h3] at h2; omega

/-- A blank; a letter. -/
def isSp (b : Int) : Bool := decide (b = 32)
def isLt (b : Int) : Bool := decide (97 ≤ b ∧ b ≤ 122)
/-- What a byte is worth as a digit to sixteen; -1 if it is none. -/
def hxV (b : Int) : Int := if 48 ≤ b ∧ b ≤ 57 then b - 48 else if 97 ≤ b ∧ b ≤ 102 then b - 87 else -1
/-- The byte for which the piece at j stands, and its length. -/
def pcB (f : Nat → Int) (n j : Nat) : Option (Int × Nat) :=
  if f j = 92 then
    if j + 1 < n ∧ (f (j + 1) = 34 ∨ f (j + 1) = 92) then some (f (j + 1), 2)
    else if j + 3 < n ∧ f (j + 1) = 120 ∧ 0 ≤ hxV (f (j + 2)) ∧ 0 ≤ hxV (f (j + 3)) then some (16 * hxV (f (j + 2)) + hxV (f (j + 3)), 4)
    else none
  else if 32 ≤ f j ∧ f j ≤ 126 then some (f j, 1) else none
theorem pcB_pos {f : Nat → Int} {n j l : Nat} {c : Int} (h : pcB f n j = some (c, l)) (hj : j < n) : 0 < l ∧ j + l ≤ n := by
  unfold pcB at h
  split at h
  · split at h
    · cases h; omega
    · split at h
      · cases h; omega
      · cases h
  · split at h
    · cases h; omega
    · cases h
theorem hxV_lt (b : Int) : hxV b < 16 := by unfold hxV; split <;> (try split) <;> omega
theorem pcB_byte {f : Nat → Int} {n j l : Nat} {c : Int} (h : pcB f n j = some (c, l)) (hf : ∀ i, i < n → 0 ≤ f i ∧ f i < 256) : 0 ≤ c ∧ c < 256 := by
  unfold pcB at h
  split at h
  · split at h
    · rename_i h1; cases h; exact hf _ h1.1
    · split at h
      · rename_i h1; cases h
        have := hxV_lt (f (j + 2)); have := hxV_lt (f (j + 3)); omega
      · cases h
  · split at h
    · cases h; omega
    · cases h

/-- What stands between the signs of quotation, from j on, q having been read; and the place behind it. -/
def quo (f : Nat → Int) (n : Nat) : Nat → Nat → List Int → Option (List Int × Nat)
  | 0, _, _ => none
  | g + 1, j, q =>
    if j < n ∧ f j ≠ 34 then
      match pcB f n j with
      | none => none
      | some cl => quo f n g (j + cl.2) (q ++ [cl.1])
    else if j < n ∧ 1 ≤ q.length ∧ q.length ≤ 30 then some (q, j + 1) else none
def quoF (f : Nat → Int) (n j : Nat) (q : List Int) : Option (List Int × Nat) := quo f n (n + 1 - j) j q
theorem quo_fuel {f : Nat → Int} {n : Nat} : ∀ g g' j q, j ≤ n → n < g + j → n < g' + j → quo f n g j q = quo f n g' j q
  | 0, _, j, q, h0, h1, h2 => by omega
  | g + 1, 0, j, q, h0, h1, h2 => by omega
  | g + 1, g' + 1, j, q, h0, h1, h2 => by
    unfold quo
    by_cases h : j < n ∧ f j ≠ 34
    · rw [if_pos h, if_pos h]
      cases e : pcB f n j with
      | none => rfl
      | some cl =>
        have := pcB_pos (c := cl.1) (l := cl.2) e h.1
        exact quo_fuel g g' _ _ (by omega) (by omega) (by omega)
    · rw [if_neg h, if_neg h]
theorem quoF_bad {f : Nat → Int} {n j : Nat} {q : List Int} (h : j < n) (h1 : f j ≠ 34) (h2 : pcB f n j = none) : quoF f n j q = none := by
  unfold quoF
  rw [show n + 1 - j = (n - j) + 1 by omega]
  unfold quo
  rw [if_pos ⟨h, h1⟩, h2]
theorem quoF_go {f : Nat → Int} {n j l : Nat} {c : Int} {q : List Int} (h : j < n) (h1 : f j ≠ 34) (h2 : pcB f n j = some (c, l)) : quoF f n j q = quoF f n (j + l) (q ++ [c]) := by
  have hp := pcB_pos h2 h
  unfold quoF
  conv => lhs; rw [show n + 1 - j = (n - j) + 1 by omega]; unfold quo; rw [if_pos ⟨h, h1⟩, h2]
  exact quo_fuel _ _ _ _ (by omega) (by show n < n - j + (j + l); omega) (by omega)
theorem quoF_end {f : Nat → Int} {n j : Nat} {q : List Int} (hj : j ≤ n) (h : ¬ (j < n ∧ f j ≠ 34)) : quoF f n j q = if j < n ∧ 1 ≤ q.length ∧ q.length ≤ 30 then some (q, j + 1) else none := by
  unfold quoF
  rw [show n + 1 - j = (n - j) + 1 by omega]
  unfold quo
  rw [if_neg h]
theorem quoF_le {f : Nat → Int} {n : Nat} : ∀ g j q q' k, n - j ≤ g → j ≤ n → quoF f n j q = some (q', k) → j < k ∧ k ≤ n ∧ 1 ≤ q'.length ∧ q'.length ≤ 30
  | g, j, q, q', k, hg, hj, h => by
    by_cases h1 : j < n ∧ f j ≠ 34
    · cases e : pcB f n j with
      | none => rw [quoF_bad h1.1 h1.2 e] at h; cases h
      | some cl =>
        have hp := pcB_pos (c := cl.1) (l := cl.2) e h1.1
        rw [quoF_go (c := cl.1) (l := cl.2) h1.1 h1.2 e] at h
        cases g with
        | zero => omega
        | succ g =>
          have := quoF_le g _ _ _ _ (by omega) (by omega) h
          omega
    · rw [quoF_end hj h1] at h
      split at h
      · cases h; omega
      · cases h

/-- The bytes from i up to j. -/
def seg (f : Nat → Int) (i j : Nat) : List Int := (List.range (j - i)).map (fun k => f (i + k))
theorem seg_length (f : Nat → Int) (i j : Nat) : (seg f i j).length = j - i := by simp [seg]

/-- The number of a word; of a sign. 1 to 9 are the kinds of nodes. -/
def cdW (q : List Int) : Nat :=
  if q = [97, 108, 108] then 1 else if q = [118] then 2 else if q = [111, 117, 116] then 3 else if q = [105, 110] then 4 else if q = [104, 97, 115] then 5 else if q = [103, 114, 97, 112, 104] then 9 else 0
def cdS (b : Int) : Nat :=
  if b = 38 then 6 else if b = 124 then 7 else if b = 45 then 8 else if b = 46 then 10 else if b = 40 then 11 else if b = 41 then 12 else if b = 44 then 13 else 0

/-- A token: its number (14 a string, 15 the end, 0 none), what is in it, the place behind it. -/
structure Tok where
  c : Nat
  q : List Int
  e : Nat
/-- The token that begins at p, which is no blank. -/
def tkA (f : Nat → Int) (n p : Nat) : Tok :=
  if n ≤ p then ⟨15, [], p⟩
  else if f p = 34 then
    match quoF f n (p + 1) [] with
    | none => ⟨0, [], p⟩
    | some qk => ⟨14, qk.1, qk.2⟩
  else if isLt (f p) = true then
    if cdW (seg f p (endF isLt f n p)) = 0 then ⟨0, [], p⟩ else ⟨cdW (seg f p (endF isLt f n p)), [], endF isLt f n p⟩
  else if cdS (f p) = 0 then ⟨0, [], p⟩ else ⟨cdS (f p), [], p + 1⟩

/-- Where the k-th token begins. -/
def tkPos (f : Nat → Int) (n : Nat) : Nat → Nat
  | 0 => endF isSp f n 0
  | k + 1 => endF isSp f n (tkA f n (tkPos f n k)).e
def tkF (f : Nat → Int) (n k : Nat) : Tok := tkA f n (tkPos f n k)

theorem tkA_le {f : Nat → Int} {n p : Nat} (h : p ≤ n) : p ≤ (tkA f n p).e ∧ (tkA f n p).e ≤ n := by
  unfold tkA
  split
  · exact ⟨Nat.le_refl _, h⟩
  · rename_i h1
    split
    · split
      · exact ⟨Nat.le_refl _, h⟩
      · rename_i qk e
        have := quoF_le _ _ _ qk.1 qk.2 (Nat.le_refl _) (by omega) e
        exact ⟨by show p ≤ qk.2; omega, by show qk.2 ≤ n; omega⟩
    · split
      · split
        · exact ⟨Nat.le_refl _, h⟩
        · exact ⟨endF_ge _ _ _ _, endF_le h⟩
      · split
        · exact ⟨Nat.le_refl _, h⟩
        · exact ⟨by show p ≤ p + 1; omega, by show p + 1 ≤ n; omega⟩
/-- A token that is one has a length. -/
theorem tkA_lt {f : Nat → Int} {n p : Nat} (h0 : (tkA f n p).c ≠ 0) (h1 : (tkA f n p).c ≠ 15) : p < (tkA f n p).e ∧ p < n := by
  unfold tkA at h0 h1 ⊢
  split at h0
  · rename_i h; rw [if_pos h] at h1; exact absurd rfl h1
  · rename_i h
    rw [if_neg h] at h1 ⊢
    refine ⟨?_, by omega⟩
    split at h0
    · rename_i h2
      rw [if_pos h2] at h1 ⊢
      split at h0
      · exact absurd rfl h0
      · rename_i qk e
        have := quoF_le _ _ _ qk.1 qk.2 (Nat.le_refl _) (by omega) e
        show p < qk.2; omega
    · rename_i h2
      rw [if_neg h2] at h1 ⊢
      split at h0
      · rename_i h3
        rw [if_pos h3]
        split at h0
        · exact absurd rfl h0
        · rename_i h4
          rw [if_neg h4]
          show p < endF isLt f n p
          rw [endF_go (by omega) h3]
          have := endF_ge isLt f n (p + 1); omega
      · rename_i h3
        rw [if_neg h3]
        split at h0
        · exact absurd rfl h0
        · rename_i h4
          rw [if_neg h4]
          show p < p + 1; omega
theorem tkPos_le (f : Nat → Int) (n : Nat) : ∀ k, tkPos f n k ≤ n
  | 0 => endF_le (Nat.zero_le _)
  | k + 1 => endF_le (tkA_le (tkPos_le f n k)).2
theorem tkPos_up {f : Nat → Int} {n k : Nat} (h0 : (tkF f n k).c ≠ 0) (h1 : (tkF f n k).c ≠ 15) : tkPos f n k < tkPos f n (k + 1) := by
  have h := (tkA_lt h0 h1).1
  have := endF_ge isSp f n (tkA f n (tkPos f n k)).e
  show tkPos f n k < endF isSp f n (tkA f n (tkPos f n k)).e
  omega
/-- The tokens end, at n at the latest. -/
theorem tk_last (f : Nat → Int) (n : Nat) : ∃ m, m ≤ n ∧ ((tkF f n m).c = 0 ∨ (tkF f n m).c = 15) ∧ ∀ k, k < m → (tkF f n k).c ≠ 0 ∧ (tkF f n k).c ≠ 15 := by
  have key : ∀ j, (∃ m, m ≤ n ∧ ((tkF f n m).c = 0 ∨ (tkF f n m).c = 15) ∧ ∀ k, k < m → (tkF f n k).c ≠ 0 ∧ (tkF f n k).c ≠ 15) ∨ ((∀ k, k < j → (tkF f n k).c ≠ 0 ∧ (tkF f n k).c ≠ 15) ∧ j ≤ tkPos f n j) := by
    intro j
    induction j with
    | zero => exact Or.inr ⟨fun k hk => absurd hk (Nat.not_lt_zero _), Nat.zero_le _⟩
    | succ j ih =>
      rcases ih with h | ⟨h1, h2⟩
      · exact Or.inl h
      · have hn := tkPos_le f n j
        by_cases h3 : (tkF f n j).c = 0 ∨ (tkF f n j).c = 15
        · exact Or.inl ⟨j, by omega, h3, h1⟩
        · have h4 : (tkF f n j).c ≠ 0 := fun e => h3 (Or.inl e)
          have h5 : (tkF f n j).c ≠ 15 := fun e => h3 (Or.inr e)
          have := tkPos_up h4 h5
          refine Or.inr ⟨fun k hk => ?_, by omega⟩
          by_cases e : k = j
          · subst e; exact ⟨h4, h5⟩
          · exact h1 k (by omega)
  rcases key (n + 1) with h | ⟨_, h⟩
  · exact h
  · have := tkPos_le f n (n + 1); omega
theorem quoF_byt {f : Nat → Int} {n : Nat} (hf : ∀ i, i < n → 0 ≤ f i ∧ f i < 256) : ∀ g j q q' k, n - j ≤ g → j ≤ n → (∀ x, x ∈ q → 0 ≤ x ∧ x < 256) → quoF f n j q = some (q', k) → ∀ x, x ∈ q' → 0 ≤ x ∧ x < 256
  | g, j, q, q', k, hg, hj, hq, h => by
    by_cases h1 : j < n ∧ f j ≠ 34
    · cases e : pcB f n j with
      | none => rw [quoF_bad h1.1 h1.2 e] at h; cases h
      | some cl =>
        have hp := pcB_pos (c := cl.1) (l := cl.2) e h1.1
        have hb := pcB_byte (c := cl.1) (l := cl.2) e hf
        rw [quoF_go (c := cl.1) (l := cl.2) h1.1 h1.2 e] at h
        cases g with
        | zero => omega
        | succ g =>
          refine quoF_byt hf g _ _ _ _ (by omega) (by omega) (fun x hx => ?_) h
          rcases List.mem_append.1 hx with h2 | h2
          · exact hq x h2
          · rw [List.mem_singleton] at h2; subst h2; exact hb
    · rw [quoF_end hj h1] at h
      split at h
      · cases h; exact hq
      · cases h
theorem tkA_c (f : Nat → Int) (n p : Nat) : (tkA f n p).c ≤ 15 := by
  unfold tkA
  split
  · exact Nat.le_refl _
  · split
    · split
      · exact Nat.zero_le _
      · show 14 ≤ 15; omega
    · split
      · split
        · exact Nat.zero_le _
        · show cdW _ ≤ 15
          unfold cdW; repeat (first | omega | split)
      · split
        · exact Nat.zero_le _
        · show cdS _ ≤ 15
          unfold cdS; repeat (first | omega | split)
end Go.Proofs.Ytocmbnocdjnfpaa
