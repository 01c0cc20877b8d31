import Derived.Test.YthcclkeeekppmaaPaH
namespace Go.Proofs.Ythcclkeeekppmaa
set_option linter.unusedVariables false

/-- The operands of node i. -/
def opf (A : Nat → Nat) (i j : Nat) : Nat := if A i = 2 ∧ j = 0 then bgF A i - 1 else i - 1

theorem dep_pos {A : Nat → Nat} {n i : Nat} (h : StackOk A n) (hi : i < n) (ha : 0 < A i) : 0 < i := by
  cases i with
  | zero =>
    have := h 0 hi
    have h0 : dep A 0 = 0 := rfl
    omega
  | succ i => omega

/-- The stack's place of an operand. -/
theorem opf_stack {A : Nat → Nat} {n i j : Nat} (h : StackOk A n) (hi : i < n) (ha : A i ≤ 2) (hj : j < A i) {d : Nat} (hd : dep A i = d) : StackAt A i (d - A i + j + 1) (opf A i j) := by
  have h1 := h i hi
  have hp := dep_pos h hi (by omega)
  have top : StackAt A i d (i - 1) := by
    have := stackAt_top (a := A) (e := i - 1) (k := d) (by rw [show i - 1 + 1 = i by omega]; exact hd)
    rw [show i - 1 + 1 = i by omega] at this
    exact this
  unfold opf
  by_cases h2 : A i = 2 ∧ j = 0
  · rw [if_pos h2]
    obtain ⟨s, hs⟩ := h.begins i hp (by omega)
    rw [bgF_of hs]
    obtain ⟨r, hr, hst⟩ := hs.next (k := d - 1) (by omega) (by omega)
    rw [hr, Nat.add_sub_cancel, show d - A i + j + 1 = d - 1 by omega]
    exact hst
  · rw [if_neg h2, show d - A i + j + 1 = d by omega]
    exact top

theorem opf_lt {A : Nat → Nat} {n i j : Nat} (h : StackOk A n) (hi : i < n) (ha : A i ≤ 2) (hj : j < A i) : opf A i j < i := by
  have h1 := h i hi
  exact (opf_stack h hi ha hj (d := (dep A i).toNat) (by omega)).1

/-- A node is the operand of one node alone. -/
theorem opf_parent {A : Nat → Nat} {n p p' j j' : Nat} (h : StackOk A n) (hp : p < n) (hp' : p' < n) (ha : A p ≤ 2) (ha' : A p' ≤ 2) (hj : j < A p) (hj' : j' < A p') (e : opf A p j = opf A p' j') : p = p' := by
  have key : ∀ {p p' j j' : Nat}, p < n → p' < n → A p ≤ 2 → A p' ≤ 2 → j < A p → j' < A p' → opf A p j = opf A p' j' → ¬ p < p' := by
    intro p p' j j' hp hp' ha ha' hj hj' e hlt
    have h1 := h p hp
    have h2 := h p' hp'
    have q1 := opf_stack h hp ha hj (d := (dep A p).toNat) (by omega)
    have q2 := opf_stack h hp' ha' hj' (d := (dep A p').toNat) (by omega)
    rw [e] at q1
    have e1 := q1.2.1
    have e2 := q2.2.1
    have q3 := q2.2.2 p (by have := q1.1; omega) hlt
    rw [dep_succ] at q3
    omega
  rcases Nat.lt_trichotomy p p' with q | q | q
  · exact absurd q (key hp hp' ha ha' hj hj' e)
  · exact q
  · exact absurd q (key hp' hp ha' ha hj' hj e.symm)

/-- The operands of one node are different. -/
theorem opf_inj {A : Nat → Nat} {n p j j' : Nat} (h : StackOk A n) (hp : p < n) (ha : A p ≤ 2) (hj : j < A p) (hj' : j' < A p) (e : opf A p j = opf A p j') : j = j' := by
  have h1 := h p hp
  have q1 := opf_stack h hp ha hj (d := (dep A p).toNat) (by omega)
  have q2 := opf_stack h hp ha hj' (d := (dep A p).toNat) (by omega)
  rw [e] at q1
  have e1 := q1.2.1
  have e2 := q2.2.1
  omega

/-- The greatest among the first j operands. -/
def mxO (A : Nat → Nat) (H : Nat → Nat) (i : Nat) : Nat → Nat
  | 0 => 0
  | j + 1 => max (mxO A H i j) (H (opf A i j))
/-- A node's height, f being large enough. -/
def hM (A : Nat → Nat) : Nat → Nat → Nat
  | 0, _ => 0
  | f + 1, i => 1 + mxO A (hM A f) i (A i)

theorem mxO_congr {A : Nat → Nat} {H H' : Nat → Nat} {i : Nat} : ∀ j, (∀ m, m < j → H (opf A i m) = H' (opf A i m)) → mxO A H i j = mxO A H' i j
  | 0, _ => rfl
  | j + 1, h => by
    unfold mxO
    rw [mxO_congr j (fun m hm => h m (by omega)), h j (by omega)]

/-- Fuel beyond the node's number turns nothing. -/
theorem hM_fuel {A : Nat → Nat} {n : Nat} (h : StackOk A n) (ha : ∀ i, A i ≤ 2) : ∀ (f f' i : Nat), i < n → i < f → i < f' → hM A f i = hM A f' i
  | 0, _, _, _, h1, _ => absurd h1 (Nat.not_lt_zero _)
  | f + 1, 0, _, _, _, h2 => absurd h2 (Nat.not_lt_zero _)
  | f + 1, f' + 1, i, hi, h1, h2 => by
    show 1 + _ = 1 + _
    rw [mxO_congr]
    intro m hm
    have := opf_lt h hi (ha i) hm
    exact hM_fuel h ha f f' _ (by omega) (by omega) (by omega)

theorem hM_le {A : Nat → Nat} : ∀ (f i : Nat), hM A f i ≤ f
  | 0, _ => Nat.le_refl _
  | f + 1, i => by
    have key : ∀ j, mxO A (hM A f) i j ≤ f := by
      intro j
      induction j with
      | zero => exact Nat.zero_le _
      | succ j ih =>
        have := hM_le (A := A) f (opf A i j)
        show max _ _ ≤ f
        omega
    show 1 + _ ≤ f + 1
    have := key (A i)
    omega

theorem opf_shift {A : Nat → Nat} {i s j : Nat} {t : Nat} (hs : Begins A (i + 1) s) (hsi : s < i + 1) (ht : A i = 2 → j = 0 → Begins A i t ∧ s < t) : opf A i j = s + opf (fun q => A (s + q)) (i - s) j ∨ ¬ j < A i ∨ i = s := by
  by_cases hji : j < A i
  · by_cases his : i = s
    · exact .inr (.inr his)
    · left
      have e0 : s + (i - s) = i := by omega
      unfold opf
      simp only [e0]
      by_cases h2 : A i = 2 ∧ j = 0
      · rw [if_pos h2, if_pos h2]
        obtain ⟨hb, hst⟩ := ht h2.1 h2.2
        have hb2 : Begins (fun q => A (s + q)) (i - s) (t - s) := by
          obtain ⟨b1, b2, b3⟩ := hb
          unfold need at b2 b3
          refine ⟨by omega, ?_, fun q q1 q2 => ?_⟩
          · unfold need
            rw [dep_shift, dep_shift, e0, show s + (t - s) = t by omega]
            omega
          · unfold need
            rw [dep_shift, dep_shift, e0]
            have := b3 (s + q) (by omega) (by omega)
            omega
        rw [bgF_of hb, bgF_of hb2]
        omega
      · rw [if_neg h2, if_neg h2]
        omega
  · exact .inr (.inl hji)

/-- The specification's height is the one that is measured. -/
theorem htF_hM {A : Nat → Nat} {n : Nat} (h : StackOk A n) (ha : ∀ i, A i ≤ 2) : ∀ (f i s : Nat), i < n → Begins A (i + 1) s → htF f (fun q => A (s + q)) (i + 1 - s) = hM A f i
  | 0, _, _, _, _ => rfl
  | f + 1, i, s, hi, hb => by
    have hs := hb.1
    have e0 : s + (i + 1 - s - 1) = i := by omega
    have e1 : i + 1 - s - 1 = i - s := by omega
    show (if A (s + (i + 1 - s - 1)) = 0 then 1 else if A (s + (i + 1 - s - 1)) = 1 then _ else _) = 1 + mxO A (hM A f) i (A i)
    rw [e0, e1]
    have h2 := ha i
    have hpos : 0 < A i → 0 < i := fun q => dep_pos h hi q
    have hn0 := hb.2.1
    by_cases a0 : A i = 0
    · rw [if_pos a0, a0]; rfl
    · rw [if_neg a0]
      have hip := hpos (by omega)
      obtain ⟨t, ht⟩ := h.begins i hip (by omega)
      have htl := ht.1
      -- the last operand
      have last : opf A i (A i - 1) = i - 1 := by
        unfold opf
        rw [if_neg (by omega)]
      have L1 := htF_hM h ha f (i - 1) t (by omega) (by rw [show i - 1 + 1 = i by omega]; exact ht)
      rw [show i - 1 + 1 - t = i - t by omega] at L1
      have d1 := h i hi
      by_cases a1 : A i = 1
      · have hst : t = s := by
          refine ht.uniq ⟨?_, ?_, fun q q1 q2 => ?_⟩
          · rcases Nat.lt_or_ge s i with q | q
            · exact q
            · have : s = i := by omega
              subst this
              unfold need at hn0
              rw [dep_succ] at hn0
              omega
          · unfold need at hn0 ⊢
            rw [dep_succ] at hn0
            omega
          · have := hb.2.2 q q1 (by omega)
            unfold need at this ⊢
            rw [dep_succ] at this
            omega
        subst hst
        rw [if_pos a1, a1]
        show 1 + htF f (fun q => A (t + q)) (i - t) = 1 + max 0 (hM A f (opf A i 0))
        rw [a1] at last
        rw [last, L1, Nat.zero_max]
      · have a2 : A i = 2 := by omega
        have hs2 : Begins A t s := by
          have n2 := ht.2.1
          unfold need at n2 hn0
          rw [dep_succ] at hn0
          have hst : s < t := by
            rcases Nat.lt_or_ge s t with q | q
            · exact q
            · have : s = t ∨ t < s := by omega
              rcases this with e | e
              · subst e; omega
              · have := ht.2.2 s e (by
                  rcases Nat.lt_or_ge s (i + 1) with q' | q'
                  · omega
                  · omega)
                unfold need at this
                omega
          refine ⟨hst, ?_, fun q q1 q2 => ?_⟩
          · unfold need; omega
          · have := hb.2.2 q q1 (by omega)
            unfold need at this ⊢
            rw [dep_succ] at this
            omega
        have hst := hs2.1
        have hb2 : Begins (fun q => A (s + q)) (i - s) (t - s) := by
          obtain ⟨b1, b2, b3⟩ := ht
          unfold need at b2 b3
          have e3 : s + (i - s) = i := by omega
          refine ⟨by omega, ?_, fun q q1 q2 => ?_⟩
          · unfold need
            rw [dep_shift, dep_shift, e3, show s + (t - s) = t by omega]
            omega
          · unfold need
            rw [dep_shift, dep_shift, e3]
            have := b3 (s + q) (by omega) (by omega)
            omega
        rw [if_neg a1, bgF_of hb2, a2]
        have L2 := htF_hM h ha f (t - 1) s (by omega) (by rw [show t - 1 + 1 = t by omega]; exact hs2)
        rw [show t - 1 + 1 - s = t - s by omega] at L2
        have first : opf A i 0 = t - 1 := by
          unfold opf
          rw [if_pos ⟨a2, rfl⟩, bgF_of ht]
        rw [a2] at last
        have e4 : (fun q => A (s + (t - s + q))) = fun q => A (t + q) := by
          funext q
          rw [show s + (t - s + q) = t + q by omega]
        rw [e4, show i - s - (t - s) = i - t by omega, L1, L2]
        show _ = 1 + max (max 0 (hM A f (opf A i 0))) (hM A f (opf A i 1))
        rw [first, last, Nat.zero_max]
end Go.Proofs.Ythcclkeeekppmaa
