import Derived.Test.YtocmbnocdjnfpaaPpB
import Derived.Test.YtocmbnocdjnfpaaPlS
namespace Go.Proofs.Ytocmbnocdjnfpaa
open Go.RowKit Go.Deep
set_option linter.unusedVariables false
set_option maxRecDepth 100000

/-- How strongly a node binds. -/
def sB (k : Int) : Int := if k = 6 then 2 else if k = 7 ∨ k = 8 then 1 else 0
/-- Whether an operand stands in parentheses. -/
def wrB (op : Int) (right : Bool) (s : Int) : Bool := if s = 0 ∨ op = 9 then false else if op = 3 ∨ op = 4 ∨ op = 5 then true else if op = 6 then (decide (s = 1) || right) else (decide (s = 1) && right)
def wrT (k : Int) (r : Bool) (kk : Int) (a : List Int) : List Int := if wrB k r (sB kk) = true then [[40], a, [41]].flatten else a
theorem wrT_length (k : Int) (r : Bool) (kk : Int) (a : List Int) : (wrT k r kk a).length ≤ a.length + 2 := by
  unfold wrT
  split <;> simp
theorem qL_length (x : ByteArray) (h : x.size ≤ 30) : (qL (bl x)).length ≤ 122 := by
  have := qM_length (bl x)
  rw [bl_length] at this
  unfold qL
  simp only [List.length_cons, List.length_append, List.length_nil]
  omega
theorem qL_length1 (x : ByteArray) (h : x.size ≤ 31) : (qL (bl x)).length ≤ 126 := by
  have := qM_length (bl x)
  rw [bl_length] at this
  unfold qL
  simp only [List.length_cons, List.length_append, List.length_nil]
  omega
/-- A node's parts. -/
def nodeP (k : Int) (s t : ByteArray) (a0 : List Int) (k0 : Int) (a1 : List Int) (k1 : Int) : List (List Int) :=
  if k = 1 then [[97, 108, 108]]
  else if k = 2 then [[118, 40], qL (bl s), [41]]
  else if k = 3 then [wrT k false k0 a0, [46, 111, 117, 116, 40], qL (bl s), [41]]
  else if k = 4 then [wrT k false k0 a0, [46, 105, 110, 40], qL (bl s), [41]]
  else if k = 5 then [wrT k false k0 a0, [46, 104, 97, 115, 40], qL (bl s), [44, 32], qL (bl t), [41]]
  else if k = 6 then [wrT k false k0 a0, [32, 38, 32], wrT k true k1 a1]
  else if k = 7 then [wrT k false k0 a0, [32, 124, 32], wrT k true k1 a1]
  else if k = 8 then [wrT k false k0 a0, [32, 45, 32], wrT k true k1 a1]
  else [[103, 114, 97, 112, 104, 32], qL (bl s), [32, 40], wrT k false k0 a0, [41]]
def nodeT (k : Int) (s t : ByteArray) (a0 : List Int) (k0 : Int) (a1 : List Int) (k1 : Int) : List Int := (nodeP k s t a0 k0 a1 k1).flatten
/-- A node's text, f being large enough. -/
def TF (I : Nat → Int) (X R : Nat → ByteArray) : Nat → Nat → List Int
  | 0, _ => []
  | f + 1, i => nodeT (I i) (X i) (R i) (if opf (arI I) i 0 < i then TF I X R f (opf (arI I) i 0) else []) (I (opf (arI I) i 0)) (if opf (arI I) i 1 < i then TF I X R f (opf (arI I) i 1) else []) (I (opf (arI I) i 1))
theorem TF_any (I : Nat → Int) (X R : Nat → ByteArray) : ∀ (f g i : Nat), i < f → i < g → TF I X R f i = TF I X R g i
  | 0, _, _, h, _ => absurd h (Nat.not_lt_zero _)
  | _ + 1, 0, _, _, h => absurd h (Nat.not_lt_zero _)
  | f + 1, g + 1, i, h1, h2 => by
    have e : ∀ j, j < i → TF I X R f j = TF I X R g j := fun j hj => TF_any I X R f g j (by omega) (by omega)
    have e0 : (if opf (arI I) i 0 < i then TF I X R f (opf (arI I) i 0) else []) = (if opf (arI I) i 0 < i then TF I X R g (opf (arI I) i 0) else []) := by
      split
      · exact e _ (by assumption)
      · rfl
    have e1 : (if opf (arI I) i 1 < i then TF I X R f (opf (arI I) i 1) else []) = (if opf (arI I) i 1 < i then TF I X R g (opf (arI I) i 1) else []) := by
      split
      · exact e _ (by assumption)
      · rfl
    show nodeT _ _ _ _ _ _ _ = nodeT _ _ _ _ _ _ _
    rw [e0, e1]
/-- A node's text. -/
def T (I : Nat → Int) (X R : Nat → ByteArray) (i : Nat) : List Int := TF I X R (i + 1) i
theorem T_eq (I : Nat → Int) (X R : Nat → ByteArray) (i : Nat) : T I X R i = nodeT (I i) (X i) (R i) (if h : opf (arI I) i 0 < i then T I X R (opf (arI I) i 0) else []) (I (opf (arI I) i 0)) (if h : opf (arI I) i 1 < i then T I X R (opf (arI I) i 1) else []) (I (opf (arI I) i 1)) := by
  have e : ∀ j, (if opf (arI I) i j < i then TF I X R i (opf (arI I) i j) else []) = (if h : opf (arI I) i j < i then T I X R (opf (arI I) i j) else []) := fun j => by
    by_cases h : opf (arI I) i j < i
    · rw [if_pos h, dif_pos h]
      exact TF_any I X R _ _ _ h (by omega)
    · rw [if_neg h, dif_neg h]
  show nodeT _ _ _ _ _ _ _ = nodeT _ _ _ _ _ _ _
  rw [e 0, e 1]
theorem nodeT_length (k : Int) (s t : ByteArray) (a0 : List Int) (k0 : Int) (a1 : List Int) (k1 : Int) (hs : s.size ≤ 31) (ht : t.size ≤ 31) (hk : 1 ≤ k ∧ k ≤ 9) : (nodeT k s t a0 k0 a1 k1).length ≤ (if 1 ≤ arOf k then a0.length else 0) + (if arOf k = 2 then a1.length else 0) + 300 := by
  have h1 := qL_length1 s hs
  have h2 := qL_length1 t ht
  have h3 := wrT_length k false k0 a0
  have h4 := wrT_length k true k1 a1
  have h9 : k = 1 ∨ k = 2 ∨ k = 3 ∨ k = 4 ∨ k = 5 ∨ k = 6 ∨ k = 7 ∨ k = 8 ∨ k = 9 := by omega
  rcases h9 with rfl | rfl | rfl | rfl | rfl | rfl | rfl | rfl | rfl
  all_goals
    simp [nodeT, nodeP, arOf] at h3 h4 ⊢
    try omega
theorem nodeT_arity {k : Int} (s t : ByteArray) (hk : 1 ≤ k ∧ k ≤ 9) {a0 a0' : List Int} {k0 k0' : Int} {a1 a1' : List Int} {k1 k1' : Int} (h0 : 1 ≤ arOf k → a0 = a0' ∧ k0 = k0') (h1 : arOf k = 2 → a1 = a1' ∧ k1 = k1') : nodeP k s t a0 k0 a1 k1 = nodeP k s t a0' k0' a1' k1' := by
  have h9 : k = 1 ∨ k = 2 ∨ k = 3 ∨ k = 4 ∨ k = 5 ∨ k = 6 ∨ k = 7 ∨ k = 8 ∨ k = 9 := by omega
  rcases h9 with rfl | rfl | rfl | rfl | rfl | rfl | rfl | rfl | rfl
  all_goals
    simp [nodeP, arOf] at h0 h1 ⊢
    try simp [h0]
    try simp [h1]
theorem Begins.lift {A : Nat → Nat} {base e s : Nat} (h : Begins (fun i => A (base + i)) e s) : Begins A (base + e) (base + s) := by
  obtain ⟨h1, h2, h3⟩ := h
  unfold need at h2 h3
  refine ⟨by omega, ?_, fun j h4 h5 => ?_⟩
  · unfold need
    rw [dep_shift, dep_shift] at h2
    omega
  · unfold need
    have := h3 (j - base) (by omega) (by omega)
    rw [dep_shift, dep_shift, show base + (j - base) = j by omega] at this
    omega
/-- What the walk is told of the root's operands: each is a row of its own, whose root is told by opf. -/
theorem kids_text {b o c base m r : Nat} {ks : List Value} {I : Nat → Int} {X R : Nat → ByteArray} {w : World} (h : KidsOf (fun i => arOf (I (base + i))) b o c (m + 1) (arOf (I (base + m))) r ks) (hR : RdN w (some ⟨b, o, none⟩) (m + 1) (fun i => I (base + i)) (fun i => X (base + i)) (fun i => R (base + i))) (hc : m + 1 ≤ c) (hb : Begins (fun i => arOf (I (base + i))) (m + 1) 0) :
    ∀ i, i < arOf (I (base + m)) → ∃ o' n' c' base', ks[i]? = some (.slice (some ⟨b, o', none⟩) (n' + 1) c') ∧ RdN w (some ⟨b, o', none⟩) (n' + 1) (fun i => I (base' + i)) (fun i => X (base' + i)) (fun i => R (base' + i)) ∧ Begins (fun i => arOf (I (base' + i))) (n' + 1) 0 ∧ n' + 1 ≤ m ∧ n' + 1 ≤ c' ∧ c' ≤ c ∧ base' + n' = opf (arI I) (base + m) i ∧ base' + n' < base + m := by
  intro i hi
  rcases h with ⟨h0, _, _⟩ | ⟨h1, h2, h3⟩ | ⟨h1, _, s, h2, h3, h4⟩
  · omega
  · rw [Nat.add_sub_cancel] at h2 h3
    have hr0 : r = 0 := by
      rcases kids_math (by omega) hb (by exact arOf_le _) with ⟨e, _⟩ | ⟨_, e⟩ | ⟨e, _⟩
      · rw [Nat.add_sub_cancel] at e; omega
      · rw [Nat.add_sub_cancel] at e; exact h2.uniq e
      · rw [Nat.add_sub_cancel] at e; omega
    subst hr0
    have hi0 : i = 0 := by omega
    subst hi0
    have hm := h2.1
    refine ⟨o, m - 1, c, base, ?_, hR.take (by omega), ?_, by omega, by omega, Nat.le_refl _, ?_, by omega⟩
    · rw [h3, show m - 1 + 1 = m by omega]; simp
    · rw [show m - 1 + 1 = m by omega]; exact h2
    · unfold opf arI
      rw [if_neg (by omega)]
      omega
  · rw [Nat.add_sub_cancel] at h2 h4
    have hs := h2.1
    have hs0 := h3.1
    have hi2 : i = 0 ∨ i = 1 := by omega
    rcases hi2 with rfl | rfl
    · refine ⟨o, s - 1, c, base, ?_, hR.take (by omega), ?_, by omega, by omega, Nat.le_refl _, ?_, by omega⟩
      · rw [h4, show s - 1 + 1 = s by omega]; rfl
      · rw [show s - 1 + 1 = s by omega]; exact h3
      · have e := bgF_of (Begins.lift (A := arI I) h2)
        unfold opf
        rw [if_pos ⟨h1, rfl⟩, e]
        omega
    · refine ⟨o + s * 3, m - s - 1, c - s, base + s, ?_, ?_, ?_, by omega, by omega, by omega, ?_, by omega⟩
      · rw [h4, show m - s - 1 + 1 = m - s by omega]; rfl
      · rw [show m - s - 1 + 1 = m - s by omega]
        have := (hR.shift s).take (show m - s ≤ m + 1 - s by omega)
        simpa only [Nat.add_assoc] using this
      · rw [show m - s - 1 + 1 = m - s by omega]
        have := h2.shift
        simpa only [Nat.add_assoc] using this
      · unfold opf
        rw [if_neg (by omega)]
        omega
end Go.Proofs.Ytocmbnocdjnfpaa
