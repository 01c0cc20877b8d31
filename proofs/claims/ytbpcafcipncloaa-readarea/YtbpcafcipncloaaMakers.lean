import Derived.Deep.RegionHeld3
namespace Go.Proofs.Ytbpcafcipncloaa
open Go

/-! A drawn region of operations that each make something which stays: whatever the order, in the end everything is made. -/
/-- What operation i has left in its slot. -/
def opVal (ops : Array Oper) (a : Act) (i : Nat) : Value := match ops[i]? with
  | some o => (match o.dst with | some s => a.tmps.getD s undef | none => undef)
  | none => undef

/-- The slots that no operation writes are as they were. -/
structure Plain (ops : Array Oper) (a0 a : Act) : Prop where
  defers : a.defers = a0.defers
  size : a.tmps.size = a0.tmps.size
  other : ∀ (s : Nat), (∀ (i : Nat) (o : Oper), ops[i]? = some o → o.dst ≠ some s) → a.tmps.getD s undef = a0.tmps.getD s undef

theorem put_getD_same {a : Act} {s : Nat} {v : Value} (h : s < a.tmps.size) : (a.put (some s) v).tmps.getD s undef = v := by
  simp [Act.put, h]
theorem put_getD_other {a : Act} {s t : Nat} {v : Value} (h : s ≠ t) : (a.put (some s) v).tmps.getD t undef = a.tmps.getD t undef := by
  simp [Act.put, Array.getElem?_setIfInBounds_ne h]

/-- Every operation has a slot of its own, and waits for earlier ones alone. -/
def sortedB (ops : Array Oper) (n : Nat) : Bool :=
  (List.range ops.size).all fun i => match ops[i]? with
    | some o => (match o.dst with | some s => decide (s < n) && (List.range ops.size).all (fun j => j == i || (match ops[j]? with | some p => p.dst != some s | none => true)) | none => false) && o.after.all (fun e => decide (e.on < i))
    | none => true

theorem sortedB_spec {ops : Array Oper} {n : Nat} (h : sortedB ops n = true) {i : Nat} {o : Oper} (ho : ops[i]? = some o) :
    (∃ s, o.dst = some s ∧ s < n ∧ ∀ j p, ops[j]? = some p → p.dst = some s → j = i) ∧ ∀ e ∈ o.after, e.on < i := by
  have hi : i < ops.size := (Array.getElem?_eq_some_iff.1 ho).1
  have h1 := List.all_eq_true.1 h i (List.mem_range.2 hi)
  rw [ho] at h1
  simp only [Bool.and_eq_true] at h1
  obtain ⟨h2, h3⟩ := h1
  constructor
  · cases hd : o.dst with
    | none => rw [hd] at h2; cases h2
    | some s =>
      rw [hd] at h2
      simp only [Bool.and_eq_true, decide_eq_true_eq] at h2
      refine ⟨s, rfl, h2.1, fun j p hj hp => ?_⟩
      have hjl : j < ops.size := (Array.getElem?_eq_some_iff.1 hj).1
      have h4 := List.all_eq_true.1 h2.2 j (List.mem_range.2 hjl)
      rw [hj] at h4
      simp only [Bool.or_eq_true, beq_iff_eq, bne_iff_ne, ne_eq] at h4
      rcases h4 with h4 | h4
      · exact h4
      · exact absurd hp h4
  · intro e he
    have := Array.all_eq_true_iff_forall_mem.1 h3 e he
    simpa using this

theorem getD_false {l : Array Bool} {k : Nat} (h : l.getD k false = true) : k < l.size ∧ l.getD k true = true := by
  rcases Nat.lt_or_ge k l.size with h' | h'
  · refine ⟨h', ?_⟩
    simp [h'] at h ⊢
    exact h
  · simp [Array.getElem?_eq_none h'] at h

theorem makers_any {P : Program} {ops : Array Oper} {Q : Exit → Act → World → Prop} {a0 : Act} {w0 : World} (Ext : World → World → Prop) (Φ : Nat → Value → World → Prop)
    (htr : ∀ u v w, Ext u v → Ext v w → Ext u w) (hst : ∀ i v w w', Φ i v w → Ext w w' → Φ i v w') (hso : sortedB ops a0.tmps.size = true)
    (hop : ∀ i o, ops[i]? = some o → ∀ a w, Plain ops a0 a → Ext w0 w → (∀ e ∈ o.after, Region.binds .any e = true → Φ e.on (opVal ops a e.on) w) → ∀ K' : Act → World → Prop, (∀ v w', Ext w w' → Φ i v w' → K' (a.put o.dst v) w') → if Region.wanted o (yielded ops a.tmps) = true then Oper.wp P o a w K' Q else K' (a.put o.dst undef) w)
    (hend : ∀ a w, Plain ops a0 a → Ext w0 w → (∀ i, i < ops.size → Φ i (opVal ops a i) w) → Q .normal a w) :
    ∀ (fuel : Nat) (listed : Array Bool) (a : Act) (w : World) (L : List Nat), L.length ≤ fuel → (∀ j, j < ops.size → listed.getD j true = false → j ∈ L) → listed.size = ops.size → Plain ops a0 a → Ext w0 w → (∀ i, i < ops.size → listed.getD i true = true → Φ i (opVal ops a i) w) → wpAny P .any ops Q fuel listed a w := by
  have fin : ∀ (listed : Array Bool) (a : Act) (w : World), listed.size = ops.size → Plain ops a0 a → Ext w0 w → (∀ i, i < ops.size → listed.getD i true = true → Φ i (opVal ops a i) w) → (∀ j, j < ops.size → listed.getD j true = true) → Q .normal a w := fun listed a w _ hp he hphi hall => hend a w hp he (fun i hi => hphi i hi (hall i hi))
  have all : ∀ (listed : Array Bool), listed.size = ops.size → Region.ready .any ops listed = [] → ∀ j, j < ops.size → listed.getD j true = true := by
    intro listed hsz hr j
    induction j using Nat.strongRecOn with
    | ind j ih =>
      intro hj
      cases hb : listed.getD j true with
      | true => rfl
      | false =>
        exfalso
        have hoj : ops[j]? = some ops[j] := Array.getElem?_eq_getElem hj
        have hm : j ∈ Region.ready .any ops listed := by
          refine mem_ready.2 ⟨hb, _, hoj, fun e he _ => ?_⟩
          have hlt := (sortedB_spec hso hoj).2 e he
          have := ih e.on hlt (by omega)
          have hl : e.on < listed.size := by omega
          simp [hl] at this ⊢
          exact this
        rw [hr] at hm
        cases hm
  intro fuel
  induction fuel with
  | zero =>
    intro listed a w L hL hun hsz hp he hphi
    have hnil : L = [] := List.eq_nil_of_length_eq_zero (by omega)
    have hall : ∀ j, j < ops.size → listed.getD j true = true := fun j hj => by
      cases hb : listed.getD j true with
      | true => rfl
      | false => have := hun j hj hb; rw [hnil] at this; cases this
    refine ⟨?_, fin listed a w hsz hp he hphi hall⟩
    apply List.eq_nil_iff_forall_not_mem.2
    intro j hj
    obtain ⟨hb, o, ho, _⟩ := mem_ready.1 hj
    rw [hall j (Array.getElem?_eq_some_iff.1 ho).1] at hb
    cases hb
  | succ fuel ih =>
    intro listed a w L hL hun hsz hp he hphi
    refine ⟨fun hr => fin listed a w hsz hp he hphi (all listed hsz hr), fun i hi => ?_⟩
    obtain ⟨hb, o, ho, hdep⟩ := mem_ready.1 hi
    have hil : i < ops.size := (Array.getElem?_eq_some_iff.1 ho).1
    obtain ⟨⟨s, hs, hsn, hun'⟩, _⟩ := sortedB_spec hso ho
    refine wpOp_step ho (fun K' hK => hop i o ho a w hp he (fun e hea hbe => ?_) K' (fun v w' hx hv => hK _ _ ?_))
    · obtain ⟨q1, q2⟩ := getD_false (hdep e hea hbe)
      exact hphi e.on (by omega) q2
    · have hne : ∀ j, j ≠ i → opVal ops (a.put o.dst v) j = opVal ops a j := by
        intro j hj
        unfold opVal
        cases hoj : ops[j]? with
        | none => rfl
        | some p =>
          cases hd : p.dst with
          | none => simp [hd]
          | some t =>
            simp only [hd]
            rw [hs]
            exact put_getD_other (fun e => hj (hun' j p hoj (by rw [hd, e])))
      have hsame : opVal ops (a.put o.dst v) i = v := by
        unfold opVal
        rw [ho]
        simp only [hs]
        exact put_getD_same (by rw [hp.size]; exact hsn)
      refine ih _ _ _ (L.erase i) ?_ ?_ (by simp [hsz]) ⟨by rw [hs]; exact hp.defers, ?_, ?_⟩ (htr _ _ _ he hx) ?_
      · have := List.length_erase_of_mem (hun i hil hb)
        omega
      · intro j hj hbj
        by_cases e : j = i
        · subst e
          have hl : j < listed.size := by omega
          simp [hl] at hbj
        · rw [getD_set_ne true (fun h => e h.symm)] at hbj
          exact (List.mem_erase_of_ne e).2 (hun j hj hbj)
      · rw [hs]; simp [Act.put, hp.size]
      · intro t ht
        rw [hs]
        rw [put_getD_other (fun e => ht i o ho (by rw [hs, e]))]
        exact hp.other t ht
      · intro j hj hbj
        by_cases e : j = i
        · subst e
          rw [hsame]
          exact hv
        · rw [hne j e]
          rw [getD_set_ne true (fun h => e h.symm)] at hbj
          exact hst _ _ _ _ (hphi j hj hbj) hx

/-- The rule. -/
theorem wp_region_makers {P : Program} {id : Nat} {ops : Array Oper} {Q : Exit → Act → World → Prop} {a0 : Act} {w : World} (hm : P.follows .mixedOrders = true) (Ext : World → World → Prop) (Φ : Nat → Value → World → Prop)
    (htr : ∀ u v w, Ext u v → Ext v w → Ext u w) (hrf : Ext w.drew w.drew) (hst : ∀ i v w w', Φ i v w → Ext w w' → Φ i v w') (hso : sortedB ops a0.tmps.size = true)
    (hop : ∀ i o, ops[i]? = some o → ∀ a w1, Plain ops a0 a → Ext w.drew w1 → (∀ e ∈ o.after, Region.binds .any e = true → Φ e.on (opVal ops a e.on) w1) → ∀ K' : Act → World → Prop, (∀ v w', Ext w1 w' → Φ i v w' → K' (a.put o.dst v) w') → if Region.wanted o (yielded ops a.tmps) = true then Oper.wp P o a w1 K' Q else K' (a.put o.dst undef) w1)
    (hend : ∀ a w1, Plain ops a0 a → Ext w.drew w1 → (∀ i, i < ops.size → Φ i (opVal ops a i) w1) → Q .normal a w1) : (Code.region id ops true).wp P Q a0 w :=
  wp_region_any hm (makers_any Ext Φ htr hst hso hop hend ops.size (Array.replicate ops.size false) a0 w.drew (List.range ops.size) (by simp) (fun j hj _ => List.mem_range.2 hj) (by simp) ⟨rfl, rfl, fun _ _ => rfl⟩ hrf (fun i hi hb => by simp [hi] at hb))
end Go.Proofs.Ytbpcafcipncloaa
