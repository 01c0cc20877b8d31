import Derived.Test.YtfecgececffdoaaTmRe
import Derived.Test.YtfecgececffdoaaTermT
namespace Go.Proofs.Ytfecgececffdoaa
open Go.RowKit Go.Deep Go.MapKept
set_option linter.unusedVariables false
set_option maxRecDepth 100000

/-- A value put in at a place. -/
def insAt {T : Type} (f : Nat → T) (p : Nat) (v : T) (j : Nat) : T := if j < p then f j else if j = p then v else f (j - 1)
theorem insAt_lt {T : Type} {f : Nat → T} {p j : Nat} {v : T} (h : j < p) : insAt f p v j = f j := if_pos h
theorem insAt_at {T : Type} (f : Nat → T) (p : Nat) (v : T) : insAt f p v p = v := by unfold insAt; rw [if_neg (Nat.lt_irrefl _), if_pos rfl]
theorem insAt_gt {T : Type} {f : Nat → T} {p j : Nat} {v : T} (h : p < j) : insAt f p v j = f (j - 1) := by unfold insAt; rw [if_neg (by omega), if_neg (by omega)]

/-- A dictionary's answer in new memory. -/
def RetRes (w : World) (ok : Bool) (id next : Int) (n : Nat) (I : Nat → Int) (X : Nat → ByteArray) (R : Nat → Int) (e : Ending) (w' : World) : Prop :=
  ∃ a c, e = .returned (.agg #[.bool ok, .int .i64 id, .int .i64 next, .slice a n c]) ∧ OwnT w' w.heap.size a n I X R ∧ Below w.heap.size w w' ∧ n ≤ c

/-- The place of a text among ascending ones. -/
def PosOf (n : Nat) (X : Nat → ByteArray) (x : ByteArray) (p : Nat) : Prop := p ≤ n ∧ (∀ i, i < p → Op.bytesLess (X i).toList x.toList = true) ∧ ∀ i, p ≤ i → i < n → Op.bytesLess x.toList (X i).toList = true

theorem less_or {a b : ByteArray} (h : a ≠ b) (h' : Op.bytesLess a.toList b.toList ≠ true) : Op.bytesLess b.toList a.toList = true := by
  have := less_total b.toList a.toList
  have hb : (a.toList == b.toList) = false := by
    rw [beq_eq_false_iff_ne]
    exact fun e => h (bytes_ext e)
  rw [hb, Bool.or_false] at this
  cases h2 : Op.bytesLess b.toList a.toList with
  | true => rfl
  | false => rw [h2] at this; exact absurd this h'

theorem less_asymm {a b : ByteArray} (h : Op.bytesLess a.toList b.toList = true) (h' : Op.bytesLess b.toList a.toList = true) : False := by
  have := less_trans _ _ _ h h'
  rw [less_irrefl] at this
  cases this

theorem PosOf.uniq {n : Nat} {X : Nat → ByteArray} {x : ByteArray} {p p' : Nat} (h : PosOf n X x p) (h' : PosOf n X x p') : p = p' := by
  rcases Nat.lt_trichotomy p p' with h1 | h1 | h1
  · exact absurd (h'.2.1 p h1) (fun q => less_asymm q (h.2.2 p (Nat.le_refl _) (by have := h'.1; omega)))
  · exact h1
  · exact absurd (h.2.1 p' h1) (fun q => less_asymm q (h'.2.2 p' (Nat.le_refl _) (by have := h.1; omega)))

theorem VDt.asc {next : Int} {n : Nat} {I : Nat → Int} {X : Nat → ByteArray} {R : Nat → Int} (h : VDt next n I X R) : ∀ i j, i < j → j < n → Op.bytesLess (X i).toList (X j).toList = true :=
  fun i j hij hj => asc_less (X := X) (k := n) (fun m hm h0 => (h.2.2 m hm).1.2.2.2 h0) j hj i hij

theorem posOf_ex {next : Int} {n : Nat} {I : Nat → Int} {X : Nat → ByteArray} {R : Nat → Int} {x : ByteArray} (h : VDt next n I X R) (hno : ∀ i, i < n → X i ≠ x) : ∃ p, PosOf n X x p := by
  have key : ∀ m, m ≤ n → ∃ p, p ≤ m ∧ (∀ i, i < p → Op.bytesLess (X i).toList x.toList = true) ∧ ∀ i, p ≤ i → i < m → Op.bytesLess x.toList (X i).toList = true := by
    intro m
    induction m with
    | zero => exact fun _ => ⟨0, Nat.le_refl _, fun i hi => absurd hi (Nat.not_lt_zero _), fun i _ hi => absurd hi (Nat.not_lt_zero _)⟩
    | succ m ih =>
      intro hm
      obtain ⟨p, h1, h2, h3⟩ := ih (by omega)
      by_cases hp : p < m
      · refine ⟨p, by omega, h2, fun i hi hi2 => ?_⟩
        by_cases e : i = m
        · subst e; exact less_trans _ _ _ (h3 p (Nat.le_refl _) hp) (h.asc p i hp (by omega))
        · exact h3 i hi (by omega)
      · have e : p = m := by omega
        subst e
        cases hl : Op.bytesLess (X p).toList x.toList with
        | true =>
          refine ⟨p + 1, Nat.le_refl _, fun i hi => ?_, fun i hi hi2 => by omega⟩
          by_cases e : i = p
          · subst e; exact hl
          · exact h2 i (by omega)
        | false =>
          refine ⟨p, by omega, h2, fun i hi hi2 => ?_⟩
          obtain rfl : i = p := by omega
          exact less_or (hno i (by omega)) (by rw [hl]; simp)
  obtain ⟨p, h1, h2, h3⟩ := key n (Nat.le_refl _)
  exact ⟨p, h1, h2, h3⟩

/-- What Intern answers. -/
def InAns (next : Int) (n : Nat) (I : Nat → Int) (X : Nat → ByteArray) (R : Nat → Int) (x : ByteArray) (ok : Bool) (id next' : Int) (n' : Nat) (I' : Nat → Int) (X' : Nat → ByteArray) (R' : Nat → Int) : Prop :=
  ((¬ VDt next n I X R ∨ (∃ i, i < n ∧ X i = x ∧ R i = 2000000000) ∨ ((∀ i, i < n → X i ≠ x) ∧ roomB x n next = false)) ∧ ok = false ∧ id = 0 ∧ next' = next ∧ n' = n ∧ I' = I ∧ X' = X ∧ R' = R) ∨
  (VDt next n I X R ∧ ∃ i, i < n ∧ X i = x ∧ R i ≠ 2000000000 ∧ ok = true ∧ id = I i ∧ next' = next ∧ n' = n ∧ I' = I ∧ X' = X ∧ R' = upd R i (R i + 1)) ∨
  (VDt next n I X R ∧ (∀ i, i < n → X i ≠ x) ∧ roomB x n next = true ∧ ∃ p, PosOf n X x p ∧ ok = true ∧ id = next ∧ next' = next + 1 ∧ n' = n + 1 ∧ I' = insAt I p next ∧ X' = insAt X p x ∧ R' = insAt R p 1)

theorem InAns.same {next : Int} {n : Nat} {I : Nat → Int} {X : Nat → ByteArray} {R : Nat → Int} {x : ByteArray} {ok ok2 : Bool} {id id2 next' next2 : Int} {n' n2 : Nat} {I' I2 : Nat → Int} {X' X2 : Nat → ByteArray} {R' R2 : Nat → Int}
    (h : InAns next n I X R x ok id next' n' I' X' R') (k : InAns next n I X R x ok2 id2 next2 n2 I2 X2 R2) : ok = ok2 ∧ id = id2 ∧ next' = next2 ∧ n' = n2 ∧ I' = I2 ∧ X' = X2 ∧ R' = R2 := by
  rcases h with ⟨h1, rfl, rfl, rfl, rfl, rfl, rfl, rfl⟩ | ⟨h1, i, hi, hx, hr, rfl, rfl, rfl, rfl, rfl, rfl, rfl⟩ | ⟨h1, h2, h3, p, hp, rfl, rfl, rfl, rfl, rfl, rfl, rfl⟩
  · rcases k with ⟨k1, rfl, rfl, rfl, rfl, rfl, rfl, rfl⟩ | ⟨k1, i, hi, hx, hr, rfl, rfl, rfl, rfl, rfl, rfl, rfl⟩ | ⟨k1, k2, k3, p, hp, rfl, rfl, rfl, rfl, rfl, rfl, rfl⟩
    · exact ⟨rfl, rfl, rfl, rfl, rfl, rfl, rfl⟩
    · rcases h1 with h1 | ⟨j, hj, hjx, hjr⟩ | ⟨h1, _⟩
      · exact absurd k1 h1
      · have := k1.text_inj hj hi (hjx.trans hx.symm)
        subst this
        exact absurd hjr hr
      · exact absurd hx (h1 i hi)
    · rcases h1 with h1 | ⟨j, hj, hjx, hjr⟩ | ⟨_, h1⟩
      · exact absurd k1 h1
      · exact absurd hjx (k2 j hj)
      · rw [h1] at k3; cases k3
  · rcases k with ⟨k1, rfl, rfl, rfl, rfl, rfl, rfl, rfl⟩ | ⟨k1, j, hj, hjx, hjr, rfl, rfl, rfl, rfl, rfl, rfl, rfl⟩ | ⟨k1, k2, k3, p, hp, rfl, rfl, rfl, rfl, rfl, rfl, rfl⟩
    · rcases k1 with k1 | ⟨j, hj, hjx, hjr⟩ | ⟨k1, _⟩
      · exact absurd h1 k1
      · have := h1.text_inj hj hi (hjx.trans hx.symm)
        subst this
        exact absurd hjr hr
      · exact absurd hx (k1 i hi)
    · have := h1.text_inj hj hi (hjx.trans hx.symm)
      subst this
      exact ⟨rfl, rfl, rfl, rfl, rfl, rfl, rfl⟩
    · exact absurd hx (k2 i hi)
  · rcases k with ⟨k1, rfl, rfl, rfl, rfl, rfl, rfl, rfl⟩ | ⟨k1, j, hj, hjx, hjr, rfl, rfl, rfl, rfl, rfl, rfl, rfl⟩ | ⟨k1, k2, k3, p2, hp2, rfl, rfl, rfl, rfl, rfl, rfl, rfl⟩
    · rcases k1 with k1 | ⟨j, hj, hjx, hjr⟩ | ⟨_, k1⟩
      · exact absurd h1 k1
      · exact absurd hjx (h2 j hj)
      · rw [k1] at h3; cases h3
    · exact absurd hjx (h2 j hj)
    · have := hp.uniq hp2
      subst this
      exact ⟨rfl, rfl, rfl, rfl, rfl, rfl, rfl⟩

/-- What Release answers. -/
def ReAns (next : Int) (n : Nat) (I : Nat → Int) (X : Nat → ByteArray) (R : Nat → Int) (x : Int) (ok : Bool) (id next' : Int) (n' : Nat) (I' : Nat → Int) (X' : Nat → ByteArray) (R' : Nat → Int) : Prop :=
  ((¬ VDt next n I X R ∨ (∀ i, i < n → I i ≠ x)) ∧ ok = false ∧ id = 0 ∧ next' = next ∧ n' = n ∧ I' = I ∧ X' = X ∧ R' = R) ∨
  (VDt next n I X R ∧ ∃ i, i < n ∧ I i = x ∧ R i ≠ 1 ∧ ok = true ∧ id = x ∧ next' = next ∧ n' = n ∧ I' = I ∧ X' = X ∧ R' = upd R i (R i - 1)) ∨
  (VDt next n I X R ∧ ∃ i, i < n ∧ I i = x ∧ R i = 1 ∧ ok = true ∧ id = x ∧ next' = next ∧ n' = n - 1 ∧ I' = cutAt I i ∧ X' = cutAt X i ∧ R' = cutAt R i)

theorem ReAns.same {next : Int} {n : Nat} {I : Nat → Int} {X : Nat → ByteArray} {R : Nat → Int} {x : Int} {ok ok2 : Bool} {id id2 next' next2 : Int} {n' n2 : Nat} {I' I2 : Nat → Int} {X' X2 : Nat → ByteArray} {R' R2 : Nat → Int}
    (h : ReAns next n I X R x ok id next' n' I' X' R') (k : ReAns next n I X R x ok2 id2 next2 n2 I2 X2 R2) : ok = ok2 ∧ id = id2 ∧ next' = next2 ∧ n' = n2 ∧ I' = I2 ∧ X' = X2 ∧ R' = R2 := by
  have none : ∀ {i}, (¬ VDt next n I X R ∨ (∀ i, i < n → I i ≠ x)) → VDt next n I X R → i < n → I i = x → False := fun q hv hi hx => by
    rcases q with q | q
    · exact q hv
    · exact q _ hi hx
  rcases h with ⟨h1, rfl, rfl, rfl, rfl, rfl, rfl, rfl⟩ | ⟨h1, i, hi, hx, hr, rfl, rfl, rfl, rfl, rfl, rfl, rfl⟩ | ⟨h1, i, hi, hx, hr, rfl, rfl, rfl, rfl, rfl, rfl, rfl⟩
  · rcases k with ⟨k1, rfl, rfl, rfl, rfl, rfl, rfl, rfl⟩ | ⟨k1, j, hj, hjx, hjr, rfl, rfl, rfl, rfl, rfl, rfl, rfl⟩ | ⟨k1, j, hj, hjx, hjr, rfl, rfl, rfl, rfl, rfl, rfl, rfl⟩
    · exact ⟨rfl, rfl, rfl, rfl, rfl, rfl, rfl⟩
    · exact (none h1 k1 hj hjx).elim
    · exact (none h1 k1 hj hjx).elim
  · rcases k with ⟨k1, rfl, rfl, rfl, rfl, rfl, rfl, rfl⟩ | ⟨k1, j, hj, hjx, hjr, rfl, rfl, rfl, rfl, rfl, rfl, rfl⟩ | ⟨k1, j, hj, hjx, hjr, rfl, rfl, rfl, rfl, rfl, rfl, rfl⟩
    · exact (none k1 h1 hi hx).elim
    · have := h1.id_inj hj hi (hjx.trans hx.symm)
      subst this
      exact ⟨rfl, rfl, rfl, rfl, rfl, rfl, rfl⟩
    · have := h1.id_inj hj hi (hjx.trans hx.symm)
      subst this
      exact absurd hjr hr
  · rcases k with ⟨k1, rfl, rfl, rfl, rfl, rfl, rfl, rfl⟩ | ⟨k1, j, hj, hjx, hjr, rfl, rfl, rfl, rfl, rfl, rfl, rfl⟩ | ⟨k1, j, hj, hjx, hjr, rfl, rfl, rfl, rfl, rfl, rfl, rfl⟩
    · exact (none k1 h1 hi hx).elim
    · have := h1.id_inj hj hi (hjx.trans hx.symm)
      subst this
      exact absurd hr hjr
    · have := h1.id_inj hj hi (hjx.trans hx.symm)
      subst this
      exact ⟨rfl, rfl, rfl, rfl, rfl, rfl, rfl⟩

/-- The answer P, handed back. -/
def RetAns (w : World) (P : Bool → Int → Int → Nat → (Nat → Int) → (Nat → ByteArray) → (Nat → Int) → Prop) (e : Ending) (w' : World) : Prop :=
  ∃ ok id next n I X R, P ok id next n I X R ∧ RetRes w ok id next n I X R e w'

theorem DSt.tabSt {w wr : World} {dt : Obj} {next : Int} {I : Nat → Int} {X : Nat → ByteArray} {R : Nat → Int} {k : Nat} {V : Nat → Nat} (h : DSt w wr dt next I X R k V) : TabSt wr (w.heap.size + 1 + 1 + 1) next (w.heap.size + 1) (w.heap.size + 1 + 1) k I X R V ∧ TabOwn w.heap.size (w.heap.size + 1 + 1 + 1) (w.heap.size + 1) (w.heap.size + 1 + 1) k V :=
  ⟨⟨h.tab, h.m1, h.m2, h.each, by omega⟩, ⟨by omega, by omega, by omega, h.ge⟩⟩

/-- Inserted texts ascend. -/
theorem ins_asc {next : Int} {n : Nat} {I : Nat → Int} {X : Nat → ByteArray} {R : Nat → Int} {x : ByteArray} {p : Nat} (h : VDt next n I X R) (hp : PosOf n X x p) : ∀ i j, i < j → j < n + 1 → Op.bytesLess (insAt X p x i).toList (insAt X p x j).toList = true := by
  intro i j hij hj
  rcases Nat.lt_trichotomy i p with h1 | h1 | h1
  · rw [insAt_lt h1]
    rcases Nat.lt_trichotomy j p with h2 | h2 | h2
    · rw [insAt_lt h2]; exact h.asc i j hij (by have := hp.1; omega)
    · subst h2; rw [insAt_at]; exact hp.2.1 i h1
    · rw [insAt_gt h2]; exact h.asc i (j - 1) (by omega) (by omega)
  · subst h1
    rw [insAt_at, insAt_gt hij]
    exact hp.2.2 (j - 1) (by omega) (by omega)
  · rw [insAt_gt h1, insAt_gt (by omega)]
    exact h.asc (i - 1) (j - 1) (by omega) (by omega)
end Go.Proofs.Ytfecgececffdoaa
