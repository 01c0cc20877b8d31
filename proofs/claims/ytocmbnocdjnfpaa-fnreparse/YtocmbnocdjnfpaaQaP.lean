import Derived.Test.YtocmbnocdjnfpaaQaM
namespace Go.Proofs.Ytocmbnocdjnfpaa

/-- A node as it is told: its kind, its two texts. -/
structure Nd where
  k : Nat
  s : List Int
  t : List Int
/-- What is open or waits. -/
structure Ent where
  k : Nat
  l : List Int
/-- Where the parser stands: its error and the error's place, its token, how many nodes it has made, the last string. -/
structure Pr where
  er : Int
  at_ : Int
  i : Nat
  nd : Nat
  got : List Int

section
variable (T : Nat → Tok) (A : Nat → Nat)

def failP (p : Pr) (e : Int) : Pr := if p.er ≠ 0 then p else { p with er := if (T p.i).c = 0 then 2 else e, at_ := A p.i }
def isP (p : Pr) (c : Nat) : Prop := p.er = 0 ∧ (T p.i).c = c
def symP (p : Pr) (c : Nat) : Pr := if p.er = 0 ∧ (T p.i).c = c then { p with i := p.i + 1 } else failP T A p 3
def strP (p : Pr) : Pr := if p.er = 0 ∧ (T p.i).c = 14 then { p with got := (T p.i).q, i := p.i + 1 } else failP T A p 3
def mkP (p : Pr) : Pr := if p.nd = 100 then failP T A p 4 else { p with nd := p.nd + 1, i := p.i + 1 }

/-- How strong an operator is. -/
def stg (k : Nat) : Nat := if k = 6 then 2 else if k = 7 ∨ k = 8 then 1 else 0
/-- Those that wait and are at least so strong are written out. -/
def drn (least : Nat) : List Ent → List Nd → List Ent × List Nd
  | [], o => ([], o)
  | x :: st, o => if least ≤ stg x.k then drn least st (o ++ [⟨x.k, [], []⟩]) else (x :: st, o)

def stepK (p : Pr) : Nat := if p.er = 0 ∧ (T p.i).c = 4 then 4 else if p.er = 0 ∧ (T p.i).c = 5 then 5 else 3
/-- The step behind a point, from its name on. -/
def stepQ (p : Pr) : Pr × Nd :=
  if stepK T p = 3 ∧ ¬ (p.er = 0 ∧ (T p.i).c = 3) then (failP T A p 3, ⟨3, [], []⟩)
  else if stepK T p = 5 then
    (symP T A (strP T A (symP T A (strP T A (symP T A (mkP T A p) 11)) 13)) 12, ⟨5, (strP T A (symP T A (mkP T A p) 11)).got, (strP T A (symP T A (strP T A (symP T A (mkP T A p) 11)) 13)).got⟩)
  else (symP T A (strP T A (symP T A (mkP T A p) 11)) 12, ⟨stepK T p, (strP T A (symP T A (mkP T A p) 11)).got, []⟩)
/-- The step behind a point. -/
def stepP (p : Pr) : Pr × Nd := stepQ T A { p with i := p.i + 1 }

/-- The machine: the parser, what is written, what waits, whether an operand is wanted, whether it is done. -/
structure Mc where
  p : Pr
  o : List Nd
  st : List Ent
  wt : Bool
  fin : Bool

def bodyM (s : Mc) : Mc :=
  let c := (T s.p.i).c
  if s.wt = true then
    if c = 1 then { s with p := mkP T A s.p, o := s.o ++ [⟨1, [], []⟩], wt := false }
    else if c = 2 then
      let p := symP T A (strP T A (symP T A (mkP T A s.p) 11)) 12
      { s with p := p, o := s.o ++ [⟨2, p.got, []⟩], wt := false }
    else if c = 9 then
      let p := symP T A (strP T A (mkP T A s.p)) 11
      { s with p := p, st := ⟨9, p.got⟩ :: s.st }
    else if c = 11 then { s with p := { s.p with i := s.p.i + 1 }, st := ⟨0, []⟩ :: s.st }
    else { s with p := failP T A s.p 3 }
  else if c = 10 then { s with p := (stepP T A s.p).1, o := s.o ++ [(stepP T A s.p).2] }
  else if 6 ≤ c ∧ c ≤ 8 then
    { s with p := mkP T A s.p, o := (drn (stg c) s.st s.o).2, st := ⟨c, []⟩ :: (drn (stg c) s.st s.o).1, wt := true }
  else
    match drn 1 s.st s.o with
    | ([], o) => if c = 15 then { s with o := o, st := [], fin := true } else { s with p := failP T A s.p 3, o := o, st := [] }
    | (x :: st, o) =>
      if c = 12 then { s with p := { s.p with i := s.p.i + 1 }, o := if x.k = 9 then o ++ [⟨9, x.l, []⟩] else o, st := st }
      else { s with p := failP T A s.p 3, o := o, st := x :: st }

def goM (s : Mc) : Mc := if s.p.er ≠ 0 ∨ s.fin = true then s else bodyM T A s
def itr : Nat → Mc → Mc
  | 0, s => s
  | k + 1, s => itr k (goM T A s)
def Rch (s t : Mc) : Prop := ∃ k, itr T A k s = t
def Term (s : Mc) : Prop := s.p.er ≠ 0 ∨ s.fin = true

theorem Rch.refl (s : Mc) : Rch T A s s := ⟨0, rfl⟩
theorem itr_add : ∀ (a b : Nat) (s : Mc), itr T A (a + b) s = itr T A b (itr T A a s)
  | 0, b, s => by rw [Nat.zero_add]; rfl
  | a + 1, b, s => by
    rw [show a + 1 + b = (a + b) + 1 by omega]
    show itr T A (a + b) (goM T A s) = itr T A b (itr T A a (goM T A s))
    exact itr_add a b _
variable {T A}
theorem Rch.trans {s t u : Mc} (h : Rch T A s t) (k : Rch T A t u) : Rch T A s u := by
  obtain ⟨a, rfl⟩ := h
  obtain ⟨b, rfl⟩ := k
  exact ⟨a + b, itr_add T A a b s⟩
theorem Rch.one {s t : Mc} (h0 : s.p.er = 0) (h1 : s.fin = false) (h : bodyM T A s = t) : Rch T A s t := by
  refine ⟨1, ?_⟩
  show goM T A s = t
  unfold goM
  rw [if_neg (by rw [h0, h1]; simp)]
  exact h
theorem itr_term {s : Mc} (h : Term s) : ∀ k, itr T A k s = s
  | 0 => rfl
  | k + 1 => by
    have e : goM T A s = s := if_pos h
    show itr T A k (goM T A s) = s
    rw [e]; exact itr_term h k
/-- Two ends of one run are one. -/
theorem Rch.same {s t u : Mc} (h : Rch T A s t) (k : Rch T A s u) (ht : Term t) (hu : Term u) : t = u := by
  obtain ⟨a, rfl⟩ := h
  obtain ⟨b, rfl⟩ := k
  have h1 := itr_add T A a b s
  have h2 := itr_add T A b a s
  rw [itr_term ht] at h1
  rw [itr_term hu] at h2
  rw [← h1, ← h2, Nat.add_comm]

/-- The reader's state: good (token, nodes made, nodes), or its error. -/
def nrm (T : Nat → Tok) (A : Nat → Nat) (i nd : Nat) (N : List Nd) : (Nat × Nat × List Nd) ⊕ (Int × Int) :=
  if (T i).c = 0 then .inr (2, (A i : Int)) else .inl (i, nd, N)
/-- The reader takes a token of this number. -/
def tkP (T : Nat → Tok) (A : Nat → Nat) (c : Nat) : (Nat × Nat × List Nd) ⊕ (Int × Int) → (Nat × Nat × List Nd) ⊕ (Int × Int)
  | .inr x => .inr x
  | .inl s =>
    if (T s.1).c = c then
      if 1 ≤ c ∧ c ≤ 9 then (if s.2.1 = 100 then .inr (4, (A s.1 : Int)) else nrm T A (s.1 + 1) (s.2.1 + 1) s.2.2)
      else nrm T A (s.1 + 1) s.2.1 s.2.2
    else .inr (3, (A s.1 : Int))
def emP (x : Nd) : (Nat × Nat × List Nd) ⊕ (Int × Int) → (Nat × Nat × List Nd) ⊕ (Int × Int)
  | .inr x => .inr x
  | .inl s => .inl (s.1, s.2.1, s.2.2 ++ [x])

/-- The machine's parser stands where the reader stands. -/
def RP (T : Nat → Tok) (A : Nat → Nat) (p : Pr) : (Nat × Nat × List Nd) ⊕ (Int × Int) → Prop
  | .inl s => p.er = 0 ∧ p.i = s.1 ∧ p.nd = s.2.1 ∧ (T s.1).c ≠ 0
  | .inr x => x.1 ≠ 0 ∧ ((p.er = x.1 ∧ p.at_ = x.2) ∨ (p.er = 0 ∧ (T p.i).c = 0 ∧ x.1 = 2 ∧ x.2 = (A p.i : Int)))

theorem rp_fail {p : Pr} {i nd : Nat} {N : List Nd} {e : Int} (h : RP T A p (.inl (i, nd, N))) (he : e ≠ 0) : RP T A (failP T A p e) (.inr (e, (A i : Int))) := by
  obtain ⟨h1, h2, h3, h4⟩ := h
  refine ⟨he, Or.inl ?_⟩
  unfold failP
  rw [if_neg (by rw [h1]; simp)]
  subst h2
  constructor
  · show (if (T p.i).c = 0 then (2 : Int) else e) = e
    rw [if_neg h4]
  · rfl
theorem rp_err {p : Pr} {x : Int × Int} (h : RP T A p (.inr x)) (e : Int) : RP T A (failP T A p e) (.inr x) ∧ (failP T A p e).er = x.1 ∧ (failP T A p e).at_ = x.2 := by
  obtain ⟨h0, h⟩ := h
  rcases h with ⟨h1, h2⟩ | ⟨h1, h2, h3, h4⟩
  · have e0 : failP T A p e = p := if_pos (by rw [h1]; exact h0)
    rw [e0]
    exact ⟨⟨h0, Or.inl ⟨h1, h2⟩⟩, h1, h2⟩
  · have e1 : (failP T A p e).er = x.1 := by
      unfold failP
      rw [if_neg (by rw [h1]; simp)]
      show (if (T p.i).c = 0 then (2 : Int) else e) = _
      rw [if_pos h2, h3]
    have e2 : (failP T A p e).at_ = x.2 := by
      unfold failP
      rw [if_neg (by rw [h1]; simp), h4]
    exact ⟨⟨h0, Or.inl ⟨e1, e2⟩⟩, e1, e2⟩
theorem rp_nrm {p : Pr} {i nd : Nat} (h1 : p.er = 0) (h2 : p.i = i) (h3 : p.nd = nd) (N : List Nd) : RP T A p (nrm T A i nd N) := by
  unfold nrm
  split
  · rename_i h; subst h2
    exact ⟨by show (2 : Int) ≠ 0; omega, Or.inr ⟨h1, h, rfl, rfl⟩⟩
  · rename_i h
    exact ⟨h1, h2, h3, h⟩
theorem rp_not {p : Pr} {x : Int × Int} (h : RP T A p (.inr x)) {c : Nat} (hc : c ≠ 0) : ¬ (p.er = 0 ∧ (T p.i).c = c) := by
  rintro ⟨h1, h2⟩
  obtain ⟨h0, h⟩ := h
  rcases h with ⟨h3, _⟩ | ⟨_, h3, _⟩
  · exact h0 (h3.symm.trans h1)
  · exact hc (h2.symm.trans h3)
theorem rp_sym {p : Pr} {σ : (Nat × Nat × List Nd) ⊕ (Int × Int)} (h : RP T A p σ) {c : Nat} (hc : 9 < c) : RP T A (symP T A p c) (tkP T A c σ) := by
  cases σ with
  | inr x =>
    unfold symP
    rw [if_neg (rp_not h (by omega))]
    exact (rp_err h 3).1
  | inl s =>
    obtain ⟨i, nd, N⟩ := s
    obtain ⟨h1, h2, h3, h4⟩ := h
    show RP T A _ (if (T i).c = c then (if 1 ≤ c ∧ c ≤ 9 then _ else nrm T A (i + 1) nd N) else _)
    by_cases h5 : (T i).c = c
    · rw [if_pos h5, if_neg (by omega)]
      unfold symP
      rw [if_pos ⟨h1, by rw [h2]; exact h5⟩]
      refine rp_nrm ?_ ?_ ?_ N
      · exact h1
      · show p.i + 1 = i + 1; rw [h2]
      · exact h3
    · rw [if_neg h5]
      unfold symP
      rw [if_neg (fun e => h5 (by rw [h2] at e; exact e.2))]
      exact rp_fail (N := N) ⟨h1, h2, h3, h4⟩ (by omega)
theorem rp_str {p : Pr} {σ : (Nat × Nat × List Nd) ⊕ (Int × Int)} (h : RP T A p σ) : RP T A (strP T A p) (tkP T A 14 σ) ∧ (∀ i nd N s', σ = .inl (i, nd, N) → tkP T A 14 σ = .inl s' → (strP T A p).got = (T i).q) := by
  cases σ with
  | inr x =>
    unfold strP
    rw [if_neg (rp_not h (by omega))]
    exact ⟨(rp_err h 3).1, fun _ _ _ _ e => by cases e⟩
  | inl s =>
    obtain ⟨i, nd, N⟩ := s
    obtain ⟨h1, h2, h3, h4⟩ := h
    show RP T A _ (if (T i).c = 14 then (if 1 ≤ 14 ∧ 14 ≤ 9 then _ else nrm T A (i + 1) nd N) else _) ∧ ∀ i_1 nd_1 N_1 s', _ → (if (T i).c = 14 then (if 1 ≤ 14 ∧ 14 ≤ 9 then _ else nrm T A (i + 1) nd N) else _) = _ → _
    by_cases h5 : (T i).c = 14
    · rw [if_pos h5, if_neg (by omega)]
      unfold strP
      rw [if_pos ⟨h1, by rw [h2]; exact h5⟩]
      refine ⟨?_, fun i' nd' N' s' e _ => ?_⟩
      · refine rp_nrm ?_ ?_ ?_ N
        · exact h1
        · show p.i + 1 = i + 1; rw [h2]
        · exact h3
      cases e
      show (T p.i).q = _
      rw [h2]
    · rw [if_neg h5]
      unfold strP
      rw [if_neg (fun e => h5 (by rw [h2] at e; exact e.2))]
      exact ⟨rp_fail (N := N) ⟨h1, h2, h3, h4⟩ (by omega), fun _ _ _ _ _ e => by cases e⟩
theorem rp_mk {p : Pr} {i nd : Nat} {N : List Nd} (h : RP T A p (.inl (i, nd, N))) {c : Nat} (hc : (T i).c = c) (h1 : 1 ≤ c) (h9 : c ≤ 9) : RP T A (mkP T A p) (tkP T A c (.inl (i, nd, N))) := by
  obtain ⟨k1, k2, k3, k4⟩ := h
  show RP T A _ (if (T i).c = c then (if 1 ≤ c ∧ c ≤ 9 then (if nd = 100 then .inr (4, (A i : Int)) else nrm T A (i + 1) (nd + 1) N) else _) else _)
  rw [if_pos hc, if_pos ⟨h1, h9⟩]
  have k3' : p.nd = nd := k3
  unfold mkP
  by_cases h : nd = 100
  · rw [if_pos h, if_pos (by rw [k3']; exact h)]
    exact rp_fail (N := N) ⟨k1, k2, k3, k4⟩ (by omega)
  · rw [if_neg h, if_neg (by rw [k3']; exact h)]
    have k2' : p.i = i := k2
    refine rp_nrm ?_ ?_ ?_ N
    · exact k1
    · show p.i + 1 = i + 1; rw [k2']
    · show p.nd + 1 = nd + 1; rw [k3']
end
end Go.Proofs.Ytocmbnocdjnfpaa
