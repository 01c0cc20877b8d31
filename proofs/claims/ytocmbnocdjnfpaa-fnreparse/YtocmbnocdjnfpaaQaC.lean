import Derived.Test.YtocmbnocdjnfpaaQaP
namespace Go.Proofs.Ytocmbnocdjnfpaa

def arN (k : Nat) : Nat := if k ≤ 2 then 0 else if 6 ≤ k ∧ k ≤ 8 then 2 else 1
/-- How many stand open behind these nodes, s having stood open ahead of them. -/
def runD : List Nd → Nat → Option Nat
  | [], s => some s
  | x :: l, s => if arN x.k ≤ s then runD l (s - arN x.k + 1) else none
theorem runD_app : ∀ (a b : List Nd) (s : Nat), runD (a ++ b) s = (runD a s).bind (runD b)
  | [], b, s => rfl
  | x :: a, b, s => by
    show (if arN x.k ≤ s then runD (a ++ b) (s - arN x.k + 1) else none) = (if arN x.k ≤ s then runD a (s - arN x.k + 1) else none).bind (runD b)
    split
    · exact runD_app a b _
    · rfl
/-- The nodes are one tree. -/
def Tr (d : List Nd) : Prop := ∀ s, runD d s = some (s + 1)
theorem tr_leaf {x : Nd} (h : arN x.k = 0) : Tr [x] := fun s => by
  show (if arN x.k ≤ s then some (s - arN x.k + 1) else none) = _
  rw [h, if_pos (Nat.zero_le _)]; rfl
theorem tr_one {d : List Nd} {x : Nd} (hd : Tr d) (h : arN x.k = 1) : Tr (d ++ [x]) := fun s => by
  rw [runD_app, hd s]
  show (if arN x.k ≤ s + 1 then some (s + 1 - arN x.k + 1) else none) = _
  rw [h, if_pos (by omega)]; rfl
theorem tr_two {d e : List Nd} {x : Nd} (hd : Tr d) (he : Tr e) (h : arN x.k = 2) : Tr (d ++ e ++ [x]) := fun s => by
  rw [runD_app, runD_app, hd s]
  show ((runD e (s + 1))).bind (runD [x]) = _
  rw [he (s + 1)]
  show (if arN x.k ≤ s + 1 + 1 then some (s + 1 + 1 - arN x.k + 1) else none) = _
  rw [h, if_pos (by omega)]
  show some (s + 1 + 1 - 2 + 1) = _
  rw [show s + 1 + 1 - 2 + 1 = s + 1 by omega]

def txL (q : List Int) : Prop := 1 ≤ q.length ∧ q.length ≤ 30 ∧ ∀ x, x ∈ q → 0 ≤ x ∧ x < 256
/-- The node is good. -/
def gdN (x : Nd) : Prop :=
  (1 ≤ x.k ∧ x.k ≤ 9) ∧ (x.k = 1 ∨ x.k = 6 ∨ x.k = 7 ∨ x.k = 8 → x.s = [] ∧ x.t = []) ∧ (x.k = 2 ∨ x.k = 3 ∨ x.k = 4 ∨ x.k = 9 → txL x.s ∧ x.t = []) ∧ (x.k = 5 → txL x.s ∧ txL x.t)

def topS : List Ent → Nat
  | [] => 0
  | x :: _ => stg x.k
def ndE (x : Ent) : Nd := ⟨x.k, [], []⟩
theorem drn_all {least : Nat} {st : List Ent} (ht : topS st < least) : ∀ (pend : List Ent) (o : List Nd), (∀ x, x ∈ pend → least ≤ stg x.k) → drn least (pend ++ st) o = (st, o ++ pend.map ndE)
  | [], o, _ => by
    cases st with
    | nil => show ([], o) = _; simp
    | cons x st =>
      show (if least ≤ stg x.k then _ else (x :: st, o)) = _
      rw [if_neg (by have : stg x.k < least := ht; omega)]; simp
  | x :: pend, o, h => by
    show (if least ≤ stg x.k then drn least (pend ++ st) (o ++ [⟨x.k, [], []⟩]) else _) = _
    rw [if_pos (h x (List.mem_cons_self ..)), drn_all ht pend _ (fun y hy => h y (List.mem_cons_of_mem _ hy))]
    simp [ndE]

def stopC (u c : Nat) : Prop := (u ≤ 3 → c ≠ 10) ∧ (u ≤ 2 → c ≠ 6) ∧ (u ≤ 1 → c ≠ 7 ∧ c ≠ 8)

section
variable (T : Nat → Tok) (A : Nat → Nat)
/-- What the reader has made from (i, nd, N) on, wanting an operand, the machine makes too: all that waits on top is at least s strong; the next token doesn't go on at the level u. -/
def PC (s u i nd : Nat) (N : List Nd) : (Nat × Nat × List Nd) ⊕ (Int × Int) → Prop
  | .inr x => x.1 ≠ 0 ∧ ∀ (p : Pr) o st, p.er = 0 → p.i = i → p.nd = nd → topS st < s → ∃ t, Rch T A ⟨p, o, st, true, false⟩ t ∧ t.p.er = x.1 ∧ t.p.at_ = x.2
  | .inl r => ∃ d, r.2.2 = N ++ d ∧ Tr d ∧ (∀ x, x ∈ d → gdN x) ∧ r.2.1 = nd + d.length ∧ r.2.1 ≤ 100 ∧ i < r.1 ∧ (T r.1).c ≠ 0 ∧ stopC u (T r.1).c ∧
      ∀ (p : Pr) o st, p.er = 0 → p.i = i → p.nd = nd → topS st < s → ∃ (p' : Pr) (o1 : List Nd) (pend : List Ent), p'.er = 0 ∧ p'.i = r.1 ∧ p'.nd = r.2.1 ∧ o1 ++ pend.map ndE = o ++ d ∧ (∀ x, x ∈ pend → s ≤ stg x.k) ∧
        Rch T A ⟨p, o, st, true, false⟩ ⟨p', o1, pend ++ st, false, false⟩
variable {T A}

theorem PC.up {s s' u i nd : Nat} {N : List Nd} {σ : (Nat × Nat × List Nd) ⊕ (Int × Int)} (h : PC T A s u i nd N σ) (hs : s' ≤ s) : PC T A s' u i nd N σ := by
  cases σ with
  | inr x => exact ⟨h.1, fun p o st h1 h2 h3 h4 => h.2 p o st h1 h2 h3 (by omega)⟩
  | inl r =>
    obtain ⟨d, h1, h2, h3, h4, h5, h6, h7, h8, h9⟩ := h
    refine ⟨d, h1, h2, h3, h4, h5, h6, h7, h8, fun p o st k1 k2 k3 k4 => ?_⟩
    obtain ⟨p', o1, pend, e1, e2, e3, e4, e5, e6⟩ := h9 p o st k1 k2 k3 (by omega)
    exact ⟨p', o1, pend, e1, e2, e3, e4, fun x hx => by have := e5 x hx; omega, e6⟩
theorem PC.stop {s u u' i nd : Nat} {N : List Nd} {r : Nat × Nat × List Nd} (h : PC T A s u i nd N (.inl r)) (hs : stopC u' (T r.1).c) : PC T A s u' i nd N (.inl r) := by
  obtain ⟨d, h1, h2, h3, h4, h5, h6, h7, h8, h9⟩ := h
  exact ⟨d, h1, h2, h3, h4, h5, h6, h7, hs, h9⟩
theorem PC.err {s s' u u' i nd : Nat} {N : List Nd} {x : Int × Int} (h : PC T A s u i nd N (.inr x)) (hs : s' ≤ s) : PC T A s' u' i nd N (.inr x) :=
  ⟨h.1, fun p o st h1 h2 h3 h4 => h.2 p o st h1 h2 h3 (by omega)⟩

theorem body_lex (s : Mc) (h0 : s.p.er = 0) (hc : (T s.p.i).c = 0) : (bodyM T A s).p.er = 2 ∧ (bodyM T A s).p.at_ = (A s.p.i : Int) := by
  have hf : (failP T A s.p 3).er = 2 ∧ (failP T A s.p 3).at_ = (A s.p.i : Int) := by
    unfold failP
    rw [if_neg (by rw [h0]; simp)]
    constructor
    · show (if (T s.p.i).c = 0 then (2 : Int) else 3) = 2
      rw [if_pos hc]
    · rfl
  have e : ∀ k, k ≠ 0 → (T s.p.i).c ≠ k := fun k hk e => hk (e.symm.trans hc)
  unfold bodyM
  by_cases hw : s.wt = true
  · simp only [hw, if_true, if_neg (e 1 (by omega)), if_neg (e 2 (by omega)), if_neg (e 9 (by omega)), if_neg (e 11 (by omega))]
    exact hf
  · simp only [hw, if_neg (e 10 (by omega))]
    rw [if_neg (by simp), if_neg (by rw [hc]; omega)]
    cases h : drn 1 s.st s.o with
    | mk a b =>
      cases a with
      | nil => simp only [if_neg (e 15 (by omega))]; exact hf
      | cons x st => simp only [if_neg (e 12 (by omega))]; exact hf

/-- An error that stands, or the next token is none. -/
theorem end_err (s : Mc) {x : Int × Int} (h : RP T A s.p (.inr x)) (hf : s.fin = false) : ∃ t, Rch T A s t ∧ t.p.er = x.1 ∧ t.p.at_ = x.2 := by
  obtain ⟨h0, h⟩ := h
  rcases h with ⟨h1, h2⟩ | ⟨h1, h2, h3, h4⟩
  · exact ⟨s, Rch.refl T A s, h1, h2⟩
  · have := body_lex (A := A) s h1 h2
    exact ⟨bodyM T A s, Rch.one h1 hf rfl, by rw [this.1, h3], by rw [this.2, h4]⟩

theorem nrm_inv {i nd : Nat} {N : List Nd} {s' : Nat × Nat × List Nd} (h : nrm T A i nd N = .inl s') : s' = (i, nd, N) ∧ (T i).c ≠ 0 := by
  unfold nrm at h
  split at h
  · cases h
  · rename_i h1; cases h; exact ⟨rfl, h1⟩
theorem tk_inv {c : Nat} {σ : (Nat × Nat × List Nd) ⊕ (Int × Int)} {s' : Nat × Nat × List Nd} (h : tkP T A c σ = .inl s') :
    ∃ i nd N, σ = .inl (i, nd, N) ∧ (T i).c = c ∧ s' = (i + 1, nd + (if 1 ≤ c ∧ c ≤ 9 then 1 else 0), N) ∧ (1 ≤ c ∧ c ≤ 9 → nd ≠ 100) ∧ (T (i + 1)).c ≠ 0 := by
  cases σ with
  | inr x => cases h
  | inl s =>
    obtain ⟨i, nd, N⟩ := s
    have h' : (if (T i).c = c then (if 1 ≤ c ∧ c ≤ 9 then (if nd = 100 then (Sum.inr (4, (A i : Int)) : (Nat × Nat × List Nd) ⊕ (Int × Int)) else nrm T A (i + 1) (nd + 1) N) else nrm T A (i + 1) nd N) else .inr (3, (A i : Int))) = .inl s' := h
    refine ⟨i, nd, N, rfl, ?_⟩
    split at h'
    · rename_i h1
      split at h'
      · rename_i h2
        split at h'
        · cases h'
        · rename_i h3
          have := nrm_inv h'
          exact ⟨h1, by rw [if_pos h2]; exact this.1, fun _ => h3, this.2⟩
      · rename_i h2
        have := nrm_inv h'
        exact ⟨h1, by rw [if_neg h2]; exact this.1, fun e => absurd e h2, this.2⟩
    · cases h'

/-- A leaf: one step of the machine. -/
theorem pc_leaf {i nd : Nat} {N : List Nd} {σ : (Nat × Nat × List Nd) ⊕ (Int × Int)} {x : Nd} (P : Pr → Pr) (X : Pr → Nd)
    (hb : ∀ (p : Pr) o st, p.er = 0 → p.i = i → p.nd = nd → bodyM T A ⟨p, o, st, true, false⟩ = ⟨P p, o ++ [X p], st, false, false⟩ ∧ RP T A (P p) σ ∧ (∀ s', σ = .inl s' → X p = x))
    (hs : ∀ s', σ = .inl s' → i < s'.1 ∧ s'.2.1 = nd + 1 ∧ s'.2.1 ≤ 100 ∧ s'.2.2 = N ∧ (T s'.1).c ≠ 0 ∧ gdN x ∧ arN x.k = 0) : PC T A 3 4 i nd N (emP x σ) := by
  cases σ with
  | inr y =>
    have h0 : y.1 ≠ 0 := (hb ⟨0, 0, i, nd, []⟩ [] [] rfl rfl rfl).2.1.1
    refine ⟨h0, fun p o st h1 h2 h3 _ => ?_⟩
    obtain ⟨k1, k2, _⟩ := hb p o st h1 h2 h3
    obtain ⟨t, t1, t2⟩ := end_err (T := T) (A := A) ⟨P p, o ++ [X p], st, false, false⟩ k2 rfl
    exact ⟨t, (Rch.one h1 rfl k1).trans t1, t2⟩
  | inl s' =>
    obtain ⟨a1, a2, a3, a4, a5, a6, a7⟩ := hs s' rfl
    refine ⟨[x], by show s'.2.2 ++ [x] = _; rw [a4], tr_leaf a7, fun y hy => by rw [List.mem_singleton] at hy; subst hy; exact a6, a2, a3, a1, a5, ⟨fun e => absurd e (by omega), fun e => absurd e (by omega), fun e => absurd e (by omega)⟩, fun p o st h1 h2 h3 _ => ?_⟩
    obtain ⟨k1, k2, k3⟩ := hb p o st h1 h2 h3
    obtain ⟨r1, r2, r3, _⟩ := k2
    refine ⟨P p, o ++ [X p], [], r1, r2, r3, by rw [k3 s' rfl]; simp, (fun y hy => absurd hy List.not_mem_nil), Rch.one h1 rfl k1⟩

/-- A step behind a point: one step of the machine. -/
theorem pc_step {i nd i1 nd1 : Nat} {N N1 : List Nd} {σ : (Nat × Nat × List Nd) ⊕ (Int × Int)} {x : Nd} (h : PC T A 3 4 i nd N (.inl (i1, nd1, N1))) (P : Pr → Pr) (X : Pr → Nd)
    (hb : ∀ (p : Pr) o st, p.er = 0 → p.i = i1 → p.nd = nd1 → bodyM T A ⟨p, o, st, false, false⟩ = ⟨P p, o ++ [X p], st, false, false⟩ ∧ RP T A (P p) σ ∧ (∀ s', σ = .inl s' → X p = x))
    (hs : ∀ s', σ = .inl s' → i1 < s'.1 ∧ s'.2.1 = nd1 + 1 ∧ s'.2.1 ≤ 100 ∧ s'.2.2 = N1 ∧ (T s'.1).c ≠ 0 ∧ gdN x ∧ arN x.k = 1) : PC T A 3 4 i nd N (emP x σ) := by
  obtain ⟨d, c1, c2, c3, c4, c5, c6, c7, c8, c9⟩ := h
  have nil3 : ∀ (pend : List Ent), (∀ x, x ∈ pend → 3 ≤ stg x.k) → pend = [] := by
    intro pend hp
    cases pend with
    | nil => rfl
    | cons y l =>
      have := hp y (List.mem_cons_self ..)
      unfold stg at this
      split at this
      · omega
      · split at this <;> omega
  cases σ with
  | inr y =>
    have h0 : y.1 ≠ 0 := (hb ⟨0, 0, i1, nd1, []⟩ [] [] rfl rfl rfl).2.1.1
    refine ⟨h0, fun p o st h1 h2 h3 h4 => ?_⟩
    obtain ⟨p', o1, pend, e1, e2, e3, e4, e5, e6⟩ := c9 p o st h1 h2 h3 h4
    have := nil3 pend e5
    subst this
    obtain ⟨k1, k2, _⟩ := hb p' o1 st e1 e2 e3
    obtain ⟨t, t1, t2⟩ := end_err (T := T) (A := A) ⟨P p', o1 ++ [X p'], st, false, false⟩ k2 rfl
    exact ⟨t, e6.trans ((Rch.one e1 rfl k1).trans t1), t2⟩
  | inl s' =>
    obtain ⟨a1, a2, a3, a4, a5, a6, a7⟩ := hs s' rfl
    have c1' : N1 = N ++ d := c1
    have c4' : nd1 = nd + d.length := c4
    have c6' : i < i1 := c6
    refine ⟨d ++ [x], by show s'.2.2 ++ [x] = _; rw [a4, c1']; simp, tr_one c2 a7, fun y hy => ?_, by show s'.2.1 = _; rw [a2, c4']; simp; omega, a3, by show i < s'.1; omega, a5, ⟨fun e => absurd e (by omega), fun e => absurd e (by omega), fun e => absurd e (by omega)⟩, fun p o st h1 h2 h3 h4 => ?_⟩
    · rcases List.mem_append.1 hy with hy | hy
      · exact c3 y hy
      · rw [List.mem_singleton] at hy; subst hy; exact a6
    obtain ⟨p', o1, pend, e1, e2, e3, e4, e5, e6⟩ := c9 p o st h1 h2 h3 h4
    have := nil3 pend e5
    subst this
    obtain ⟨k1, k2, k3⟩ := hb p' o1 st e1 e2 e3
    obtain ⟨r1, r2, r3, _⟩ := k2
    have e4' : o1 = o ++ d := by simpa using e4
    refine ⟨P p', o1 ++ [X p'], [], r1, r2, r3, by rw [k3 s' rfl, e4']; simp, (fun y hy => absurd hy List.not_mem_nil), e6.trans (Rch.one e1 rfl k1)⟩

/-- An operator between two operands. -/
theorem pc_two {s c i nd i1 nd1 : Nat} {N N1 : List Nd} {σ3 : (Nat × Nat × List Nd) ⊕ (Int × Int)} (h : PC T A s (s + 1) i nd N (.inl (i1, nd1, N1))) (hc : (T i1).c = c) (hc1 : 6 ≤ c) (hc2 : c ≤ 8) (hsc : stg c = s)
    (he : ∀ x, tkP T A c (.inl (i1, nd1, N1)) = .inr x → σ3 = .inr x)
    (hk : ∀ i2 nd2 N2, tkP T A c (.inl (i1, nd1, N1)) = .inl (i2, nd2, N2) → PC T A (s + 1) (s + 1) i2 nd2 N2 σ3) : PC T A s (s + 1) i nd N (emP ⟨c, [], []⟩ σ3) := by
  obtain ⟨d, c1, c2, c3, c4, c5, c6, c7, c8, c9⟩ := h
  have body : ∀ (p : Pr) o st pend o1, p.er = 0 → p.i = i1 → p.nd = nd1 → topS st < s → o1 ++ pend.map ndE = o ++ d → (∀ x, x ∈ pend → s ≤ stg x.k) → bodyM T A ⟨p, o1, pend ++ st, false, false⟩ = ⟨mkP T A p, o ++ d, ⟨c, []⟩ :: st, true, false⟩ := by
    intro p o st pend o1 h1 h2 h3 h4 h5 h6
    have hd := drn_all (least := s) h4 pend o1 h6
    rw [h5] at hd
    unfold bodyM
    simp only [h2, hc]
    rw [if_neg (by simp), if_neg (by omega), if_pos ⟨hc1, hc2⟩, hsc, hd]
  cases ht : tkP T A c (.inl (i1, nd1, N1)) with
  | inr x =>
    rw [he x ht]
    have rp : ∀ p : Pr, p.er = 0 → p.i = i1 → p.nd = nd1 → RP T A (mkP T A p) (.inr x) := fun p h1 h2 h3 => by
      rw [← ht]; exact rp_mk ⟨h1, h2, h3, c7⟩ hc (by omega) (by omega)
    refine ⟨(rp ⟨0, 0, i1, nd1, []⟩ rfl rfl rfl).1, fun p o st h1 h2 h3 h4 => ?_⟩
    obtain ⟨p', o1, pend, e1, e2, e3, e4, e5, e6⟩ := c9 p o st h1 h2 h3 h4
    obtain ⟨t, t1, t2⟩ := end_err (T := T) (A := A) ⟨mkP T A p', o ++ d, ⟨c, []⟩ :: st, true, false⟩ (rp p' e1 e2 e3) rfl
    exact ⟨t, e6.trans ((Rch.one e1 rfl (body p' o st pend o1 e1 e2 e3 h4 e4 e5)).trans t1), t2⟩
  | inl s2 =>
    obtain ⟨i2, nd2, N2⟩ := s2
    have h3 := hk i2 nd2 N2 ht
    have rp : ∀ p : Pr, p.er = 0 → p.i = i1 → p.nd = nd1 → RP T A (mkP T A p) (.inl (i2, nd2, N2)) := fun p h1 h2 h3 => by
      rw [← ht]; exact rp_mk ⟨h1, h2, h3, c7⟩ hc (by omega) (by omega)
    obtain ⟨j1, j2, j3, w1, w2, w3, w4, w5⟩ := tk_inv ht
    cases w1
    rw [if_pos ⟨by omega, by omega⟩] at w3
    cases w3
    have top : ∀ st : List Ent, topS ((⟨c, []⟩ : Ent) :: st) < s + 1 := fun st => by show stg c < s + 1; omega
    cases σ3 with
    | inr x =>
      refine ⟨h3.1, fun p o st h1 h2 h3' h4 => ?_⟩
      obtain ⟨p', o1, pend, e1, e2, e3, e4, e5, e6⟩ := c9 p o st h1 h2 h3' h4
      obtain ⟨r1, r2, r3, _⟩ := rp p' e1 e2 e3
      obtain ⟨t, t1, t2⟩ := h3.2 (mkP T A p') (o ++ d) (⟨c, []⟩ :: st) r1 r2 r3 (top st)
      exact ⟨t, e6.trans ((Rch.one e1 rfl (body p' o st pend o1 e1 e2 e3 h4 e4 e5)).trans t1), t2⟩
    | inl r =>
      obtain ⟨d2, g1, g2, g3, g4, g5, g6, g7, g8, g9⟩ := h3
      have c1' : N1 = N ++ d := c1
      have c4' : nd1 = nd + d.length := c4
      have c6' : i < i1 := c6
      refine ⟨d ++ d2 ++ [⟨c, [], []⟩], by show r.2.2 ++ [_] = _; rw [g1, c1']; simp, tr_two c2 g2 (by show arN c = 2; unfold arN; rw [if_neg (by omega), if_pos ⟨hc1, hc2⟩]), fun y hy => ?_, by show r.2.1 = _; rw [g4, c4']; simp; omega, g5, by show i < r.1; omega, g7, g8, fun p o st h1 h2 h3' h4 => ?_⟩
      · rcases List.mem_append.1 hy with hy | hy
        · rcases List.mem_append.1 hy with hy | hy
          · exact c3 y hy
          · exact g3 y hy
        · rw [List.mem_singleton] at hy; subst hy
          exact ⟨⟨by show 1 ≤ c; omega, by show c ≤ 9; omega⟩, fun _ => ⟨rfl, rfl⟩, fun e => by exfalso; have e' : c = 2 ∨ c = 3 ∨ c = 4 ∨ c = 9 := e; omega, fun e => by exfalso; have e' : c = 5 := e; omega⟩
      obtain ⟨p', o1, pend, e1, e2, e3, e4, e5, e6⟩ := c9 p o st h1 h2 h3' h4
      obtain ⟨r1, r2, r3, _⟩ := rp p' e1 e2 e3
      obtain ⟨p3, o3, pend3, f1, f2, f3, f4, f5, f6⟩ := g9 (mkP T A p') (o ++ d) (⟨c, []⟩ :: st) r1 r2 r3 (top st)
      refine ⟨p3, o3, pend3 ++ [⟨c, []⟩], f1, f2, f3, ?_, fun x hx => ?_, ?_⟩
      · rw [List.map_append, ← List.append_assoc, f4]
        simp [ndE]
      · rcases List.mem_append.1 hx with hx | hx
        · have := f5 x hx; omega
        · rw [List.mem_singleton] at hx; subst hx; show s ≤ stg c; omega
      · rw [show pend3 ++ [⟨c, []⟩] ++ st = pend3 ++ (⟨c, []⟩ :: st) by simp]
        exact e6.trans ((Rch.one e1 rfl (body p' o st pend o1 e1 e2 e3 h4 e4 e5)).trans f6)

/-- Within parentheses: e is what stands open meanwhile; y what is written behind. -/
theorem pc_in {i nd : Nat} {N : List Nd} {σ2 σ3 : (Nat × Nat × List Nd) ⊕ (Int × Int)} {e : Ent} (P : Pr → Pr) (E : Pr → Ent)
    (hb : ∀ (p : Pr) o st, p.er = 0 → p.i = i → p.nd = nd → bodyM T A ⟨p, o, st, true, false⟩ = ⟨P p, o, E p :: st, true, false⟩ ∧ RP T A (P p) σ2 ∧ (∀ s', σ2 = .inl s' → E p = e))
    (hs : ∀ s', σ2 = .inl s' → i < s'.1 ∧ s'.2.1 = nd + (if e.k = 9 then 1 else 0) ∧ s'.2.2 = N) (hek : e.k = 0 ∨ e.k = 9)
    (hee : ∀ s', σ2 = .inl s' → e.k = 9 → txL e.l)
    (he : ∀ x, σ2 = .inr x → σ3 = .inr x)
    (hk : ∀ i2 nd2 N2, σ2 = .inl (i2, nd2, N2) → PC T A 1 1 i2 nd2 N2 σ3) :
    PC T A 3 4 i nd N (if e.k = 9 then emP ⟨9, e.l, []⟩ (tkP T A 12 σ3) else tkP T A 12 σ3) := by
  have se : stg e.k = 0 := by rcases hek with h | h <;> rw [h] <;> rfl
  cases h2 : σ2 with
  | inr x =>
    rw [he x h2]
    have goal : PC T A 3 4 i nd N (.inr x) := by
      refine ⟨by have := (hb ⟨0, 0, i, nd, []⟩ [] [] rfl rfl rfl).2.1; rw [h2] at this; exact this.1, fun p o st h1 h2' h3 h4 => ?_⟩
      obtain ⟨k1, k2, _⟩ := hb p o st h1 h2' h3
      rw [h2] at k2
      obtain ⟨t, t1, t2⟩ := end_err (T := T) (A := A) ⟨P p, o, E p :: st, true, false⟩ k2 rfl
      exact ⟨t, (Rch.one h1 rfl k1).trans t1, t2⟩
    split
    · exact goal
    · exact goal
  | inl s2 =>
    obtain ⟨i2, nd2, N2⟩ := s2
    obtain ⟨a1, a2, a3⟩ := hs _ h2
    have a1' : i < i2 := a1
    have a2' : nd2 = nd + (if e.k = 9 then 1 else 0) := a2
    have a3' : N2 = N := a3
    have h3 := hk i2 nd2 N2 h2
    have start : ∀ (p : Pr) o st, p.er = 0 → p.i = i → p.nd = nd → (P p).er = 0 ∧ (P p).i = i2 ∧ (P p).nd = nd2 ∧ Rch T A ⟨p, o, st, true, false⟩ ⟨P p, o, e :: st, true, false⟩ := by
      intro p o st h1 h2' h3
      obtain ⟨k1, k2, k3⟩ := hb p o st h1 h2' h3
      rw [h2] at k2
      rw [k3 _ h2] at k1
      exact ⟨k2.1, k2.2.1, k2.2.2.1, Rch.one h1 rfl k1⟩
    have top : ∀ st : List Ent, topS (e :: st) < 1 := fun st => by show stg e.k < 1; omega
    cases σ3 with
    | inr x =>
      have goal : PC T A 3 4 i nd N (.inr x) := by
        refine ⟨h3.1, fun p o st h1 h2' h3' h4 => ?_⟩
        obtain ⟨b1, b2, b3, b4⟩ := start p o st h1 h2' h3'
        obtain ⟨t, t1, t2⟩ := h3.2 (P p) o (e :: st) b1 b2 b3 (top st)
        exact ⟨t, b4.trans t1, t2⟩
      split
      · exact goal
      · exact goal
    | inl r =>
      obtain ⟨i3, nd3, N3⟩ := r
      obtain ⟨d, g1, g2, g3, g4, g5, g6, g7, g8, g9⟩ := h3
      have g1' : N3 = N2 ++ d := g1
      have g4' : nd3 = nd2 + d.length := g4
      have g6' : i2 < i3 := g6
      have g7' : (T i3).c ≠ 0 := g7
      have g8' : stopC 1 (T i3).c := g8
      obtain ⟨s1, s2', s3⟩ := g8'
      have s1' := s1 (by omega)
      have s2'' := s2' (by omega)
      have s3' := s3 (by omega)
      have body : ∀ (p : Pr) o1 pend st o, p.er = 0 → p.i = i3 → o1 ++ pend.map ndE = o ++ d → (∀ x, x ∈ pend → 1 ≤ stg x.k) → bodyM T A ⟨p, o1, pend ++ e :: st, false, false⟩ = if (T i3).c = 12 then ⟨{ p with i := p.i + 1 }, if e.k = 9 then (o ++ d) ++ [⟨9, e.l, []⟩] else o ++ d, st, false, false⟩ else ⟨failP T A p 3, o ++ d, e :: st, false, false⟩ := by
        intro p o1 pend st o h1 h2' h3 h4
        have hd := drn_all (least := 1) (top st) pend o1 h4
        rw [h3] at hd
        unfold bodyM
        simp only [h2']
        rw [if_neg (by simp), if_neg s1', if_neg (by omega), hd]
      by_cases h12 : (T i3).c = 12
      · have hx : tkP T A 12 (.inl (i3, nd3, N3)) = nrm T A (i3 + 1) nd3 N3 := by
          show (if (T i3).c = 12 then (if 1 ≤ 12 ∧ 12 ≤ 9 then _ else nrm T A (i3 + 1) nd3 N3) else _) = _
          rw [if_pos h12, if_neg (by omega)]
        rw [hx]
        by_cases h0 : (T (i3 + 1)).c = 0
        · have hz : nrm T A (i3 + 1) nd3 N3 = .inr (2, (A (i3 + 1) : Int)) := by unfold nrm; rw [if_pos h0]
          rw [hz]
          have goal : PC T A 3 4 i nd N (.inr (2, (A (i3 + 1) : Int))) := by
            refine ⟨by show (2 : Int) ≠ 0; omega, fun p o st h1 h2' h3' h4 => ?_⟩
            obtain ⟨b1, b2, b3, b4⟩ := start p o st h1 h2' h3'
            obtain ⟨p', o1, pend, e1, e2, e3, e4, e5, e6⟩ := g9 (P p) o (e :: st) b1 b2 b3 (top st)
            have bd := body p' o1 pend st o e1 e2 e4 e5
            rw [if_pos h12] at bd
            have e2' : p'.i = i3 := e2
            obtain ⟨t, t1, t2⟩ := end_err (T := T) (A := A) (x := (2, (A (i3 + 1) : Int))) ⟨{ p' with i := p'.i + 1 }, if e.k = 9 then (o ++ d) ++ [⟨9, e.l, []⟩] else o ++ d, st, false, false⟩ ⟨by show (2 : Int) ≠ 0; omega, Or.inr ⟨e1, by show (T (p'.i + 1)).c = 0; rw [e2']; exact h0, rfl, by show _ = (A (p'.i + 1) : Int); rw [e2']⟩⟩ rfl
            exact ⟨t, b4.trans (e6.trans ((Rch.one e1 rfl bd).trans t1)), t2⟩
          split
          · exact goal
          · exact goal
        · have hz : nrm T A (i3 + 1) nd3 N3 = .inl (i3 + 1, nd3, N3) := by unfold nrm; rw [if_neg h0]
          rw [hz]
          have run : ∀ (p : Pr) o st, p.er = 0 → p.i = i → p.nd = nd → topS st < 3 → ∃ (p' : Pr) (o1 : List Nd) (pend : List Ent), p'.er = 0 ∧ p'.i = i3 + 1 ∧ p'.nd = nd3 ∧ o1 ++ pend.map ndE = (if e.k = 9 then o ++ d ++ [⟨9, e.l, []⟩] else o ++ d) ∧ (∀ x, x ∈ pend → 3 ≤ stg x.k) ∧
              Rch T A ⟨p, o, st, true, false⟩ ⟨p', o1, pend ++ st, false, false⟩ := by
            intro p o st h1 h2' h3' h4
            obtain ⟨b1, b2, b3, b4⟩ := start p o st h1 h2' h3'
            obtain ⟨p', o1, pend, e1, e2, e3, e4, e5, e6⟩ := g9 (P p) o (e :: st) b1 b2 b3 (top st)
            have bd := body p' o1 pend st o e1 e2 e4 e5
            rw [if_pos h12] at bd
            exact ⟨{ p' with i := p'.i + 1 }, if e.k = 9 then (o ++ d) ++ [⟨9, e.l, []⟩] else o ++ d, [], e1, by show p'.i + 1 = i3 + 1; rw [show p'.i = i3 from e2], e3, by simp, (fun x hx => absurd hx List.not_mem_nil), b4.trans (e6.trans (Rch.one e1 rfl bd))⟩
          split
          · rename_i h9
            rw [if_pos h9] at a2'
            refine ⟨d ++ [⟨9, e.l, []⟩], by show N3 ++ [_] = _; rw [g1', a3']; simp, tr_one g2 rfl, fun y hy => ?_, by show nd3 = _; rw [g4', a2']; simp; omega, g5, by show i < i3 + 1; omega, h0, ⟨fun e => absurd e (by omega), fun e => absurd e (by omega), fun e => absurd e (by omega)⟩, fun p o st h1 h2' h3' h4 => ?_⟩
            · rcases List.mem_append.1 hy with hy | hy
              · exact g3 y hy
              · rw [List.mem_singleton] at hy; subst hy
                exact ⟨⟨by show 1 ≤ 9; omega, by show 9 ≤ 9; omega⟩, fun e => by exfalso; have e' : 9 = 1 ∨ 9 = 6 ∨ 9 = 7 ∨ 9 = 8 := e; omega, fun _ => ⟨hee _ h2 h9, rfl⟩, fun e => by exfalso; have e' : 9 = 5 := e; omega⟩
            · obtain ⟨p', o1, pend, q1, q2, q3, q4, q5, q6⟩ := run p o st h1 h2' h3' h4
              rw [if_pos h9, List.append_assoc] at q4
              exact ⟨p', o1, pend, q1, q2, q3, q4, q5, q6⟩
          · rename_i h9
            rw [if_neg h9] at a2'
            refine ⟨d, by show N3 = _; rw [g1', a3'], g2, g3, by show nd3 = _; rw [g4', a2']; omega, g5, by show i < i3 + 1; omega, h0, ⟨fun e => absurd e (by omega), fun e => absurd e (by omega), fun e => absurd e (by omega)⟩, fun p o st h1 h2' h3' h4 => ?_⟩
            obtain ⟨p', o1, pend, q1, q2, q3, q4, q5, q6⟩ := run p o st h1 h2' h3' h4
            rw [if_neg h9] at q4
            exact ⟨p', o1, pend, q1, q2, q3, q4, q5, q6⟩
      · have hx : tkP T A 12 (.inl (i3, nd3, N3)) = .inr (3, (A i3 : Int)) := by
          show (if (T i3).c = 12 then _ else _) = _
          rw [if_neg h12]
        rw [hx]
        have goal : PC T A 3 4 i nd N (.inr (3, (A i3 : Int))) := by
          refine ⟨by show (3 : Int) ≠ 0; omega, fun p o st h1 h2' h3' h4 => ?_⟩
          obtain ⟨b1, b2, b3, b4⟩ := start p o st h1 h2' h3'
          obtain ⟨p', o1, pend, e1, e2, e3, e4, e5, e6⟩ := g9 (P p) o (e :: st) b1 b2 b3 (top st)
          have bd := body p' o1 pend st o e1 e2 e4 e5
          rw [if_neg h12] at bd
          have rf := rp_fail (T := T) (A := A) (p := p') (N := []) (e := 3) ⟨e1, e2, e3, g7'⟩ (by omega)
          obtain ⟨t, t1, t2⟩ := end_err (T := T) (A := A) ⟨failP T A p' 3, o ++ d, e :: st, false, false⟩ rf rfl
          exact ⟨t, b4.trans (e6.trans ((Rch.one e1 rfl bd).trans t1)), t2⟩
        split
        · exact goal
        · exact goal
end
end Go.Proofs.Ytocmbnocdjnfpaa
