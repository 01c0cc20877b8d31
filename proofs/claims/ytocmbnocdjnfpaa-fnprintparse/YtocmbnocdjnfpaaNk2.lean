import Derived.Test.YtocmbnocdjnfpaaNk1
import Derived.Test.YtocmbnocdjnfpaaPpB
import Derived.Test.YtocmbnocdjnfpaaBldL
import Derived.Shelf.Strings.Builder1
import Derived.Maps.AppendAt
import Derived.Test.YtocmbnocdjnfpaaPnT
namespace Go.Proofs.Ytocmbnocdjnfpaa

def arN (k : Nat) : Nat := if k ≤ 2 then 0 else if 6 ≤ k ∧ k ≤ 8 then 2 else 1
/-- How many stand open behind these nodes, s having stood open ahead of them. -/
def runD : List Nd → Nat → Option Nat
  | [], s => some s
  | x :: l, s => if arN x.k ≤ s then runD l (s - arN x.k + 1) else none
theorem runD_app : ∀ (a b : List Nd) (s : Nat), runD (a ++ b) s = (runD a s).bind (runD b)
  | [], b, s => rfl
  | x :: a, b, s => by
    show (if arN x.k ≤ s then runD (a ++ b) (s - arN x.k + 1) else none) = (if arN x.k ≤ s then runD a (s - arN x.k + 1) else none).bind (runD b)
    split
    · exact runD_app a b _
    · rfl
/-- The nodes are one tree. -/
def Tr (d : List Nd) : Prop := ∀ s, runD d s = some (s + 1)
theorem tr_leaf {x : Nd} (h : arN x.k = 0) : Tr [x] := fun s => by
  show (if arN x.k ≤ s then some (s - arN x.k + 1) else none) = _
  rw [h, if_pos (Nat.zero_le _)]; rfl
theorem tr_one {d : List Nd} {x : Nd} (hd : Tr d) (h : arN x.k = 1) : Tr (d ++ [x]) := fun s => by
  rw [runD_app, hd s]
  show (if arN x.k ≤ s + 1 then some (s + 1 - arN x.k + 1) else none) = _
  rw [h, if_pos (by omega)]; rfl
theorem tr_two {d e : List Nd} {x : Nd} (hd : Tr d) (he : Tr e) (h : arN x.k = 2) : Tr (d ++ e ++ [x]) := fun s => by
  rw [runD_app, runD_app, hd s]
  show ((runD e (s + 1))).bind (runD [x]) = _
  rw [he (s + 1)]
  show (if arN x.k ≤ s + 1 + 1 then some (s + 1 + 1 - arN x.k + 1) else none) = _
  rw [h, if_pos (by omega)]
  show some (s + 1 + 1 - 2 + 1) = _
  rw [show s + 1 + 1 - 2 + 1 = s + 1 by omega]

def txL (q : List Int) : Prop := 1 ≤ q.length ∧ q.length ≤ 30 ∧ ∀ x, x ∈ q → 0 ≤ x ∧ x < 256
/-- The node is good. -/
def gdN (x : Nd) : Prop :=
  (1 ≤ x.k ∧ x.k ≤ 9) ∧ (x.k = 1 ∨ x.k = 6 ∨ x.k = 7 ∨ x.k = 8 → x.s = [] ∧ x.t = []) ∧ (x.k = 2 ∨ x.k = 3 ∨ x.k = 4 ∨ x.k = 9 → txL x.s ∧ x.t = []) ∧ (x.k = 5 → txL x.s ∧ txL x.t)

def topS : List Ent → Nat
  | [] => 0
  | x :: _ => stg x.k
def ndE (x : Ent) : Nd := ⟨x.k, [], []⟩
theorem drn_all {least : Nat} {st : List Ent} (ht : topS st < least) : ∀ (pend : List Ent) (o : List Nd), (∀ x, x ∈ pend → least ≤ stg x.k) → drn least (pend ++ st) o = (st, o ++ pend.map ndE)
  | [], o, _ => by
    cases st with
    | nil => show ([], o) = _; simp
    | cons x st =>
      show (if least ≤ stg x.k then _ else (x :: st, o)) = _
      rw [if_neg (by have : stg x.k < least := ht; omega)]; simp
  | x :: pend, o, h => by
    show (if least ≤ stg x.k then drn least (pend ++ st) (o ++ [⟨x.k, [], []⟩]) else _) = _
    rw [if_pos (h x (List.mem_cons_self ..)), drn_all ht pend _ (fun y hy => h y (List.mem_cons_of_mem _ hy))]
    simp [ndE]

def stopC (u c : Nat) : Prop := (u ≤ 3 → c ≠ 10) ∧ (u ≤ 2 → c ≠ 6) ∧ (u ≤ 1 → c ≠ 7 ∧ c ≠ 8)

section
variable (T : Nat → Tok) (A : Nat → Nat)
/-- What the reader has made from (i, nd, N) on, wanting an operand, the machine makes too: all that waits on top is at least s strong; the next token doesn't go on at the level u. -/
def PC (s u i nd : Nat) (N : List Nd) : (Nat × Nat × List Nd) ⊕ (Int × Int) → Prop
  | .inr x => x.1 ≠ 0 ∧ ∀ (p : Pr) o st, p.er = 0 → p.i = i → p.nd = nd → topS st < s → ∃ t, Rch T A ⟨p, o, st, true, false⟩ t ∧ t.p.er = x.1 ∧ t.p.at_ = x.2
  | .inl r => ∃ d, r.2.2 = N ++ d ∧ Tr d ∧ (∀ x, x ∈ d → gdN x) ∧ r.2.1 = nd + d.length ∧ r.2.1 ≤ 100 ∧ i < r.1 ∧ (T r.1).c ≠ 0 ∧ stopC u (T r.1).c ∧
      ∀ (p : Pr) o st, p.er = 0 → p.i = i → p.nd = nd → topS st < s → ∃ (p' : Pr) (o1 : List Nd) (pend : List Ent), p'.er = 0 ∧ p'.i = r.1 ∧ p'.nd = r.2.1 ∧ o1 ++ pend.map ndE = o ++ d ∧ (∀ x, x ∈ pend → s ≤ stg x.k) ∧
        Rch T A ⟨p, o, st, true, false⟩ ⟨p', o1, pend ++ st, false, false⟩
variable {T A}

theorem PC.up {s s' u i nd : Nat} {N : List Nd} {σ : (Nat × Nat × List Nd) ⊕ (Int × Int)} (h : PC T A s u i nd N σ) (hs : s' ≤ s) : PC T A s' u i nd N σ := by
  cases σ with
  | inr x => exact ⟨h.1, fun p o st h1 h2 h3 h4 => h.2 p o st h1 h2 h3 (by omega)⟩
  | inl r =>
    obtain ⟨d, h1, h2, h3, h4, h5, h6, h7, h8, h9⟩ := h
    refine ⟨d, h1, h2, h3, h4, h5, h6, h7, h8, fun p o st k1 k2 k3 k4 => ?_⟩
    obtain ⟨p', o1, pend, e1, e2, e3, e4, e5, e6⟩ := h9 p o st k1 k2 k3 (by omega)
    exact ⟨p', o1, pend, e1, e2, e3, e4, fun x hx => by have := e5 x hx; omega, e6⟩
theorem PC.stop {s u u' i nd : Nat} {N : List Nd} {r : Nat × Nat × List Nd} (h : PC T A s u i nd N (.inl r)) (hs : stopC u' (T r.1).c) : PC T A s u' i nd N (.inl r) := by
  obtain ⟨d, h1, h2, h3, h4, h5, h6, h7, h8, h9⟩ := h
  exact ⟨d, h1, h2, h3, h4, h5, h6, h7, hs, h9⟩
theorem PC.err {s s' u u' i nd : Nat} {N : List Nd} {x : Int × Int} (h : PC T A s u i nd N (.inr x)) (hs : s' ≤ s) : PC T A s' u' i nd N (.inr x) :=
  ⟨h.1, fun p o st h1 h2 h3 h4 => h.2 p o st h1 h2 h3 (by omega)⟩

theorem body_lex (s : Mc) (h0 : s.p.er = 0) (hc : (T s.p.i).c = 0) : (bodyM T A s).p.er = 2 ∧ (bodyM T A s).p.at_ = (A s.p.i : Int) := by
  have hf : (failP T A s.p 3).er = 2 ∧ (failP T A s.p 3).at_ = (A s.p.i : Int) := by
    unfold failP
    rw [if_neg (by rw [h0]; simp)]
    constructor
    · show (if (T s.p.i).c = 0 then (2 : Int) else 3) = 2
      rw [if_pos hc]
    · rfl
  have e : ∀ k, k ≠ 0 → (T s.p.i).c ≠ k := fun k hk e => hk (e.symm.trans hc)
  unfold bodyM
  by_cases hw : s.wt = true
  · simp only [hw, if_true, if_neg (e 1 (by omega)), if_neg (e 2 (by omega)), if_neg (e 9 (by omega)), if_neg (e 11 (by omega))]
    exact hf
  · simp only [hw, if_neg (e 10 (by omega))]
    rw [if_neg (by simp), if_neg (by rw [hc]; omega)]
    cases h : drn 1 s.st s.o with
    | mk a b =>
      cases a with
      | nil => simp only [if_neg (e 15 (by omega))]; exact hf
      | cons x st => simp only [if_neg (e 12 (by omega))]; exact hf

/-- An error that stands, or the next token is none. -/
theorem end_err (s : Mc) {x : Int × Int} (h : RP T A s.p (.inr x)) (hf : s.fin = false) : ∃ t, Rch T A s t ∧ t.p.er = x.1 ∧ t.p.at_ = x.2 := by
  obtain ⟨h0, h⟩ := h
  rcases h with ⟨h1, h2⟩ | ⟨h1, h2, h3, h4⟩
  · exact ⟨s, Rch.refl T A s, h1, h2⟩
  · have := body_lex (A := A) s h1 h2
    exact ⟨bodyM T A s, Rch.one h1 hf rfl, by rw [this.1, h3], by rw [this.2, h4]⟩

theorem nrm_inv {i nd : Nat} {N : List Nd} {s' : Nat × Nat × List Nd} (h : nrm T A i nd N = .inl s') : s' = (i, nd, N) ∧ (T i).c ≠ 0 := by
  unfold nrm at h
  split at h
  · cases h
  · rename_i h1; cases h; exact ⟨rfl, h1⟩
theorem tk_inv {c : Nat} {σ : (Nat × Nat × List Nd) ⊕ (Int × Int)} {s' : Nat × Nat × List Nd} (h : tkP T A c σ = .inl s') :
    ∃ i nd N, σ = .inl (i, nd, N) ∧ (T i).c = c ∧ s' = (i + 1, nd + (if 1 ≤ c ∧ c ≤ 9 then 1 else 0), N) ∧ (1 ≤ c ∧ c ≤ 9 → nd ≠ 100) ∧ (T (i + 1)).c ≠ 0 := by
  cases σ with
  | inr x => cases h
  | inl s =>
    obtain ⟨i, nd, N⟩ := s
    have h' : (if (T i).c = c then (if 1 ≤ c ∧ c ≤ 9 then (if nd = 100 then (Sum.inr (4, (A i : Int)) : (Nat × Nat × List Nd) ⊕ (Int × Int)) else nrm T A (i + 1) (nd + 1) N) else nrm T A (i + 1) nd N) else .inr (3, (A i : Int))) = .inl s' := h
    refine ⟨i, nd, N, rfl, ?_⟩
    split at h'
    · rename_i h1
      split at h'
      · rename_i h2
        split at h'
        · cases h'
        · rename_i h3
          have := nrm_inv h'
          exact ⟨h1, by rw [if_pos h2]; exact this.1, fun _ => h3, this.2⟩
      · rename_i h2
        have := nrm_inv h'
        exact ⟨h1, by rw [if_neg h2]; exact this.1, fun e => absurd e h2, this.2⟩
    · cases h'

/-- A leaf: one step of the machine. -/
theorem pc_leaf {i nd : Nat} {N : List Nd} {σ : (Nat × Nat × List Nd) ⊕ (Int × Int)} {x : Nd} (P : Pr → Pr) (X : Pr → Nd)
    (hb : ∀ (p : Pr) o st, p.er = 0 → p.i = i → p.nd = nd → bodyM T A ⟨p, o, st, true, false⟩ = ⟨P p, o ++ [X p], st, false, false⟩ ∧ RP T A (P p) σ ∧ (∀ s', σ = .inl s' → X p = x))
    (hs : ∀ s', σ = .inl s' → i < s'.1 ∧ s'.2.1 = nd + 1 ∧ s'.2.1 ≤ 100 ∧ s'.2.2 = N ∧ (T s'.1).c ≠ 0 ∧ gdN x ∧ arN x.k = 0) : PC T A 3 4 i nd N (emP x σ) := by
  cases σ with
  | inr y =>
    have h0 : y.1 ≠ 0 := (hb ⟨0, 0, i, nd, []⟩ [] [] rfl rfl rfl).2.1.1
    refine ⟨h0, fun p o st h1 h2 h3 _ => ?_⟩
    obtain ⟨k1, k2, _⟩ := hb p o st h1 h2 h3
    obtain ⟨t, t1, t2⟩ := end_err (T := T) (A := A) ⟨P p, o ++ [X p], st, false, false⟩ k2 rfl
    exact ⟨t, (Rch.one h1 rfl k1).trans t1, t2⟩
  | inl s' =>
    obtain ⟨a1, a2, a3, a4, a5, a6, a7⟩ := hs s' rfl
    refine ⟨[x], by show s'.2.2 ++ [x] = _; rw [a4], tr_leaf a7, fun y hy => by rw [List.mem_singleton] at hy; subst hy; exact a6, a2, a3, a1, a5, ⟨fun e => absurd e (by omega), fun e => absurd e (by omega), fun e => absurd e (by omega)⟩, fun p o st h1 h2 h3 _ => ?_⟩
    obtain ⟨k1, k2, k3⟩ := hb p o st h1 h2 h3
    obtain ⟨r1, r2, r3, _⟩ := k2
    refine ⟨P p, o ++ [X p], [], r1, r2, r3, by rw [k3 s' rfl]; simp, (fun y hy => absurd hy List.not_mem_nil), Rch.one h1 rfl k1⟩

/-- A step behind a point: one step of the machine. -/
theorem pc_step {i nd i1 nd1 : Nat} {N N1 : List Nd} {σ : (Nat × Nat × List Nd) ⊕ (Int × Int)} {x : Nd} (h : PC T A 3 4 i nd N (.inl (i1, nd1, N1))) (P : Pr → Pr) (X : Pr → Nd)
    (hb : ∀ (p : Pr) o st, p.er = 0 → p.i = i1 → p.nd = nd1 → bodyM T A ⟨p, o, st, false, false⟩ = ⟨P p, o ++ [X p], st, false, false⟩ ∧ RP T A (P p) σ ∧ (∀ s', σ = .inl s' → X p = x))
    (hs : ∀ s', σ = .inl s' → i1 < s'.1 ∧ s'.2.1 = nd1 + 1 ∧ s'.2.1 ≤ 100 ∧ s'.2.2 = N1 ∧ (T s'.1).c ≠ 0 ∧ gdN x ∧ arN x.k = 1) : PC T A 3 4 i nd N (emP x σ) := by
  obtain ⟨d, c1, c2, c3, c4, c5, c6, c7, c8, c9⟩ := h
  have nil3 : ∀ (pend : List Ent), (∀ x, x ∈ pend → 3 ≤ stg x.k) → pend = [] := by
    intro pend hp
    cases pend with
    | nil => rfl
    | cons y l =>
      have := hp y (List.mem_cons_self ..)
      unfold stg at this
      split at this
      · omega
      · split at this <;> omega
  cases σ with
  | inr y =>
    have h0 : y.1 ≠ 0 := (hb ⟨0, 0, i1, nd1, []⟩ [] [] rfl rfl rfl).2.1.1
    refine ⟨h0, fun p o st h1 h2 h3 h4 => ?_⟩
    obtain ⟨p', o1, pend, e1, e2, e3, e4, e5, e6⟩ := c9 p o st h1 h2 h3 h4
    have := nil3 pend e5
    subst this
    obtain ⟨k1, k2, _⟩ := hb p' o1 st e1 e2 e3
    obtain ⟨t, t1, t2⟩ := end_err (T := T) (A := A) ⟨P p', o1 ++ [X p'], st, false, false⟩ k2 rfl
    exact ⟨t, e6.trans ((Rch.one e1 rfl k1).trans t1), t2⟩
  | inl s' =>
    obtain ⟨a1, a2, a3, a4, a5, a6, a7⟩ := hs s' rfl
    have c1' : N1 = N ++ d := c1
    have c4' : nd1 = nd + d.length := c4
    have c6' : i < i1 := c6
    refine ⟨d ++ [x], by show s'.2.2 ++ [x] = _; rw [a4, c1']; simp, tr_one c2 a7, fun y hy => ?_, by show s'.2.1 = _; rw [a2, c4']; simp; omega, a3, by show i < s'.1; omega, a5, ⟨fun e => absurd e (by omega), fun e => absurd e (by omega), fun e => absurd e (by omega)⟩, fun p o st h1 h2 h3 h4 => ?_⟩
    · rcases List.mem_append.1 hy with hy | hy
      · exact c3 y hy
      · rw [List.mem_singleton] at hy; subst hy; exact a6
    obtain ⟨p', o1, pend, e1, e2, e3, e4, e5, e6⟩ := c9 p o st h1 h2 h3 h4
    have := nil3 pend e5
    subst this
    obtain ⟨k1, k2, k3⟩ := hb p' o1 st e1 e2 e3
    obtain ⟨r1, r2, r3, _⟩ := k2
    have e4' : o1 = o ++ d := by simpa using e4
    refine ⟨P p', o1 ++ [X p'], [], r1, r2, r3, by rw [k3 s' rfl, e4']; simp, (fun y hy => absurd hy List.not_mem_nil), e6.trans (Rch.one e1 rfl k1)⟩

/-- An operator between two operands. -/
theorem pc_two {s c i nd i1 nd1 : Nat} {N N1 : List Nd} {σ3 : (Nat × Nat × List Nd) ⊕ (Int × Int)} (h : PC T A s (s + 1) i nd N (.inl (i1, nd1, N1))) (hc : (T i1).c = c) (hc1 : 6 ≤ c) (hc2 : c ≤ 8) (hsc : stg c = s)
    (he : ∀ x, tkP T A c (.inl (i1, nd1, N1)) = .inr x → σ3 = .inr x)
    (hk : ∀ i2 nd2 N2, tkP T A c (.inl (i1, nd1, N1)) = .inl (i2, nd2, N2) → PC T A (s + 1) (s + 1) i2 nd2 N2 σ3) : PC T A s (s + 1) i nd N (emP ⟨c, [], []⟩ σ3) := by
  obtain ⟨d, c1, c2, c3, c4, c5, c6, c7, c8, c9⟩ := h
  have body : ∀ (p : Pr) o st pend o1, p.er = 0 → p.i = i1 → p.nd = nd1 → topS st < s → o1 ++ pend.map ndE = o ++ d → (∀ x, x ∈ pend → s ≤ stg x.k) → bodyM T A ⟨p, o1, pend ++ st, false, false⟩ = ⟨mkP T A p, o ++ d, ⟨c, []⟩ :: st, true, false⟩ := by
    intro p o st pend o1 h1 h2 h3 h4 h5 h6
    have hd := drn_all (least := s) h4 pend o1 h6
    rw [h5] at hd
    unfold bodyM
    simp only [h2, hc]
    rw [if_neg (by simp), if_neg (by omega), if_pos ⟨hc1, hc2⟩, hsc, hd]
  cases ht : tkP T A c (.inl (i1, nd1, N1)) with
  | inr x =>
    rw [he x ht]
    have rp : ∀ p : Pr, p.er = 0 → p.i = i1 → p.nd = nd1 → RP T A (mkP T A p) (.inr x) := fun p h1 h2 h3 => by
      rw [← ht]; exact rp_mk ⟨h1, h2, h3, c7⟩ hc (by omega) (by omega)
    refine ⟨(rp ⟨0, 0, i1, nd1, []⟩ rfl rfl rfl).1, fun p o st h1 h2 h3 h4 => ?_⟩
    obtain ⟨p', o1, pend, e1, e2, e3, e4, e5, e6⟩ := c9 p o st h1 h2 h3 h4
    obtain ⟨t, t1, t2⟩ := end_err (T := T) (A := A) ⟨mkP T A p', o ++ d, ⟨c, []⟩ :: st, true, false⟩ (rp p' e1 e2 e3) rfl
    exact ⟨t, e6.trans ((Rch.one e1 rfl (body p' o st pend o1 e1 e2 e3 h4 e4 e5)).trans t1), t2⟩
  | inl s2 =>
    obtain ⟨i2, nd2, N2⟩ := s2
    have h3 := hk i2 nd2 N2 ht
    have rp : ∀ p : Pr, p.er = 0 → p.i = i1 → p.nd = nd1 → RP T A (mkP T A p) (.inl (i2, nd2, N2)) := fun p h1 h2 h3 => by
      rw [← ht]; exact rp_mk ⟨h1, h2, h3, c7⟩ hc (by omega) (by omega)
    obtain ⟨j1, j2, j3, w1, w2, w3, w4, w5⟩ := tk_inv ht
    cases w1
    rw [if_pos ⟨by omega, by omega⟩] at w3
    cases w3
    have top : ∀ st : List Ent, topS ((⟨c, []⟩ : Ent) :: st) < s + 1 := fun st => by show stg c < s + 1; omega
    cases σ3 with
    | inr x =>
      refine ⟨h3.1, fun p o st h1 h2 h3' h4 => ?_⟩
      obtain ⟨p', o1, pend, e1, e2, e3, e4, e5, e6⟩ := c9 p o st h1 h2 h3' h4
      obtain ⟨r1, r2, r3, _⟩ := rp p' e1 e2 e3
      obtain ⟨t, t1, t2⟩ := h3.2 (mkP T A p') (o ++ d) (⟨c, []⟩ :: st) r1 r2 r3 (top st)
      exact ⟨t, e6.trans ((Rch.one e1 rfl (body p' o st pend o1 e1 e2 e3 h4 e4 e5)).trans t1), t2⟩
    | inl r =>
      obtain ⟨d2, g1, g2, g3, g4, g5, g6, g7, g8, g9⟩ := h3
      have c1' : N1 = N ++ d := c1
      have c4' : nd1 = nd + d.length := c4
      have c6' : i < i1 := c6
      refine ⟨d ++ d2 ++ [⟨c, [], []⟩], by show r.2.2 ++ [_] = _; rw [g1, c1']; simp, tr_two c2 g2 (by show arN c = 2; unfold arN; rw [if_neg (by omega), if_pos ⟨hc1, hc2⟩]), fun y hy => ?_, by show r.2.1 = _; rw [g4, c4']; simp; omega, g5, by show i < r.1; omega, g7, g8, fun p o st h1 h2 h3' h4 => ?_⟩
      · rcases List.mem_append.1 hy with hy | hy
        · rcases List.mem_append.1 hy with hy | hy
          · exact c3 y hy
          · exact g3 y hy
        · rw [List.mem_singleton] at hy; subst hy
          exact ⟨⟨by show 1 ≤ c; omega, by show c ≤ 9; omega⟩, fun _ => ⟨rfl, rfl⟩, fun e => by exfalso; have e' : c = 2 ∨ c = 3 ∨ c = 4 ∨ c = 9 := e; omega, fun e => by exfalso; have e' : c = 5 := e; omega⟩
      obtain ⟨p', o1, pend, e1, e2, e3, e4, e5, e6⟩ := c9 p o st h1 h2 h3' h4
      obtain ⟨r1, r2, r3, _⟩ := rp p' e1 e2 e3
      obtain ⟨p3, o3, pend3, f1, f2, f3, f4, f5, f6⟩ := g9 (mkP T A p') (o ++ d) (⟨c, []⟩ :: st) r1 r2 r3 (top st)
      refine ⟨p3, o3, pend3 ++ [⟨c, []⟩], f1, f2, f3, ?_, fun x hx => ?_, ?_⟩
      · rw [List.map_append, ← List.append_assoc, f4]
        simp [ndE]
      · rcases List.mem_append.1 hx with hx | hx
        · have := f5 x hx; omega
        · rw [List.mem_singleton] at hx; subst hx; show s ≤ stg c; omega
      · rw [show pend3 ++ [⟨c, []⟩] ++ st = pend3 ++ (⟨c, []⟩ :: st) by simp]
        exact e6.trans ((Rch.one e1 rfl (body p' o st pend o1 e1 e2 e3 h4 e4 e5)).trans f6)

/-- Within parentheses: e is what stands open meanwhile; y what is written behind. -/
theorem pc_in {i nd : Nat} {N : List Nd} {σ2 σ3 : (Nat × Nat × List Nd) ⊕ (Int × Int)} {e : Ent} (P : Pr → Pr) (E : Pr → Ent)
    (hb : ∀ (p : Pr) o st, p.er = 0 → p.i = i → p.nd = nd → bodyM T A ⟨p, o, st, true, false⟩ = ⟨P p, o, E p :: st, true, false⟩ ∧ RP T A (P p) σ2 ∧ (∀ s', σ2 = .inl s' → E p = e))
    (hs : ∀ s', σ2 = .inl s' → i < s'.1 ∧ s'.2.1 = nd + (if e.k = 9 then 1 else 0) ∧ s'.2.2 = N) (hek : e.k = 0 ∨ e.k = 9)
    (hee : ∀ s', σ2 = .inl s' → e.k = 9 → txL e.l)
    (he : ∀ x, σ2 = .inr x → σ3 = .inr x)
    (hk : ∀ i2 nd2 N2, σ2 = .inl (i2, nd2, N2) → PC T A 1 1 i2 nd2 N2 σ3) :
    PC T A 3 4 i nd N (if e.k = 9 then emP ⟨9, e.l, []⟩ (tkP T A 12 σ3) else tkP T A 12 σ3) := by
  have se : stg e.k = 0 := by rcases hek with h | h <;> rw [h] <;> rfl
  cases h2 : σ2 with
  | inr x =>
    rw [he x h2]
    have goal : PC T A 3 4 i nd N (.inr x) := by
      refine ⟨by have := (hb ⟨0, 0, i, nd, []⟩ [] [] rfl rfl rfl).2.1; rw [h2] at this; exact this.1, fun p o st h1 h2' h3 h4 => ?_⟩
      obtain ⟨k1, k2, _⟩ := hb p o st h1 h2' h3
      rw [h2] at k2
      obtain ⟨t, t1, t2⟩ := end_err (T := T) (A := A) ⟨P p, o, E p :: st, true, false⟩ k2 rfl
      exact ⟨t, (Rch.one h1 rfl k1).trans t1, t2⟩
    split
    · exact goal
    · exact goal
  | inl s2 =>
    obtain ⟨i2, nd2, N2⟩ := s2
    obtain ⟨a1, a2, a3⟩ := hs _ h2
    have a1' : i < i2 := a1
    have a2' : nd2 = nd + (if e.k = 9 then 1 else 0) := a2
    have a3' : N2 = N := a3
    have h3 := hk i2 nd2 N2 h2
    have start : ∀ (p : Pr) o st, p.er = 0 → p.i = i → p.nd = nd → (P p).er = 0 ∧ (P p).i = i2 ∧ (P p).nd = nd2 ∧ Rch T A ⟨p, o, st, true, false⟩ ⟨P p, o, e :: st, true, false⟩ := by
      intro p o st h1 h2' h3
      obtain ⟨k1, k2, k3⟩ := hb p o st h1 h2' h3
      rw [h2] at k2
      rw [k3 _ h2] at k1
      exact ⟨k2.1, k2.2.1, k2.2.2.1, Rch.one h1 rfl k1⟩
    have top : ∀ st : List Ent, topS (e :: st) < 1 := fun st => by show stg e.k < 1; omega
    cases σ3 with
    | inr x =>
      have goal : PC T A 3 4 i nd N (.inr x) := by
        refine ⟨h3.1, fun p o st h1 h2' h3' h4 => ?_⟩
        obtain ⟨b1, b2, b3, b4⟩ := start p o st h1 h2' h3'
        obtain ⟨t, t1, t2⟩ := h3.2 (P p) o (e :: st) b1 b2 b3 (top st)
        exact ⟨t, b4.trans t1, t2⟩
      split
      · exact goal
      · exact goal
    | inl r =>
      obtain ⟨i3, nd3, N3⟩ := r
      obtain ⟨d, g1, g2, g3, g4, g5, g6, g7, g8, g9⟩ := h3
      have g1' : N3 = N2 ++ d := g1
      have g4' : nd3 = nd2 + d.length := g4
      have g6' : i2 < i3 := g6
      have g7' : (T i3).c ≠ 0 := g7
      have g8' : stopC 1 (T i3).c := g8
      obtain ⟨s1, s2', s3⟩ := g8'
      have s1' := s1 (by omega)
      have s2'' := s2' (by omega)
      have s3' := s3 (by omega)
      have body : ∀ (p : Pr) o1 pend st o, p.er = 0 → p.i = i3 → o1 ++ pend.map ndE = o ++ d → (∀ x, x ∈ pend → 1 ≤ stg x.k) → bodyM T A ⟨p, o1, pend ++ e :: st, false, false⟩ = if (T i3).c = 12 then ⟨{ p with i := p.i + 1 }, if e.k = 9 then (o ++ d) ++ [⟨9, e.l, []⟩] else o ++ d, st, false, false⟩ else ⟨failP T A p 3, o ++ d, e :: st, false, false⟩ := by
        intro p o1 pend st o h1 h2' h3 h4
        have hd := drn_all (least := 1) (top st) pend o1 h4
        rw [h3] at hd
        unfold bodyM
        simp only [h2']
        rw [if_neg (by simp), if_neg s1', if_neg (by omega), hd]
      by_cases h12 : (T i3).c = 12
      · have hx : tkP T A 12 (.inl (i3, nd3, N3)) = nrm T A (i3 + 1) nd3 N3 := by
          show (if (T i3).c = 12 then (if 1 ≤ 12 ∧ 12 ≤ 9 then _ else nrm T A (i3 + 1) nd3 N3) else _) = _
          rw [if_pos h12, if_neg (by omega)]
        rw [hx]
        by_cases h0 : (T (i3 + 1)).c = 0
        · have hz : nrm T A (i3 + 1) nd3 N3 = .inr (2, (A (i3 + 1) : Int)) := by unfold nrm; rw [if_pos h0]
          rw [hz]
          have goal : PC T A 3 4 i nd N (.inr (2, (A (i3 + 1) : Int))) := by
            refine ⟨by show (2 : Int) ≠ 0; omega, fun p o st h1 h2' h3' h4 => ?_⟩
            obtain ⟨b1, b2, b3, b4⟩ := start p o st h1 h2' h3'
            obtain ⟨p', o1, pend, e1, e2, e3, e4, e5, e6⟩ := g9 (P p) o (e :: st) b1 b2 b3 (top st)
            have bd := body p' o1 pend st o e1 e2 e4 e5
            rw [if_pos h12] at bd
            have e2' : p'.i = i3 := e2
            obtain ⟨t, t1, t2⟩ := end_err (T := T) (A := A) (x := (2, (A (i3 + 1) : Int))) ⟨{ p' with i := p'.i + 1 }, if e.k = 9 then (o ++ d) ++ [⟨9, e.l, []⟩] else o ++ d, st, false, false⟩ ⟨by show (2 : Int) ≠ 0; omega, Or.inr ⟨e1, by show (T (p'.i + 1)).c = 0; rw [e2']; exact h0, rfl, by show _ = (A (p'.i + 1) : Int); rw [e2']⟩⟩ rfl
            exact ⟨t, b4.trans (e6.trans ((Rch.one e1 rfl bd).trans t1)), t2⟩
          split
          · exact goal
          · exact goal
        · have hz : nrm T A (i3 + 1) nd3 N3 = .inl (i3 + 1, nd3, N3) := by unfold nrm; rw [if_neg h0]
          rw [hz]
          have run : ∀ (p : Pr) o st, p.er = 0 → p.i = i → p.nd = nd → topS st < 3 → ∃ (p' : Pr) (o1 : List Nd) (pend : List Ent), p'.er = 0 ∧ p'.i = i3 + 1 ∧ p'.nd = nd3 ∧ o1 ++ pend.map ndE = (if e.k = 9 then o ++ d ++ [⟨9, e.l, []⟩] else o ++ d) ∧ (∀ x, x ∈ pend → 3 ≤ stg x.k) ∧
              Rch T A ⟨p, o, st, true, false⟩ ⟨p', o1, pend ++ st, false, false⟩ := by
            intro p o st h1 h2' h3' h4
            obtain ⟨b1, b2, b3, b4⟩ := start p o st h1 h2' h3'
            obtain ⟨p', o1, pend, e1, e2, e3, e4, e5, e6⟩ := g9 (P p) o (e :: st) b1 b2 b3 (top st)
            have bd := body p' o1 pend st o e1 e2 e4 e5
            rw [if_pos h12] at bd
            exact ⟨{ p' with i := p'.i + 1 }, if e.k = 9 then (o ++ d) ++ [⟨9, e.l, []⟩] else o ++ d, [], e1, by show p'.i + 1 = i3 + 1; rw [show p'.i = i3 from e2], e3, by simp, (fun x hx => absurd hx List.not_mem_nil), b4.trans (e6.trans (Rch.one e1 rfl bd))⟩
          split
          · rename_i h9
            rw [if_pos h9] at a2'
            refine ⟨d ++ [⟨9, e.l, []⟩], by show N3 ++ [_] = _; rw [g1', a3']; simp, tr_one g2 rfl, fun y hy => ?_, by show nd3 = _; rw [g4', a2']; simp; omega, g5, by show i < i3 + 1; omega, h0, ⟨fun e => absurd e (by omega), fun e => absurd e (by omega), fun e => absurd e (by omega)⟩, fun p o st h1 h2' h3' h4 => ?_⟩
            · rcases List.mem_append.1 hy with hy | hy
              · exact g3 y hy
              · rw [List.mem_singleton] at hy; subst hy
                exact ⟨⟨by show 1 ≤ 9; omega, by show 9 ≤ 9; omega⟩, fun e => by exfalso; have e' : 9 = 1 ∨ 9 = 6 ∨ 9 = 7 ∨ 9 = 8 := e; omega, fun _ => ⟨hee _ h2 h9, rfl⟩, fun e => by exfalso; have e' : 9 = 5 := e; omega⟩
            · obtain ⟨p', o1, pend, q1, q2, q3, q4, q5, q6⟩ := run p o st h1 h2' h3' h4
              rw [if_pos h9, List.append_assoc] at q4
              exact ⟨p', o1, pend, q1, q2, q3, q4, q5, q6⟩
          · rename_i h9
            rw [if_neg h9] at a2'
            refine ⟨d, by show N3 = _; rw [g1', a3'], g2, g3, by show nd3 = _; rw [g4', a2']; omega, g5, by show i < i3 + 1; omega, h0, ⟨fun e => absurd e (by omega), fun e => absurd e (by omega), fun e => absurd e (by omega)⟩, fun p o st h1 h2' h3' h4 => ?_⟩
            obtain ⟨p', o1, pend, q1, q2, q3, q4, q5, q6⟩ := run p o st h1 h2' h3' h4
            rw [if_neg h9] at q4
            exact ⟨p', o1, pend, q1, q2, q3, q4, q5, q6⟩
      · have hx : tkP T A 12 (.inl (i3, nd3, N3)) = .inr (3, (A i3 : Int)) := by
          show (if (T i3).c = 12 then _ else _) = _
          rw [if_neg h12]
        rw [hx]
        have goal : PC T A 3 4 i nd N (.inr (3, (A i3 : Int))) := by
          refine ⟨by show (3 : Int) ≠ 0; omega, fun p o st h1 h2' h3' h4 => ?_⟩
          obtain ⟨b1, b2, b3, b4⟩ := start p o st h1 h2' h3'
          obtain ⟨p', o1, pend, e1, e2, e3, e4, e5, e6⟩ := g9 (P p) o (e :: st) b1 b2 b3 (top st)
          have bd := body p' o1 pend st o e1 e2 e4 e5
          rw [if_neg h12] at bd
          have rf := rp_fail (T := T) (A := A) (p := p') (N := []) (e := 3) ⟨e1, e2, e3, g7'⟩ (by omega)
          obtain ⟨t, t1, t2⟩ := end_err (T := T) (A := A) ⟨failP T A p' 3, o ++ d, e :: st, false, false⟩ rf rfl
          exact ⟨t, b4.trans (e6.trans ((Rch.one e1 rfl bd).trans t1)), t2⟩
        split
        · exact goal
        · exact goal
end
end Go.Proofs.Ytocmbnocdjnfpaa

namespace Go.Proofs.Ytocmbnocdjnfpaa
open Go.RowKit Go.Deep
set_option linter.unusedVariables false
set_option maxRecDepth 100000

/-- A strings.Builder in its block, used or not, that holds these bytes. -/
def BdA (w : World) (B b : Nat) (l : List Int) : Prop := Go.Lib.IsBuilder 173 5 B b (bv l) w
theorem bd_size : (Try.prog.info? 173).map (·.size) = some 2 := by kernel_rfl

set_option maxHeartbeats 1000000 in
theorem copyUsed (b : Nat) (w : World) (h0 : w.cell? ⟨b, 0, none⟩ = some (.pointer (some ⟨b, 0, none⟩))) :
    Calls Try.prog 144 #[.pointer (some ⟨b, 0, none⟩)] w fun e w' => e = .returned (.tuple #[]) ∧ w' = w := by
  obtain ⟨j, hj, _⟩ := Option.map_eq_some_iff.1 bd_size
  go_enter Try.func144, Try.ntmps144
  go_wp2
  rw [Go.Lib.run_neq_ptr_same w _ (by kernel_rfl) hj]
  go_wp2
  go_end0
  exact ⟨rfl, rfl⟩
set_option maxHeartbeats 1000000 in
theorem copyFresh (b : Nat) (w : World) (h0 : w.cell? ⟨b, 0, none⟩ = some (.pointer none)) (hsh : w.shape? b = some (173, 2)) (hfz : w.frozen? ⟨b, 0, none⟩ = false) :
    Calls Try.prog 144 #[.pointer (some ⟨b, 0, none⟩)] w fun e w' => e = .returned (.tuple #[]) ∧ w' = w.setCell ⟨b, 0, none⟩ (.pointer (some ⟨b, 0, none⟩)) := by
  obtain ⟨j, hj, hjs⟩ := Option.map_eq_some_iff.1 bd_size
  go_enter Try.func144, Try.ntmps144
  go_wp2
  rw [Go.Lib.run_to_unsafe w ⟨b, 0, none⟩ (by kernel_rfl) (by kernel_rfl) hj (by rw [hjs]; decide) hsh (Nat.zero_lt_succ 1)]
  simp only [Result.andThen]
  rw [Oper.upon_value]
  go_wp2
  rw [run_callFunc_extern Try.func164 (by kernel_rfl) (by kernel_rfl) (by kernel_rfl) (e := Extern.AbiNoEscape.same) (by kernel_rfl)]
  rw [Go.Lib.run_noEscape]
  simp only [Result.andThen]
  rw [Oper.upon_value]
  go_wp2
  rw [Go.Lib.run_from_unsafe w ⟨b, 0, none⟩ (by kernel_rfl) (by kernel_rfl) hj hsh (by kernel_rfl)]
  simp only [Result.andThen]
  rw [Oper.upon_value]
  go_wp2
  go_end0
  exact ⟨rfl, rfl⟩

/-- copyCheck leaves a used builder with the same bytes. -/
theorem copyCheck_any (B b : Nat) (l : List Int) (w : World) (h : BdA w B b l) : Calls Try.prog 144 #[.pointer (some ⟨b, 0, none⟩)] w fun e w' => e = .returned (.tuple #[]) ∧ Go.Lib.BuilderAt 173 5 B b (.pointer (some ⟨b, 0, none⟩)) (bv l) w' ∧ Below B w w' ∧ w'.heap.size = w.heap.size ∧ w'.cell? ⟨b, 1, none⟩ = w.cell? ⟨b, 1, none⟩ ∧ ∀ k, k ≠ b → w'.heap[k]? = w.heap[k]? := by
  rcases h with h | h
  · refine (copyFresh b w h.cell0 h.shape h.frozen0).mono ?_
    rintro e w' ⟨rfl, rfl⟩
    exact ⟨rfl, h.used _, (Below.refl B w).setCell (p := ⟨b, 0, none⟩) h.1 _, World.size_setCell _ _ _, World.cell?_setCell_other _ _ _ _ (by simp), fun k hk => Below.heap_setCell _ _ _ _ hk⟩
  · refine (copyUsed b w h.cell0).mono ?_
    rintro e w' ⟨rfl, rfl⟩
    exact ⟨rfl, h, Below.refl B _, rfl, rfl, fun _ _ => rfl⟩

set_option maxHeartbeats 2000000 in
theorem writeByte_any (B b : Nat) (l : List Int) (c : Int) (w : World) (h : BdA w B b l) (hl : l.length ≤ 1048576) (hB : B ≤ w.heap.size) : Calls Try.prog 126 #[.pointer (some ⟨b, 0, none⟩), .int .u8 c] w fun e w' => e = .returned .nilIface ∧ BdA w' B b (l ++ [c]) ∧ Below B w w' ∧ (∀ g8, g8 < w.heap.size → g8 ≠ b → (∀ v, w.cell? ⟨b, 1, none⟩ = some v → v.ownBlock ≠ some g8) → w'.heap[g8]? = w.heap[g8]? ∧ ∀ v, w'.cell? ⟨b, 1, none⟩ = some v → v.ownBlock ≠ some g8) := by
  have HC : Hid (Calls Try.prog 144 #[.pointer (some ⟨b, 0, none⟩)] w fun e w' => e = .returned (.tuple #[]) ∧ Go.Lib.BuilderAt 173 5 B b (.pointer (some ⟨b, 0, none⟩)) (bv l) w' ∧ Below B w w' ∧ w'.heap.size = w.heap.size ∧ w'.cell? ⟨b, 1, none⟩ = w.cell? ⟨b, 1, none⟩ ∧ ∀ k, k ≠ b → w'.heap[k]? = w.heap[k]?) := copyCheck_any B b l w h
  obtain ⟨i0, hi, hz0, hz1, hz2⟩ := info_parts infoB
  have HI : Hid (Try.prog.info? 5 = some i0 ∧ i0.zero = some (.int .u8 0) ∧ i0.size = 1 ∧ i0.bytes = 1) := ⟨hi, hz0, hz1, hz2⟩
  clear h hi hz0 hz1 hz2
  go_enter Try.func126, Try.ntmps126
  go_wp2_with fail
  refine HC.out.mono ?_
  rintro e w1 ⟨rfl, h1, hb1, hs1, hc1, hk1⟩
  obtain ⟨hBb, v, hbk, hown, hne⟩ := h1
  have HO : Hid (w1.heap.size = w.heap.size ∧ w1.cell? ⟨b, 1, none⟩ = w.cell? ⟨b, 1, none⟩ ∧ ∀ k, k ≠ b → w1.heap[k]? = w.heap[k]?) := ⟨hs1, hc1, hk1⟩
  clear hc1 hk1
  have c1 : w1.cell? ⟨b, 1, none⟩ = some v := by rw [Go.Lib.cell_of_heap hbk]; rfl
  have HW : Hid (B ≤ b ∧ w1.heap[b]? = some (.cells #[.pointer (some ⟨b, 0, none⟩), v] 173 (0, 0)) ∧ w1.ownsRow B 5 1 v (bv l).length (bv l) ∧ v.ownBlock ≠ some b ∧ Below B w w1 ∧ B ≤ w1.heap.size) := ⟨hBb, hbk, hown, hne, hb1, by omega⟩
  clear hBb hbk hown hne hb1
  obtain ⟨n, hn⟩ : ∃ n, n = (bv l).length := ⟨_, rfl⟩
  rw [← hn] at HW
  have hn1 : n ≤ 1048576 := by rw [hn, bv_length]; exact hl
  obtain ⟨av, cv, hv⟩ : ∃ av cv, v = .slice av n cv := by
    rcases HW.out.2.2.1.2 with ⟨q, q0⟩ | ⟨g, cap, cur, q, _⟩
    · exact ⟨none, 0, by rw [q, q0]⟩
    · exact ⟨_, cap, q⟩
  have HN : Hid (n = (bv l).length) := hn
  have hbz : B ≤ w1.heap.size := HW.out.2.2.2.2.2
  have hbl : b < w1.heap.size := World.block_lt_of_cell? _ _ c1
  subst hv
  clear hn hs1
  go_wp2_with (at_builtin; refine wpList_append_own_at _ rfl _ _ 33 rfl B 5 i0 (.int .u8 0) 1 1 Try.underlying33 HI.out.1 HI.out.2.1 HI.out.2.2.1 HI.out.2.2.2 rfl (by decide) (.slice av n cv) n (bv l) rfl (HW.out.2.2.1.alloc _) ⟨w1.heap.size, 0, none⟩ 1 1 [.int .u8 c] rfl rfl (new_cells _ [.int .u8 c] _) (fun u hu => by simp at hu; subst hu; rfl) (by unfold maxLen; omega) (by omega) (by simp; omega) ?_)
  intro v' w2 ho hg _ hat
  have hk2 : w2.heap[b]? = some (.cells #[.pointer (some ⟨b, 0, none⟩), .slice av n cv] 173 (0, 0)) := by
    rw [hg.block b (by simp; omega) (fun q => HW.out.2.2.2.1 q.symm), (below_alloc w1 _).block b hbl]
    exact HW.out.2.1
  have d1 : w2.cell? ⟨b, 1, none⟩ = some (.slice av n cv) := by rw [Go.Lib.cell_of_heap hk2]; rfl
  have f1 : w2.frozen? ⟨b, 1, none⟩ = false := by simp [World.frozen?, hk2]
  obtain ⟨a', c', hv'⟩ : ∃ a' c', v' = .slice a' (n + 1) c' := by
    rcases ho.2 with ⟨_, q0⟩ | ⟨g, cap, cur, q, _⟩
    · omega
    · exact ⟨_, cap, q⟩
  subst hv'
  have HX : Hid (BdA (w2.setCell ⟨b, 1, none⟩ (.slice a' (n + 1) c')) B b (l ++ [c]) ∧ Below B w (w2.setCell ⟨b, 1, none⟩ (.slice a' (n + 1) c')) ∧ (∀ g8, g8 < w.heap.size → g8 ≠ b → (∀ v, w.cell? ⟨b, 1, none⟩ = some v → v.ownBlock ≠ some g8) → (w2.setCell ⟨b, 1, none⟩ (.slice a' (n + 1) c')).heap[g8]? = w.heap[g8]? ∧ ∀ v, (w2.setCell ⟨b, 1, none⟩ (.slice a' (n + 1) c')).cell? ⟨b, 1, none⟩ = some v → v.ownBlock ≠ some g8)) := by
    refine ⟨.inr ?_, ?_, fun g8 q1 q2 q3 => ?_⟩
    · have e : (bv l ++ bv [c]).length = n + 1 := by rw [List.length_append, ← HN.out]; rfl
      have ho2 : w2.ownsRow B 5 1 (.slice a' (n + 1) c') (bv l ++ bv [c]).length (bv l ++ bv [c]) := by
        rw [e]
        exact ho
      rw [bv_app]
      exact Go.Lib.BuilderAt.put (T := 173) (e := 5) HW.out.1 hk2 (bs' := bv l ++ bv [c]) ho2 (by decide)
    · exact ((HW.out.2.2.2.2.1.alloc hbz _).grown hg (by simp; omega) (fun k e => (HW.out.2.2.1.lt k e).1)).setCell (p := ⟨b, 1, none⟩) HW.out.1 _
    · have q4 : (Value.slice av n cv).ownBlock ≠ some g8 := q3 _ (by rw [← HO.out.2.1]; exact c1)
      refine ⟨?_, fun v hv => ?_⟩
      · rw [Below.heap_setCell _ _ _ _ q2, hg.block g8 (by simp; have := HO.out.1; omega) (fun q => q4 q.symm), (below_alloc w1 _).block g8 (by have := HO.out.1; omega)]
        exact HO.out.2.2 g8 q2
      · rw [World.cell?_setCell_same _ _ _ d1] at hv
        injection hv with hv
        subst hv
        rcases hat with hat | hat
        · rw [hat]; exact q4
        · rw [hat]
          intro q
          injection q with q
          have := HO.out.1
          (try simp at q)
          omega
  clear ho hg hat hk2
  go_wp2
  go_ret
  exact ⟨rfl, HX.out⟩
set_option maxHeartbeats 2000000 in
theorem write_any (B b : Nat) (l : List Int) (ad : Addr) (m cp : Nat) (y : List Int) (w : World) (h : BdA w B b l) (hm : m = y.length) (hm0 : 0 < m) (hm1 : m ≤ 1000) (hp : ad.block ≠ b) (hy : ∀ j u, (bv y)[j]? = some u → w.cell? (ad.add j) = some u) (hl : l.length ≤ 1048576) (hB : B ≤ w.heap.size) : Calls Try.prog 127 #[.pointer (some ⟨b, 0, none⟩), .slice (some ad) m cp] w fun e w' => e = .returned (.tuple #[.int .i64 (m : Int), .nilIface]) ∧ BdA w' B b (l ++ y) ∧ Below B w w' ∧ (∀ g8, g8 < w.heap.size → g8 ≠ b → (∀ v, w.cell? ⟨b, 1, none⟩ = some v → v.ownBlock ≠ some g8) → w'.heap[g8]? = w.heap[g8]? ∧ ∀ v, w'.cell? ⟨b, 1, none⟩ = some v → v.ownBlock ≠ some g8) := by
  have HC : Hid (Calls Try.prog 144 #[.pointer (some ⟨b, 0, none⟩)] w fun e w' => e = .returned (.tuple #[]) ∧ Go.Lib.BuilderAt 173 5 B b (.pointer (some ⟨b, 0, none⟩)) (bv l) w' ∧ Below B w w' ∧ w'.heap.size = w.heap.size ∧ w'.cell? ⟨b, 1, none⟩ = w.cell? ⟨b, 1, none⟩ ∧ ∀ k, k ≠ b → w'.heap[k]? = w.heap[k]?) := copyCheck_any B b l w h
  obtain ⟨i0, hi, hz0, hz1, hz2⟩ := info_parts infoB
  have HI : Hid (Try.prog.info? 5 = some i0 ∧ i0.zero = some (.int .u8 0) ∧ i0.size = 1 ∧ i0.bytes = 1) := ⟨hi, hz0, hz1, hz2⟩
  clear h hi hz0 hz1 hz2
  go_enter Try.func127, Try.ntmps127
  go_wp2_with fail
  refine HC.out.mono ?_
  rintro e w1 ⟨rfl, h1, hb1, hs1, hc1, hk1⟩
  have HY : Hid (∀ j u, (bv y)[j]? = some u → w1.cell? (ad.add j) = some u) := fun j u hj => by
    have q := hy j u hj
    have e : (ad.add j).block = ad.block := by unfold Addr.add; split <;> rfl
    unfold World.cell? at q ⊢
    rw [e] at q ⊢
    rw [hk1 _ hp]
    exact q
  have HM : Hid (m = y.length) := hm
  clear hy hm
  obtain ⟨hBb, v, hbk, hown, hne⟩ := h1
  have HO : Hid (w1.heap.size = w.heap.size ∧ w1.cell? ⟨b, 1, none⟩ = w.cell? ⟨b, 1, none⟩ ∧ ∀ k, k ≠ b → w1.heap[k]? = w.heap[k]?) := ⟨hs1, hc1, hk1⟩
  clear hc1 hk1
  have c1 : w1.cell? ⟨b, 1, none⟩ = some v := by rw [Go.Lib.cell_of_heap hbk]; rfl
  have HW : Hid (B ≤ b ∧ w1.heap[b]? = some (.cells #[.pointer (some ⟨b, 0, none⟩), v] 173 (0, 0)) ∧ w1.ownsRow B 5 1 v (bv l).length (bv l) ∧ v.ownBlock ≠ some b ∧ Below B w w1 ∧ B ≤ w1.heap.size) := ⟨hBb, hbk, hown, hne, hb1, by omega⟩
  clear hBb hbk hown hne hb1
  obtain ⟨n, hn⟩ : ∃ n, n = (bv l).length := ⟨_, rfl⟩
  rw [← hn] at HW
  have hn1 : n ≤ 1048576 := by rw [hn, bv_length]; exact hl
  obtain ⟨av, cv, hv⟩ : ∃ av cv, v = .slice av n cv := by
    rcases HW.out.2.2.1.2 with ⟨q, q0⟩ | ⟨g, cap, cur, q, _⟩
    · exact ⟨none, 0, by rw [q, q0]⟩
    · exact ⟨_, cap, q⟩
  have HN : Hid (n = (bv l).length) := hn
  have hbz : B ≤ w1.heap.size := HW.out.2.2.2.2.2
  have hbl : b < w1.heap.size := World.block_lt_of_cell? _ _ c1
  subst hv
  clear hn hs1
  go_wp2_with (at_builtin; refine wpList_append_own_at _ rfl _ _ 33 rfl B 5 i0 (.int .u8 0) 1 1 Try.underlying33 HI.out.1 HI.out.2.1 HI.out.2.2.1 HI.out.2.2.2 rfl (by decide) (.slice av n cv) n (bv l) rfl HW.out.2.2.1 ad m cp (bv y) rfl (by rw [bv_length, ← HM.out]; omega) HY.out (bv_one y) (by unfold maxLen; omega) (by omega) (by omega) ?_)
  intro v' w2 ho hg _ hat
  have hk2 : w2.heap[b]? = some (.cells #[.pointer (some ⟨b, 0, none⟩), .slice av n cv] 173 (0, 0)) := by
    rw [hg.block b hbl (fun q => HW.out.2.2.2.1 q.symm)]
    exact HW.out.2.1
  have d1 : w2.cell? ⟨b, 1, none⟩ = some (.slice av n cv) := by rw [Go.Lib.cell_of_heap hk2]; rfl
  have f1 : w2.frozen? ⟨b, 1, none⟩ = false := by simp [World.frozen?, hk2]
  obtain ⟨a', c', hv'⟩ : ∃ a' c', v' = .slice a' (n + m) c' := by
    rcases ho.2 with ⟨_, q0⟩ | ⟨g, cap, cur, q, _⟩
    · omega
    · exact ⟨_, cap, q⟩
  subst hv'
  have HX : Hid (BdA (w2.setCell ⟨b, 1, none⟩ (.slice a' (n + m) c')) B b (l ++ y) ∧ Below B w (w2.setCell ⟨b, 1, none⟩ (.slice a' (n + m) c')) ∧ (∀ g8, g8 < w.heap.size → g8 ≠ b → (∀ v, w.cell? ⟨b, 1, none⟩ = some v → v.ownBlock ≠ some g8) → (w2.setCell ⟨b, 1, none⟩ (.slice a' (n + m) c')).heap[g8]? = w.heap[g8]? ∧ ∀ v, (w2.setCell ⟨b, 1, none⟩ (.slice a' (n + m) c')).cell? ⟨b, 1, none⟩ = some v → v.ownBlock ≠ some g8)) := by
    refine ⟨.inr ?_, ?_, fun g8 q1 q2 q3 => ?_⟩
    · have e : (bv l ++ bv y).length = n + m := by rw [List.length_append, ← HN.out, bv_length, HM.out]
      have ho2 : w2.ownsRow B 5 1 (.slice a' (n + m) c') (bv l ++ bv y).length (bv l ++ bv y) := by
        rw [e]
        exact ho
      rw [bv_app]
      exact Go.Lib.BuilderAt.put (T := 173) (e := 5) HW.out.1 hk2 (bs' := bv l ++ bv y) ho2 (by decide)
    · exact (HW.out.2.2.2.2.1.grown hg hbz (fun k e => (HW.out.2.2.1.lt k e).1)).setCell (p := ⟨b, 1, none⟩) HW.out.1 _
    · have q4 : (Value.slice av n cv).ownBlock ≠ some g8 := q3 _ (by rw [← HO.out.2.1]; exact c1)
      refine ⟨?_, fun v hv => ?_⟩
      · rw [Below.heap_setCell _ _ _ _ q2, hg.block g8 (by have := HO.out.1; omega) (fun q => q4 q.symm)]
        exact HO.out.2.2 g8 q2
      · rw [World.cell?_setCell_same _ _ _ d1] at hv
        injection hv with hv
        subst hv
        rcases hat with hat | hat
        · rw [hat]; exact q4
        · rw [hat]
          intro q
          injection q with q
          have := HO.out.1
          omega
  clear ho hg hat hk2
  go_wp2
  exact bodyPost_ret (v := .tuple #[.int .i64 (m : Int), .nilIface]) (by simp [results, Try.results127, go_sem]) rfl ⟨rfl, HX.out⟩
theorem bdExtra : Builder.Extra Try.prog lays169_ren where
  sizeBuilder := by kernel_rfl
  liesBuilder := by kernel_rfl
  t5 := by kernel_rfl
  a5 := fun _ => by kernel_rfl
  z5 := fun _ => by kernel_rfl
  v5 := fun _ => by kernel_rfl
  infoByte := by kernel_rfl
  cellsByte := by kernel_rfl
  sizeByte := by kernel_rfl
  neB5 := by decide
/-- Every number is a byte's. -/
def Byt (q : List Int) : Prop := ∀ x, x ∈ q → 0 ≤ x ∧ x < 256
/-- The string of a text. -/
def strT (q : List Int) : ByteArray := ⟨(q.map (fun x => UInt8.ofNat x.toNat)).toArray⟩
theorem byt_cells {q : List Int} (h : Byt q) : bv q = Go.Lib.byteCells (q.map (fun x => UInt8.ofNat x.toNat)) := by
  unfold bv Go.Lib.byteCells
  rw [List.map_map]
  refine List.map_congr_left (fun x hx => ?_)
  obtain ⟨h0, h1⟩ := h x hx
  have : (UInt8.ofNat x.toNat).toNat = x.toNat := by rw [UInt8.toNat_ofNat']; omega
  simp only [Function.comp, this]
  congr 1
  omega
theorem bl_strT {q : List Int} (h : Byt q) : bl (strT q) = q := by
  unfold bl strT
  simp only [List.map_map]
  conv => rhs; rw [← List.map_id q]
  refine List.map_congr_left (fun x hx => ?_)
  obtain ⟨h0, h1⟩ := h x hx
  have : (UInt8.ofNat x.toNat).toNat = x.toNat := by rw [UInt8.toNat_ofNat']; omega
  simp only [Function.comp, this, id]
  omega
theorem string_any (B b : Nat) (l : List Int) (w : World) (h : BdA w B b l) (hl : Byt l) (h0 : l ≠ []) : Calls Try.prog 129 #[.pointer (some ⟨b, 0, none⟩)] w fun e w' => e = .returned (.string (strT l)) ∧ Below B w w' := by
  unfold BdA at h
  rw [byt_cells hl] at h
  exact Any.Builder_String lays169 bdExtra B b (l.map (fun x : Int => UInt8.ofNat x.toNat)) w h (by simpa using h0)
end Go.Proofs.Ytocmbnocdjnfpaa

namespace Go.Proofs.Ytocmbnocdjnfpaa
open Go.RowKit Go.Deep
set_option linter.unusedVariables false
set_option linter.unusedSimpArgs false
set_option maxRecDepth 100000

/-- A token's kind and text, as the specification has them. -/
def kdT (c : Nat) : Int := if c = 0 then 5 else if c = 14 then 2 else if c = 15 then 4 else if c ≤ 5 ∨ c = 9 then 1 else 3
def wdS (c : Nat) : ByteArray :=
  if c = 1 then { data := #[97, 108, 108] } else if c = 2 then { data := #[118] } else if c = 3 then { data := #[111, 117, 116] } else if c = 4 then { data := #[105, 110] } else if c = 5 then { data := #[104, 97, 115] } else if c = 9 then { data := #[103, 114, 97, 112, 104] }
  else if c = 6 then { data := #[38] } else if c = 7 then { data := #[124] } else if c = 8 then { data := #[45] } else if c = 10 then { data := #[46] } else if c = 11 then { data := #[40] } else if c = 12 then { data := #[41] } else if c = 13 then { data := #[44] } else { data := #[] }
def txT (t : Tok) : ByteArray := if t.c = 14 then strT t.q else wdS t.c
/-- The tokens lie in block g. -/
def RdK (w : World) (g m : Nat) (T : Nat → Tok) (A : Nat → Nat) : Prop :=
  ∀ i, i < m → w.cell? ⟨g, i * 3, none⟩ = some (.int .i64 (kdT (T i).c)) ∧ w.cell? ⟨g, i * 3 + 1, none⟩ = some (.string (txT (T i))) ∧ w.cell? ⟨g, i * 3 + 2, none⟩ = some (.int .i64 (A i : Int))
theorem RdK.below {w w' : World} {g m : Nat} {T : Nat → Tok} {A : Nat → Nat} (h : RdK w g m T A) (hb : Below w.heap.size w w') : RdK w' g m T A := fun i hi => by
  obtain ⟨h1, h2, h3⟩ := h i hi
  refine ⟨?_, ?_, ?_⟩
  · rw [hb.cell (p := ⟨g, i * 3, none⟩) (World.block_lt_of_cell? _ _ h1)]; exact h1
  · rw [hb.cell (p := ⟨g, i * 3 + 1, none⟩) (World.block_lt_of_cell? _ _ h2)]; exact h2
  · rw [hb.cell (p := ⟨g, i * 3 + 2, none⟩) (World.block_lt_of_cell? _ _ h3)]; exact h3
/-- The parser's state as a value. -/
def prV (g m c : Nat) (p : Pr) : Value := .agg #[.slice (some ⟨g, 0, none⟩) m c, .int .i64 (p.i : Int), .int .i64 (p.nd : Int), .int .i64 p.er, .int .i64 p.at_, .string (strT p.got)]

theorem l6Hex_any (b : Int) (w : World) (h0 : 0 ≤ b) (h1 : b < 256) : Calls Try.prog 134 #[.int .u8 b] w fun e w' => e = .returned (.int .i64 (hxV b)) ∧ w' = w := by
  by_cases h2 : 48 ≤ b
  · by_cases h3 : b ≤ 57
    · have HE : Hid (hxV b = b - 48) := by show _ = _; unfold hxV; rw [if_pos ⟨h2, h3⟩]
      have e1 : IntKind.u8.wrap (b - 48) = b - 48 := by simp [IntKind.wrap, IntKind.bits, IntKind.signed]; omega
      have e2 : IntKind.i64.wrap (b - 48) = b - 48 := by rw [IntKind.wrap_i64]; omega
      go_enter Try.func134, Try.ntmps134
      go_wp2
      go_ret
      exact ⟨by rw [HE.out]; rfl, rfl⟩
    · have d3 : decide (b ≤ 57) = false := decide_eq_false h3
      by_cases h4 : 97 ≤ b
      · by_cases h5 : b ≤ 102
        · have HE : Hid (hxV b = b - 87) := by show _ = _; unfold hxV; rw [if_neg (by omega), if_pos ⟨h4, h5⟩]
          have e1 : IntKind.u8.wrap (b - 97) = b - 97 := by simp [IntKind.wrap, IntKind.bits, IntKind.signed]; omega
          have e2 : IntKind.i64.wrap (b - 97) = b - 97 := by rw [IntKind.wrap_i64]; omega
          have e3 : IntKind.i64.wrap (b - 97 + 10) = b - 87 := by rw [IntKind.wrap_i64]; omega
          go_enter Try.func134, Try.ntmps134
          go_wp2
          go_ret
          exact ⟨by rw [HE.out]; rfl, rfl⟩
        · have HE : Hid (hxV b = -1) := by show _ = _; unfold hxV; rw [if_neg (by omega), if_neg (by omega)]
          have d5 : decide (b ≤ 102) = false := decide_eq_false h5
          go_enter Try.func134, Try.ntmps134
          go_wp2
          go_ret
          exact ⟨by rw [HE.out]; rfl, rfl⟩
      · have HE : Hid (hxV b = -1) := by show _ = _; unfold hxV; rw [if_neg (by omega), if_neg (by omega)]
        have d5 : decide (97 ≤ b) = false := decide_eq_false h4
        go_enter Try.func134, Try.ntmps134
        go_wp2
        go_ret
        exact ⟨by rw [HE.out]; rfl, rfl⟩
  · have HE : Hid (hxV b = -1) := by show _ = _; unfold hxV; rw [if_neg (by omega), if_neg (by omega)]
    have d2 : decide (48 ≤ b) = false := decide_eq_false h2
    have d4 : decide (97 ≤ b) = false := decide_eq_false (by omega)
    have n4 : ¬ 97 ≤ b := by omega
    go_enter Try.func134, Try.ntmps134
    go_wp2
    go_ret
    exact ⟨by rw [HE.out]; rfl, rfl⟩

theorem kdT_zero (c : Nat) (hc : c ≤ 15) : kdT c = 5 ↔ c = 0 := by
  unfold kdT
  constructor
  · intro h
    by_cases h0 : c = 0
    · exact h0
    · rw [if_neg h0] at h
      split at h
      · omega
      · split at h
        · omega
        · split at h <;> omega
  · intro h; rw [if_pos h]

set_option maxHeartbeats 1000000 in
theorem l6Fail_any {T : Nat → Tok} {A : Nat → Nat} (hT : ∀ i, (T i).c ≤ 15) (g m c : Nat) (p : Pr) (e : Int) (w : World) (hR : RdK w g m T A) (hi : p.i < m) (hm : m ≤ 3000) :
    Calls Try.prog 105 #[prV g m c p, .int .i64 e] w fun r w' => r = .returned (prV g m c (failP T A p e)) ∧ Below w.heap.size w w' := by
  obtain ⟨er, at_, i, nd, got⟩ := p
  obtain ⟨c1, c2, c3⟩ := hR i hi
  have hi' : i < m := hi
  have HK : Hid (kdT (T i).c = 5 ↔ (T i).c = 0) := kdT_zero (T i).c (hT i)
  have b1 := World.block_lt_of_cell? _ _ c1
  have HB : Hid (∀ o1 o2, Below w.heap.size w ((w.alloc o1).alloc o2)) := fun o1 o2 => (below_alloc _ _).alloc (by simp) _
  have ii : (i : Int) < (m : Int) := by omega
  have i0 : ¬ (i : Int) < 0 := by omega
  have i1 : (0 : Int) ≤ (i : Int) := by omega
  unfold prV
  obtain ⟨S, hS⟩ : ∃ S, strT got = S := ⟨_, rfl⟩
  have HS : Hid (strT got = S) := hS
  show Calls Try.prog 105 #[.agg #[.slice (some ⟨g, 0, none⟩) m c, .int .i64 (i : Int), .int .i64 (nd : Int), .int .i64 er, .int .i64 at_, .string (strT got)], .int .i64 e] w _
  rw [hS]
  clear hS
  by_cases h : er = 0
  · have HE : Hid (failP T A ⟨er, at_, i, nd, got⟩ e = ⟨if (T i).c = 0 then 2 else e, A i, i, nd, got⟩) := by
      show _ = _
      unfold failP
      rw [if_neg (by simp [h])]
    subst h
    generalize kdT (T i).c = K at *
    generalize txT (T i) = X at *
    by_cases h5 : K = 5
    · subst h5
      have H0 : Hid ((T i).c = 0) := HK.out.1 rfl
      clear HK
      go_enter Try.func105, Try.ntmps105
      go_wp2
      refine bodyPost_ret (v := .agg #[.slice (some ⟨g, 0, none⟩) m c, .int .i64 (i : Int), .int .i64 (nd : Int), .int .i64 2, .int .i64 (A i : Int), .string S]) (by simp [results, Try.results105, go_sem]) rfl ⟨?_, HB.out _ _⟩
      rw [HE.out, if_pos H0.out, ← HS.out]
    · have d5 : (K == 5) = false := by simp [h5]
      have H0 : Hid (¬ (T i).c = 0) := fun e => h5 (HK.out.2 e)
      clear HK
      go_enter Try.func105, Try.ntmps105
      go_wp2
      refine bodyPost_ret (v := .agg #[.slice (some ⟨g, 0, none⟩) m c, .int .i64 (i : Int), .int .i64 (nd : Int), .int .i64 e, .int .i64 (A i : Int), .string S]) (by simp [results, Try.results105, go_sem]) rfl ⟨?_, HB.out _ _⟩
      rw [HE.out, if_neg H0.out, ← HS.out]
  · have HE : Hid (failP T A ⟨er, at_, i, nd, got⟩ e = ⟨er, at_, i, nd, got⟩) := by
      show _ = _
      unfold failP
      rw [if_pos h]
    have d : (er == 0) = false := by simp [h]
    go_enter Try.func105, Try.ntmps105
    go_wp2
    refine bodyPost_ret (v := .agg #[.slice (some ⟨g, 0, none⟩) m c, .int .i64 (i : Int), .int .i64 (nd : Int), .int .i64 er, .int .i64 at_, .string S]) (by simp [results, Try.results105, go_sem]) rfl ⟨?_, HB.out _ _⟩
    rw [HE.out, ← HS.out]
end Go.Proofs.Ytocmbnocdjnfpaa
