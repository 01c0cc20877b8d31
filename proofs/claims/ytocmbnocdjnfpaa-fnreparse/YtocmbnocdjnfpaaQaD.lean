import Derived.Test.YtocmbnocdjnfpaaQaC
namespace Go.Proofs.Ytocmbnocdjnfpaa
set_option linter.unusedVariables false

/-- The end of the tokens is not taken. -/
def LastK (T : Nat → Tok) (m : Nat) : Prop := 0 < m ∧ ((T (m - 1)).c = 0 ∨ (T (m - 1)).c = 15)
theorem failP_i (T : Nat → Tok) (A : Nat → Nat) (p : Pr) (e : Int) : (failP T A p e).i = p.i := by unfold failP; split <;> rfl
theorem failP_nd (T : Nat → Tok) (A : Nat → Nat) (p : Pr) (e : Int) : (failP T A p e).nd = p.nd := by unfold failP; split <;> rfl
theorem failP_er (T : Nat → Tok) (A : Nat → Nat) (p : Pr) {e : Int} (he : e ≠ 0) : (failP T A p e).er ≠ 0 := by
  unfold failP
  split
  · assumption
  · show (if (T p.i).c = 0 then (2 : Int) else e) ≠ 0
    split
    · omega
    · exact he
section
variable {T : Nat → Tok} {A : Nat → Nat} {m : Nat}
/-- What a step of the parser may do: go on by one, or fail where it stands. -/
def Go1 (m : Nat) (p q : Pr) : Prop := (q.er = 0 → p.er = 0 ∧ p.i < q.i) ∧ p.i ≤ q.i ∧ (p.i < m → q.i < m) ∧ (p.nd ≤ 100 → q.nd ≤ 100)
theorem Go1.trans {p q r : Pr} (h : Go1 m p q) (k : Go1 m q r) : Go1 m p r := by
  obtain ⟨h1, h2, h3, h4⟩ := h
  obtain ⟨k1, k2, k3, k4⟩ := k
  exact ⟨fun e => by have a := k1 e; have b := h1 a.1; exact ⟨b.1, by omega⟩, by omega, fun e => k3 (h3 e), fun e => k4 (h4 e)⟩
theorem go_fail (p : Pr) {e : Int} (he : e ≠ 0) : Go1 m p (failP T A p e) :=
  ⟨fun h => absurd h (failP_er T A p he), by rw [failP_i]; exact Nat.le_refl _, fun h => by rw [failP_i]; exact h, fun h => by rw [failP_nd]; exact h⟩
theorem last_lt (hl : LastK T m) {i c : Nat} (h : i < m) (hc : (T i).c = c) (h1 : 1 ≤ c) (h2 : c < 15) : i + 1 < m := by
  by_cases e2 : i = m - 1
  · rw [e2] at hc
    have := hl.2; omega
  · omega
theorem go_next (hl : LastK T m) (p : Pr) (h0 : p.er = 0) {c : Nat} (hc : (T p.i).c = c) (h1 : 1 ≤ c) (h2 : c < 15) : Go1 m p { p with i := p.i + 1 } :=
  ⟨fun _ => ⟨h0, Nat.lt_succ_self _⟩, Nat.le_succ _, fun h => last_lt hl h hc h1 h2, fun h => h⟩
theorem go_sym (hl : LastK T m) (p : Pr) {k : Nat} (h1 : 1 ≤ k) (h2 : k < 15) : Go1 m p (symP T A p k) := by
  unfold symP
  split
  · rename_i e
    exact go_next hl p e.1 e.2 h1 h2
  · exact go_fail p (by omega)
theorem go_str (hl : LastK T m) (p : Pr) : Go1 m p (strP T A p) := by
  unfold strP
  split
  · rename_i e
    exact ⟨fun _ => ⟨e.1, Nat.lt_succ_self _⟩, Nat.le_succ _, fun h => last_lt hl h e.2 (by omega) (by omega), fun h => h⟩
  · exact go_fail p (by omega)
theorem go_mk (hl : LastK T m) (p : Pr) (h0 : p.er = 0) {c : Nat} (hc : (T p.i).c = c) (h1 : 1 ≤ c) (h2 : c < 15) : Go1 m p (mkP T A p) := by
  unfold mkP
  split
  · exact go_fail p (by omega)
  · rename_i e
    exact ⟨fun _ => ⟨h0, Nat.lt_succ_self _⟩, Nat.le_succ _, fun h => last_lt hl h hc h1 h2, fun h => by show p.nd + 1 ≤ 100; omega⟩
theorem stepK_cases (p : Pr) : (stepK T p = 4 ∧ p.er = 0 ∧ (T p.i).c = 4) ∨ (stepK T p = 5 ∧ p.er = 0 ∧ (T p.i).c = 5) ∨ stepK T p = 3 := by
  unfold stepK
  split
  · rename_i h; exact Or.inl ⟨rfl, h⟩
  · split
    · rename_i h; exact Or.inr (Or.inl ⟨rfl, h⟩)
    · exact Or.inr (Or.inr rfl)
theorem go_stepQ (hl : LastK T m) (p : Pr) : Go1 m p (stepQ T A p).1 := by
  unfold stepQ
  split
  · exact go_fail p (by omega)
  · rename_i h
    have hm : Go1 m p (mkP T A p) := by
      rcases stepK_cases (T := T) p with ⟨_, h0, hc⟩ | ⟨_, h0, hc⟩ | h3
      · exact go_mk hl p h0 hc (by omega) (by omega)
      · exact go_mk hl p h0 hc (by omega) (by omega)
      · have h4 : p.er = 0 ∧ (T p.i).c = 3 := Classical.byContradiction (fun e => h ⟨h3, e⟩)
        exact go_mk hl p h4.1 h4.2 (by omega) (by omega)
    have h4 := (hm.trans (go_sym (A := A) hl _ (k := 11) (by omega) (by omega))).trans (go_str (A := A) hl _)
    split
    · exact ((h4.trans (go_sym hl _ (k := 13) (by omega) (by omega))).trans (go_str hl _)).trans (go_sym hl _ (k := 12) (by omega) (by omega))
    · exact h4.trans (go_sym hl _ (k := 12) (by omega) (by omega))

def Bd (T : Nat → Tok) (m : Nat) (s : Mc) : Prop := s.p.i < m ∧ s.p.nd ≤ 100 ∧ (∀ x, x ∈ s.st → x.k ≤ 15) ∧ s.o.length + s.st.length ≤ s.p.i + (if s.p.er = 0 then 0 else 1)
def Ms (m : Nat) (p : Pr) : Nat := 2 * (m - p.i) + (if p.er = 0 then 1 else 0)
theorem drn_len (least : Nat) : ∀ (st : List Ent) (o : List Nd), (drn least st o).2.length + (drn least st o).1.length = o.length + st.length
  | [], o => by show o.length + 0 = _; rfl
  | x :: st, o => by
    show (if least ≤ stg x.k then drn least st (o ++ [⟨x.k, [], []⟩]) else (x :: st, o)).2.length + (if least ≤ stg x.k then drn least st (o ++ [⟨x.k, [], []⟩]) else (x :: st, o)).1.length = _
    split
    · rw [drn_len least st]; simp; omega
    · rfl
theorem drn_mem (least : Nat) : ∀ (st : List Ent) (o : List Nd) (x : Ent), x ∈ (drn least st o).1 → x ∈ st
  | [], o, x, h => h
  | y :: st, o, x, h => by
    have h' : x ∈ (if least ≤ stg y.k then drn least st (o ++ [⟨y.k, [], []⟩]) else (y :: st, o)).1 := h
    split at h'
    · exact List.mem_cons_of_mem _ (drn_mem least st _ x h')
    · exact h'
/-- One step keeps the bounds and goes on. -/
theorem step_bd {s s' : Mc} (hb : Bd T m s) (h0 : s.p.er = 0) (hg : Go1 m s.p s'.p) (hk : ∀ x, x ∈ s'.st → x.k ≤ 15) (hn : s'.o.length + s'.st.length ≤ s.o.length + s.st.length + 1) : Bd T m s' ∧ Ms m s'.p < Ms m s.p := by
  obtain ⟨b1, b2, b3, b4⟩ := hb
  obtain ⟨g1, g2, g3, g4⟩ := hg
  rw [if_pos h0] at b4
  have e1 := g3 b1
  by_cases h : s'.p.er = 0
  · have := g1 h
    refine ⟨⟨e1, g4 b2, hk, by rw [if_pos h]; omega⟩, ?_⟩
    unfold Ms
    rw [if_pos h, if_pos h0]
    omega
  · refine ⟨⟨e1, g4 b2, hk, by rw [if_neg h]; omega⟩, ?_⟩
    unfold Ms
    rw [if_neg h, if_pos h0]
    omega
end
end Go.Proofs.Ytocmbnocdjnfpaa
