import Derived.Test.YtocmbnocdjnfpaaQbE
namespace Go.Proofs.Ytocmbnocdjnfpaa
open Go.RowKit Go.Deep
set_option linter.unusedVariables false
set_option linter.unusedSimpArgs false
set_option maxRecDepth 100000

theorem own_set {W : World} {B s n : Nat} {t : TypeId} {v : Value} {xs : List Value} (h : W.ownsRow B t s v n xs) {a : Addr} (ha : a.block < B) (u : Value) : (W.setCell a u).ownsRow B t s v n xs :=
  plS_keep h (fun g e => by
    have := (h.lt _ e).1
    simp only [World.setCell, Array.getElem?_modify]
    rw [if_neg (by omega)])
def prL (g m c : Nat) (p : Pr) : List Value := [.slice (some ⟨g, 0, none⟩) m c, .int .i64 (p.i : Int), .int .i64 (p.nd : Int), .int .i64 p.er, .int .i64 p.at_, .string (strT p.got)]
theorem Cs.other {W : World} {b : Nat} {L : List Value} (h : Cs W b L) {a : Addr} (ha : a.block ≠ b) (u : Value) : Cs (W.setCell a u) b L :=
  ⟨fun o v hv => by rw [World.cell?_setCell_other _ _ _ _ (fun e => ha (by rw [e]))]; exact h.1 o v hv, fun o => by
    have := h.2 o
    simpa [go_sem] using this⟩
theorem Cs.grown {W W' : World} {b : Nat} {L : List Value} {r : Option Nat} (h : Cs W b L) (hg : W.grownBy W' r) (hb : b < W.heap.size) (hr : some b ≠ r) : Cs W' b L :=
  ⟨fun o v hv => by rw [World.cell?_of_block (a := ⟨b, o, none⟩) (hg.block b hb hr)]; exact h.1 o v hv, fun o => by rw [World.frozen?_of_block (a := ⟨b, o, none⟩) (hg.block b hb hr)]; exact h.2 o⟩

/-- l6Parse's memory: the parser in its box, the result's box, the nodes, the stack. -/
structure LS (w : World) (g m c : Nat) (p : Pr) (o : List Nd) (st : List Ent) (vo vs : Value) (W : World) : Prop where
  z : Cs W w.heap.size (prL g m c p)
  r : ∃ v0 v1 v2 v3 v4 v5, Cs W (w.heap.size + 1) [v0, v1, v2, v3, v4, v5]
  nd : NdA W (w.heap.size + 2) vo o
  en : EnA W (w.heap.size + 2) vs st
  bel : Below w.heap.size w W
  sz : w.heap.size + 2 ≤ W.heap.size
section
variable {w W W' : World} {g m c : Nat} {p q : Pr} {o o' : List Nd} {st st' : List Ent} {vo vs v' : Value}
theorem LS.below (h : LS w g m c p o st vo vs W) (hb : Below W.heap.size W W') : LS w g m c p o st vo vs W' := by
  have hs := h.sz
  obtain ⟨v0, v1, v2, v3, v4, v5, hr⟩ := h.r
  exact ⟨h.z.below hb (by omega), ⟨v0, v1, v2, v3, v4, v5, hr.below hb (by omega)⟩, h.nd.below hb, h.en.below hb, h.bel.trans (hb.mono (by omega)), Nat.le_trans hs hb.size⟩
theorem LS.setP (h : LS w g m c p o st vo vs W) (q : Pr) : LS w g m c q o st vo vs ((((((W.setCell ⟨w.heap.size, 0, none⟩ (.slice (some ⟨g, 0, none⟩) m c)).setCell ⟨w.heap.size, 1, none⟩ (.int .i64 (q.i : Int))).setCell ⟨w.heap.size, 2, none⟩ (.int .i64 (q.nd : Int))).setCell ⟨w.heap.size, 3, none⟩ (.int .i64 q.er)).setCell ⟨w.heap.size, 4, none⟩ (.int .i64 q.at_)).setCell ⟨w.heap.size, 5, none⟩ (.string (strT q.got))) := by
  have hs := h.sz
  obtain ⟨v0, v1, v2, v3, v4, v5, hr⟩ := h.r
  have z0 := h.z.1 0 _ rfl
  have z1 := h.z.1 1 _ rfl
  have z2 := h.z.1 2 _ rfl
  have z3 := h.z.1 3 _ rfl
  have z4 := h.z.1 4 _ rfl
  have z5 := h.z.1 5 _ rfl
  have zf := h.z.2
  refine ⟨Cs.six ?_ ?_ ?_ ?_ ?_ ?_ ?_, ⟨v0, v1, v2, v3, v4, v5, ?_⟩, ?_, ?_, ?_, by simpa using hs⟩
  · simp [go_sem, z0, z1, z2, z3, z4, z5]
  · simp [go_sem, z0, z1, z2, z3, z4, z5]
  · simp [go_sem, z0, z1, z2, z3, z4, z5]
  · simp [go_sem, z0, z1, z2, z3, z4, z5]
  · simp [go_sem, z0, z1, z2, z3, z4, z5]
  · simp [go_sem, z0, z1, z2, z3, z4, z5]
  · intro o; simp [go_sem, zf]
  · exact (((((hr.other (by simp) _).other (by simp) _).other (by simp) _).other (by simp) _).other (by simp) _).other (by simp) _
  · exact own_set (own_set (own_set (own_set (own_set (own_set h.nd (by simp) _) (by simp) _) (by simp) _) (by simp) _) (by simp) _) (by simp) _
  · exact own_set (own_set (own_set (own_set (own_set (own_set h.en (by simp) _) (by simp) _) (by simp) _) (by simp) _) (by simp) _) (by simp) _
  · exact (((((h.bel.setCell (by simp) _).setCell (by simp) _).setCell (by simp) _).setCell (by simp) _).setCell (by simp) _).setCell (by simp) _
/-- Only the token's number turned. -/
theorem LS.setI (h : LS w g m c p o st vo vs W) (i : Nat) : LS w g m c { p with i := i } o st vo vs (W.setCell ⟨w.heap.size, 1, none⟩ (.int .i64 (i : Int))) := by
  have hs := h.sz
  obtain ⟨v0, v1, v2, v3, v4, v5, hr⟩ := h.r
  have z0 := h.z.1 0 _ rfl
  have z1 := h.z.1 1 _ rfl
  have z2 := h.z.1 2 _ rfl
  have z3 := h.z.1 3 _ rfl
  have z4 := h.z.1 4 _ rfl
  have z5 := h.z.1 5 _ rfl
  have zf := h.z.2
  refine ⟨Cs.six ?_ ?_ ?_ ?_ ?_ ?_ ?_, ⟨v0, v1, v2, v3, v4, v5, hr.other (by simp) _⟩, own_set h.nd (by simp) _, own_set h.en (by simp) _, h.bel.setCell (by simp) _, by simpa using hs⟩
  · simp [go_sem, z0, z1, z2, z3, z4, z5]
  · simp [go_sem, z0, z1, z2, z3, z4, z5]
  · simp [go_sem, z0, z1, z2, z3, z4, z5]
  · simp [go_sem, z0, z1, z2, z3, z4, z5]
  · simp [go_sem, z0, z1, z2, z3, z4, z5]
  · simp [go_sem, z0, z1, z2, z3, z4, z5]
  · intro o; simp [go_sem, zf]
theorem LS.neN (h : LS w g m c p o st vo vs W) {b : Nat} (hb : b < w.heap.size + 2) : some b ≠ vo.ownBlock := fun e => by
  have := (h.nd.lt _ e.symm).1; omega
theorem LS.neE (h : LS w g m c p o st vo vs W) {b : Nat} (hb : b < w.heap.size + 2) : some b ≠ vs.ownBlock := fun e => by
  have := (h.en.lt _ e.symm).1; omega
/-- The nodes have grown. -/
theorem LS.grewN (h : LS w g m c p o st vo vs W) (hg : W.grownBy W' vo.ownBlock) (hn : NdA W' (w.heap.size + 2) v' o') : LS w g m c p o' st v' vs W' := by
  have hs := h.sz
  obtain ⟨v0, v1, v2, v3, v4, v5, hr⟩ := h.r
  exact ⟨h.z.grown hg (by omega) (h.neN (by omega)), ⟨v0, v1, v2, v3, v4, v5, hr.grown hg (by omega) (h.neN (by omega))⟩, hn, h.en.other hg h.nd (by decide), h.bel.grown hg (by omega) (fun b e => by have := (h.nd.lt _ e).1; omega), Nat.le_trans hs hg.size⟩
/-- The stack has grown. -/
theorem LS.grewE (h : LS w g m c p o st vo vs W) (hg : W.grownBy W' vs.ownBlock) (hn : EnA W' (w.heap.size + 2) v' st') : LS w g m c p o st' vo v' W' := by
  have hs := h.sz
  obtain ⟨v0, v1, v2, v3, v4, v5, hr⟩ := h.r
  exact ⟨h.z.grown hg (by omega) (h.neE (by omega)), ⟨v0, v1, v2, v3, v4, v5, hr.grown hg (by omega) (h.neE (by omega))⟩, h.nd.other hg h.en (by decide), hn, h.bel.grown hg (by omega) (fun b e => by have := (h.en.lt _ e).1; omega), Nat.le_trans hs hg.size⟩
def Mw (z m : Nat) (W : World) : Nat := 2 * (m - (intOf ((W.cell? ⟨z, 1, none⟩).getD undef)).toNat) + (if intOf ((W.cell? ⟨z, 3, none⟩).getD undef) = 0 then 1 else 0)
theorem LS.ms (h : LS w g m c p o st vo vs W) (k : Nat) : Mw w.heap.size k W = Ms k p := by
  unfold Mw Ms
  rw [h.z.1 1 _ rfl, h.z.1 3 _ rfl]
  by_cases h : p.er = 0 <;> simp [intOf, h]
end

/-- What l6Parse's loop keeps. -/
def PI (T : Nat → Tok) (A : Nat → Nat) (w : World) (g m c : Nat) (s0 : Mc) (vo vs vw : Value) (W : World) : Prop :=
  ∃ s, Rch T A s0 s ∧ s.fin = false ∧ vw = .bool s.wt ∧ LS w g m c s.p s.o s.st vo vs W ∧ Bd T m s
theorem PI.next {T : Nat → Tok} {A : Nat → Nat} {w W W0 : World} {g m c : Nat} {s0 s s' : Mc} {vo vs vo0 vs0 : Value} (hr : Rch T A s0 s) (h0 : s.p.er = 0) (hf : s.fin = false) (hb : bodyM T A s = s') (hf' : s'.fin = false) (hbd : Bd T m s) (hg : Go1 m s.p s'.p) (hk : ∀ x, x ∈ s'.st → x.k ≤ 15) (hn : s'.o.length + s'.st.length ≤ s.o.length + s.st.length + 1)
    (hl : LS w g m c s'.p s'.o s'.st vo vs W) (hl0 : LS w g m c s.p s.o s.st vo0 vs0 W0) : PI T A w g m c s0 vo vs (.bool s'.wt) W ∧ Mw w.heap.size m W < Mw w.heap.size m W0 := by
  have := step_bd hbd h0 hg hk hn
  refine ⟨⟨s', hr.trans (Rch.one h0 hf hb), hf', rfl, hl, this.1⟩, ?_⟩
  rw [hl.ms, hl0.ms]
  exact this.2
/-- What l6Parse gives back. -/
def PRet (T : Nat → Tok) (A : Nat → Nat) (w : World) (g m c : Nat) (s0 : Mc) (e : Ending) (w' : World) : Prop :=
  ∃ s vo, e = .returned (.tuple #[prV g m c s.p, vo]) ∧ Rch T A s0 s ∧ Term s ∧ NdA w' (w.heap.size + 2) vo s.o ∧ Below w.heap.size w w'
end Go.Proofs.Ytocmbnocdjnfpaa
