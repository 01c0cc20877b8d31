import Derived.Test.YtcnollkkigiobaaGreatTrT
import Derived.Maps.AppendAt
namespace Go.Proofs.YtcnollkkigiobaaGreat
open Go.RowKit Go.Deep
set_option linter.unusedVariables false
set_option maxRecDepth 100000

/-- A slice of cells that lie in a block of which S holds. -/
def RdX (S : Nat → Prop) (w : World) (a : Option Addr) (n : Nat) (f : Nat → Value) : Prop :=
  n = 0 ∨ ∃ b, a = some ⟨b, 0, none⟩ ∧ S b ∧ b < w.heap.size ∧ ∀ i, i < n → w.cell? ⟨b, i, none⟩ = some (f i)

theorem RdX.mono {S S' : Nat → Prop} {w w' : World} {a : Option Addr} {n : Nat} {f : Nat → Value} (h : RdX S w a n f) (hz : w.heap.size ≤ w'.heap.size) (hS : ∀ b, S b → b < w.heap.size → S' b ∧ w'.heap[b]? = w.heap[b]?) : RdX S' w' a n f := by
  rcases h with h | ⟨b, rfl, hs, hb, hc⟩
  · exact Or.inl h
  · obtain ⟨q1, q2⟩ := hS b hs hb
    exact Or.inr ⟨b, rfl, q1, by omega, fun i hi => by rw [World.cell?_of_block (a := ⟨b, i, none⟩) q2]; exact hc i hi⟩

/-- The four cells of a node. -/
def FnV (S : Nat → Prop) (w : World) (x : Tn) (v0 v1 v2 v3 : Value) : Prop :=
  v0 = .bool x.lf ∧ v3 = .int .i64 x.ct ∧ ∃ ka kc da dc, v1 = .slice ka x.kn kc ∧ v2 = .slice da x.dn dc ∧ RdX S w ka x.kn (fun i => .string (x.ks i)) ∧ RdX S w da x.dn (fun i => .int .i64 (x.kd i))

/-- The cells of a row of nodes. -/
def FlAt (S : Nat → Prop) (w : World) (n : Nat) (F : Nat → Tn) (xs : List Value) : Prop :=
  xs.length = n * 4 ∧ ∀ i, i < n → ∃ v0 v1 v2 v3, xs[i * 4]? = some v0 ∧ xs[i * 4 + 1]? = some v1 ∧ xs[i * 4 + 2]? = some v2 ∧ xs[i * 4 + 3]? = some v3 ∧ FnV S w (F i) v0 v1 v2 v3

theorem FlAt.mono {S S' : Nat → Prop} {w w' : World} {n : Nat} {F : Nat → Tn} {xs : List Value} (h : FlAt S w n F xs) (hz : w.heap.size ≤ w'.heap.size) (hS : ∀ b, S b → b < w.heap.size → S' b ∧ w'.heap[b]? = w.heap[b]?) : FlAt S' w' n F xs := by
  refine ⟨h.1, fun i hi => ?_⟩
  obtain ⟨v0, v1, v2, v3, h0, h1, h2, h3, e0, e3, ka, kc, da, dc, e1, e2, r1, r2⟩ := h.2 i hi
  exact ⟨v0, v1, v2, v3, h0, h1, h2, h3, e0, e3, ka, kc, da, dc, e1, e2, r1.mono hz hS, r2.mono hz hS⟩

/-- Two rows of nodes, one behind the other. -/
def catN (n : Nat) (F G : Nat → Tn) (i : Nat) : Tn := if i < n then F i else G (i - n)

theorem FlAt.app {S : Nat → Prop} {w : World} {n m : Nat} {F G : Nat → Tn} {xs ys : List Value} (h : FlAt S w n F xs) (g : FlAt S w m G ys) : FlAt S w (n + m) (catN n F G) (xs ++ ys) := by
  refine ⟨by rw [List.length_append, h.1, g.1]; omega, fun i hi => ?_⟩
  by_cases e : i < n
  · obtain ⟨v0, v1, v2, v3, h0, h1, h2, h3, hv⟩ := h.2 i e
    have hl := h.1
    refine ⟨v0, v1, v2, v3, ?_, ?_, ?_, ?_, by unfold catN; rw [if_pos e]; exact hv⟩
    · rw [List.getElem?_append_left (by omega)]; exact h0
    · rw [List.getElem?_append_left (by omega)]; exact h1
    · rw [List.getElem?_append_left (by omega)]; exact h2
    · rw [List.getElem?_append_left (by omega)]; exact h3
  · obtain ⟨v0, v1, v2, v3, h0, h1, h2, h3, hv⟩ := g.2 (i - n) (by omega)
    have hl := h.1
    refine ⟨v0, v1, v2, v3, ?_, ?_, ?_, ?_, by unfold catN; rw [if_neg e]; exact hv⟩
    · rw [List.getElem?_append_right (by omega), show i * 4 - xs.length = (i - n) * 4 by omega]; exact h0
    · rw [List.getElem?_append_right (by omega), show i * 4 + 1 - xs.length = (i - n) * 4 + 1 by omega]; exact h1
    · rw [List.getElem?_append_right (by omega), show i * 4 + 2 - xs.length = (i - n) * 4 + 2 by omega]; exact h2
    · rw [List.getElem?_append_right (by omega), show i * 4 + 3 - xs.length = (i - n) * 4 + 3 by omega]; exact h3

theorem FlAt.one {S : Nat → Prop} {w : World} {F : Nat → Tn} {v0 v1 v2 v3 : Value} (h : FnV S w (F 0) v0 v1 v2 v3) : FlAt S w 1 F [v0, v1, v2, v3] := by
  refine ⟨rfl, fun i hi => ?_⟩
  have e : i = 0 := by omega
  subst e
  exact ⟨v0, v1, v2, v3, rfl, rfl, rfl, rfl, h⟩

theorem FlAt.oneCell {S : Nat → Prop} {w : World} {n : Nat} {F : Nat → Tn} {xs : List Value} (h : FlAt S w n F xs) : ∀ u ∈ xs, u.oneCell' = true := by
  intro u hu
  obtain ⟨j, hg⟩ := List.mem_iff_getElem?.1 hu
  have hj : j < xs.length := (List.getElem?_eq_some_iff.1 hg).1
  have hl := h.1
  obtain ⟨v0, v1, v2, v3, h0, h1, h2, h3, e0, e3, ka, kc, da, dc, e1, e2, _⟩ := h.2 (j / 4) (by omega)
  have h4 : j = j / 4 * 4 ∨ j = j / 4 * 4 + 1 ∨ j = j / 4 * 4 + 2 ∨ j = j / 4 * 4 + 3 := by omega
  rcases h4 with e | e | e | e
  · rw [e, h0] at hg
    injection hg with hg
    rw [← hg, e0]; rfl
  · rw [e, h1] at hg
    injection hg with hg
    rw [← hg, e1]; rfl
  · rw [e, h2] at hg
    injection hg with hg
    rw [← hg, e2]; rfl
  · rw [e, h3] at hg
    injection hg with hg
    rw [← hg, e3]; rfl

theorem RdX.rdS {S : Nat → Prop} {w : World} {a : Option Addr} {n : Nat} {X : Nat → ByteArray} (h : RdX S w a n (fun i => .string (X i))) : RdS w a n X := by
  rcases h with h | ⟨b, rfl, _, _, hc⟩
  · exact Or.inl h
  · exact Or.inr ⟨b, 0, rfl, fun i hi => by rw [Nat.zero_add]; exact hc i hi⟩
theorem RdX.rdI {S : Nat → Prop} {w : World} {a : Option Addr} {n : Nat} {X : Nat → Int} (h : RdX S w a n (fun i => .int .i64 (X i))) : Rd .i64 w a n X := by
  rcases h with h | ⟨b, rfl, _, _, hc⟩
  · exact Or.inl h
  · exact Or.inr ⟨b, 0, rfl, fun i hi => by rw [Nat.zero_add]; exact hc i hi⟩

theorem FlAt.rd {S : Nat → Prop} {w : World} {g n : Nat} {F : Nat → Tn} {xs : List Value} (h : FlAt S w n F xs) (hc : ∀ j u, xs[j]? = some u → w.cell? ⟨g, j, none⟩ = some u) : RdTn w (some ⟨g, 0, none⟩) n F := by
  refine Or.inr ⟨g, 0, rfl, fun i hi => ?_⟩
  obtain ⟨v0, v1, v2, v3, h0, h1, h2, h3, e0, e3, ka, kc, da, dc, e1, e2, r1, r2⟩ := h.2 i hi
  subst e0 e1 e2 e3
  refine ⟨ka, kc, da, dc, ?_, ?_, ?_, ?_, r1.rdS, r2.rdI⟩
  · rw [Nat.zero_add]; exact hc _ _ h0
  · rw [Nat.zero_add]; exact hc _ _ h1
  · rw [Nat.zero_add]; exact hc _ _ h2
  · rw [Nat.zero_add]; exact hc _ _ h3

/-- Rows of different types lie in different blocks. -/
theorem own_ne {w : World} {b1 b2 : Nat} {e1 e2 : TypeId} {s1 s2 : Nat} {v1 v2 : Value} {n1 n2 : Nat} {x1 x2 : List Value} (h1 : w.ownsRow b1 e1 s1 v1 n1 x1) (h2 : w.ownsRow b2 e2 s2 v2 n2 x2) (he : e1 ≠ e2) : ∀ g, v1.ownBlock = some g → v2.ownBlock ≠ some g := by
  intro g hg1 hg2
  rcases h1.2 with ⟨rfl, _⟩ | ⟨g', cap, cur, rfl, hb, hh, _⟩
  · simp [Value.ownBlock] at hg1
  · simp [Value.ownBlock] at hg1
    subst hg1
    rcases h2.2 with ⟨rfl, _⟩ | ⟨g2, cap2, cur2, rfl, hb2, hh2, _⟩
    · simp [Value.ownBlock] at hg2
    · simp [Value.ownBlock] at hg2
      subst hg2
      rw [hh] at hh2
      injection hh2 with q
      injection q with _ q _
      exact he q

/-- The cells of a list of numbers. -/
def intL (L : List Int) : List Value := L.map (.int .i64)
theorem intL_length (L : List Int) : (intL L).length = L.length := by simp [intL]
theorem intL_app (L M : List Int) : intL (L ++ M) = intL L ++ intL M := by simp [intL]
theorem intL_get (L : List Int) (i : Nat) (h : i < L.length) : (intL L)[i]? = some (.int .i64 (gi L i)) := by
  simp [intL, gi, List.getD_eq_getElem?_getD, h]
theorem strL_get (L : List ByteArray) (i : Nat) (h : i < L.length) : (strL L)[i]? = some (.string (gt L i)) := by
  simp [strL, gt, List.getD_eq_getElem?_getD, h]

theorem own_set {w : World} {base : Nat} {e : TypeId} {size : Nat} {v : Value} {n : Nat} {xs : List Value} (h : w.ownsRow base e size v n xs) (p : Addr) (u : Value) (hp : p.block < base) : (w.setCell p u).ownsRow base e size v n xs := by
  refine ⟨h.1, ?_⟩
  rcases h.2 with q | ⟨g, cap, cur, q1, q2, q3, q4⟩
  · exact Or.inl q
  · refine Or.inr ⟨g, cap, cur, q1, q2, ?_, q4⟩
    rw [Below.heap_setCell _ _ _ _ (show g ≠ p.block from by omega)]
    exact q3

/-- What l3Flat's own rows keep free of the nodes that it has gathered. -/
def SS (nb : Nat) (v1 v2 v3 : Value) (b : Nat) : Prop := nb + 1 ≤ b ∧ v1.ownBlock ≠ some b ∧ v2.ownBlock ≠ some b ∧ v3.ownBlock ≠ some b

/-- The state of l3Flat's loop. -/
structure FlSt (w wr : World) (nb : Nat) (tbox : Array Value) (ct : Int) (ka : Option Addr) (kn kc : Nat) (da : Option Addr) (dn dc : Nat) (ra : Option Addr) (rn rc : Nat) (Lk : List ByteArray) (Dk : List Int) (R : Nat → Tn) (xs : List Value) : Prop where
  tb : Bx wr w.heap.size 91 tbox
  nbx : Bx wr nb 168 #[.bool false, .slice ka kn kc, .slice da dn dc, .int .i64 ct]
  lt : w.heap.size < nb
  own1 : wr.ownsRow (nb + 1) 9 1 (.slice ka kn kc) kn (strL Lk)
  own2 : wr.ownsRow (nb + 1) 2 1 (.slice da dn dc) dn (intL Dk)
  own3 : wr.ownsRow (nb + 1) 168 4 (.slice ra rn rc) rn xs
  fl : FlAt (SS nb (.slice ka kn kc) (.slice da dn dc) (.slice ra rn rc)) wr rn R xs
  bel : Below w.heap.size w wr

section
variable {w wr w1 W2 w5 : World} {nb : Nat} {tbox : Array Value} {ct : Int} {ka : Option Addr} {kn kc : Nat} {da : Option Addr} {dn dc : Nat} {ra : Option Addr} {rn rc : Nat} {Lk : List ByteArray} {Dk : List Int} {R : Nat → Tn} {xs : List Value}

theorem FlSt.below (h : FlSt w wr nb tbox ct ka kn kc da dn dc ra rn rc Lk Dk R xs) (hb : Below wr.heap.size wr w1) : FlSt w w1 nb tbox ct ka kn kc da dn dc ra rn rc Lk Dk R xs :=
  ⟨h.tb.below hb, h.nbx.below hb, h.lt, own_below h.own1 hb, own_below h.own2 hb, own_below h.own3 hb, h.fl.mono hb.size (fun b hs hlt => ⟨hs, hb.block b hlt⟩), h.bel.trans (hb.mono h.bel.size)⟩

/-- The numbers grow. -/
theorem FlSt.growD (h : FlSt w wr nb tbox ct ka kn kc da dn dc ra rn rc Lk Dk R xs) (hg : wr.grownBy w5 (Value.slice da dn dc).ownBlock) {a' : Option Addr} {c' : Nat} {D' : List Int} (ho : w5.ownsRow (nb + 1) 2 1 (.slice a' (dn + 1) c') (dn + 1) (intL D')) (hat : (Value.slice a' (dn + 1) c').ownBlock = (Value.slice da dn dc).ownBlock ∨ (Value.slice a' (dn + 1) c').ownBlock = some wr.heap.size) :
    FlSt w (w5.setCell ⟨nb, 2, none⟩ (.slice a' (dn + 1) c')) nb tbox ct ka kn kc a' (dn + 1) c' ra rn rc Lk D' R xs := by
  have hl := own_lt h.own2
  have l1 := h.lt
  have l2 := h.nbx.lt
  have hz := hg.size
  refine ⟨(h.tb.grown hg (fun e => by have := hl _ e; omega)).other (by simp; omega) _, (h.nbx.grown hg (fun e => by have := hl _ e; omega)).set 2 _, h.lt, own_set (h.own1.kept hg ?_) _ _ (by simp), own_set ho _ _ (by simp), own_set (h.own3.kept hg ?_) _ _ (by simp), ?_, (h.bel.grown hg (by have := h.bel.size; omega) (fun g e => by have := hl g e; omega)).setCell (by simp; omega) _⟩
  · cases e : (Value.slice ka kn kc).ownBlock with
    | none => exact Or.inl rfl
    | some g => exact Or.inr (fun q => own_ne h.own1 h.own2 (by decide) g e q.symm)
  · cases e : (Value.slice ra rn rc).ownBlock with
    | none => exact Or.inl rfl
    | some g => exact Or.inr (fun q => own_ne h.own3 h.own2 (by decide) g e q.symm)
  · refine h.fl.mono (by simpa [World.setCell] using hz) (fun b hs hlt => ⟨⟨hs.1, hs.2.1, ?_, hs.2.2.2⟩, ?_⟩)
    · rcases hat with e | e
      · rw [e]; exact hs.2.2.1
      · rw [e]
        intro q
        injection q with q
        omega
    · rw [Below.heap_setCell _ _ _ _ (show b ≠ nb from by have := hs.1; omega)]
      exact hg.block b hlt (fun e => hs.2.2.1 e.symm)

/-- The keys grow. -/
theorem FlSt.growK (h : FlSt w wr nb tbox ct ka kn kc da dn dc ra rn rc Lk Dk R xs) (hg : wr.grownBy w5 (Value.slice ka kn kc).ownBlock) {a' : Option Addr} {c' : Nat} {L' : List ByteArray} (ho : w5.ownsRow (nb + 1) 9 1 (.slice a' (kn + 1) c') (kn + 1) (strL L')) (hat : (Value.slice a' (kn + 1) c').ownBlock = (Value.slice ka kn kc).ownBlock ∨ (Value.slice a' (kn + 1) c').ownBlock = some wr.heap.size) :
    FlSt w (w5.setCell ⟨nb, 1, none⟩ (.slice a' (kn + 1) c')) nb tbox ct a' (kn + 1) c' da dn dc ra rn rc L' Dk R xs := by
  have hl := own_lt h.own1
  have l1 := h.lt
  have l2 := h.nbx.lt
  have hz := hg.size
  refine ⟨(h.tb.grown hg (fun e => by have := hl _ e; omega)).other (by simp; omega) _, (h.nbx.grown hg (fun e => by have := hl _ e; omega)).set 1 _, h.lt, own_set ho _ _ (by simp), own_set (h.own2.kept hg ?_) _ _ (by simp), own_set (h.own3.kept hg ?_) _ _ (by simp), ?_, (h.bel.grown hg (by have := h.bel.size; omega) (fun g e => by have := hl g e; omega)).setCell (by simp; omega) _⟩
  · cases e : (Value.slice da dn dc).ownBlock with
    | none => exact Or.inl rfl
    | some g => exact Or.inr (fun q => own_ne h.own2 h.own1 (by decide) g e q.symm)
  · cases e : (Value.slice ra rn rc).ownBlock with
    | none => exact Or.inl rfl
    | some g => exact Or.inr (fun q => own_ne h.own3 h.own1 (by decide) g e q.symm)
  · refine h.fl.mono (by simpa [World.setCell] using hz) (fun b hs hlt => ⟨⟨hs.1, ?_, hs.2.2.1, hs.2.2.2⟩, ?_⟩)
    · rcases hat with e | e
      · rw [e]; exact hs.2.1
      · rw [e]
        intro q
        injection q with q
        omega
    · rw [Below.heap_setCell _ _ _ _ (show b ≠ nb from by have := hs.1; omega)]
      exact hg.block b hlt (fun e => hs.2.1 e.symm)

/-- The nodes behind grow. -/
theorem FlSt.growR (h : FlSt w wr nb tbox ct ka kn kc da dn dc ra rn rc Lk Dk R xs) (hb : Below wr.heap.size wr w1) (hg : w1.grownBy w5 (Value.slice ra rn rc).ownBlock) {a' : Option Addr} {c' m : Nat} {G : Nat → Tn} {ys : List Value} (hf : FlAt (fun b => wr.heap.size ≤ b) w1 m G ys) (ho : w5.ownsRow (nb + 1) 168 4 (.slice a' (rn + m) c') (rn + m) (xs ++ ys)) (hat : (Value.slice a' (rn + m) c').ownBlock = (Value.slice ra rn rc).ownBlock ∨ (Value.slice a' (rn + m) c').ownBlock = some w1.heap.size) :
    FlSt w w5 nb tbox ct ka kn kc da dn dc a' (rn + m) c' Lk Dk (catN rn R G) (xs ++ ys) := by
  have h1 := h.below hb
  have hl := own_lt h.own3
  have l1 := h.lt
  have l2 := h.nbx.lt
  have hz := hg.size
  have hz1 := hb.size
  have hkk := own_lt h.own1
  have hdd := own_lt h.own2
  refine ⟨h1.tb.grown hg (fun e => by have := hl _ e; omega), h1.nbx.grown hg (fun e => by have := hl _ e; omega), h.lt, h1.own1.kept hg ?_, h1.own2.kept hg ?_, ho, ?_, h1.bel.grown hg (by have := h1.bel.size; omega) (fun g e => by have := hl g e; omega)⟩
  · cases e : (Value.slice ka kn kc).ownBlock with
    | none => exact Or.inl rfl
    | some g => exact Or.inr (fun q => own_ne h.own1 h.own3 (by decide) g e q.symm)
  · cases e : (Value.slice da dn dc).ownBlock with
    | none => exact Or.inl rfl
    | some g => exact Or.inr (fun q => own_ne h.own2 h.own3 (by decide) g e q.symm)
  · refine FlAt.app (h1.fl.mono hz (fun b hs hlt => ⟨⟨hs.1, hs.2.1, hs.2.2.1, ?_⟩, hg.block b hlt (fun e => hs.2.2.2 e.symm)⟩)) (hf.mono hz (fun b hs hlt => ⟨⟨by omega, fun e => by have := hkk _ e; omega, fun e => by have := hdd _ e; omega, ?_⟩, hg.block b hlt (fun e => by have := hl _ e.symm; omega)⟩))
    · rcases hat with e | e
      · rw [e]; exact hs.2.2.2
      · rw [e]
        intro q
        injection q with q
        omega
    · rcases hat with e | e
      · rw [e]
        intro q
        have := hl _ q
        omega
      · rw [e]
        intro q
        injection q with q
        omega
end

/-- A row of nodes handed back in new memory, that tells a tree. -/
def RetFlat (w : World) (d : Nat) (t : Ro d) (a : Int) (e : Ending) (w' : World) : Prop :=
  ∃ ra rc G xs, e = .returned (.slice ra (nodesR d t) rc) ∧ Below w.heap.size w w' ∧ w'.ownsRow w.heap.size 168 4 (.slice ra (nodesR d t) rc) (nodesR d t) xs ∧ FlAt (fun b => w.heap.size ≤ b) w' (nodesR d t) G xs ∧ Tells G a d t 0
end Go.Proofs.YtcnollkkigiobaaGreat
