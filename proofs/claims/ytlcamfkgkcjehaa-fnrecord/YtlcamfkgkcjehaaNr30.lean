import Derived.Test.YtlcamfkgkcjehaaNr24
import Derived.Shelf.Abstract
import Derived.RangeFuncCalls
import Derived.RangeFuncLeaves
namespace Go.Proofs.Ytlcamfkgkcjehaa
open Go.RowKit Go.Deep
set_option linter.unusedVariables false
set_option maxRecDepth 100000

/-- A call of a function, as a step of a region that draws its order. -/
theorem step_tc {ops : Array Oper} {o : Oper} {a : Act} {w : World} {K : Act → World → Prop} {Q : Exit → Act → World → Prop} {E : Prop} (hgd : o.guard = none) (k : Nat) (i : Nat) (v : Value) (tys : Array TypeId)
    (ho : o.op = .call { callee := .value (.func k), args := #[.tmp i, .const v], argTypes := tys }) (u : Value) (hx : a.tmps[i]?.getD undef = u) (heg : ∀ args w, (callFunc k args).run Try.prog w = .ok (.enter k args) w)
    (h : Calls Try.prog k #[u, v] w fun e w' => ∃ r, e = .returned r ∧ K (a.put o.dst r) w') :
    if Region.wanted o (yielded ops a.tmps) = true then Oper.wp Try.prog o a w K Q else E := by
  have hw : Region.wanted o (yielded ops a.tmps) = true := by simp [Region.wanted, hgd]
  rw [if_pos hw]
  unfold Oper.wp
  simp [execOp, ho, resolve, invoke, hx, go_sem, heg]
  refine h.mono ?_
  rintro e w' ⟨u, rfl, hk⟩
  exact hk

theorem step_t {ops : Array Oper} {o : Oper} {a : Act} {w : World} {K : Act → World → Prop} {Q : Exit → Act → World → Prop} {E : Prop} (hgd : o.guard = none) (k : Nat) (i : Nat) (tys : Array TypeId)
    (ho : o.op = .call { callee := .value (.func k), args := #[.tmp i], argTypes := tys }) (u : Value) (hx : a.tmps[i]?.getD undef = u) (heg : ∀ args w, (callFunc k args).run Try.prog w = .ok (.enter k args) w)
    (h : Calls Try.prog k #[u] w fun e w' => ∃ r, e = .returned r ∧ K (a.put o.dst r) w') :
    if Region.wanted o (yielded ops a.tmps) = true then Oper.wp Try.prog o a w K Q else E := by
  have hw : Region.wanted o (yielded ops a.tmps) = true := by simp [Region.wanted, hgd]
  rw [if_pos hw]
  unfold Oper.wp
  simp [execOp, ho, resolve, invoke, hx, go_sem, heg]
  refine h.mono ?_
  rintro e w' ⟨u, rfl, hk⟩
  exact hk

theorem step_c {ops : Array Oper} {o : Oper} {a : Act} {w : World} {K : Act → World → Prop} {Q : Exit → Act → World → Prop} {E : Prop} (hgd : o.guard = none) (k : Nat) (v : Value) (tys : Array TypeId)
    (ho : o.op = .call { callee := .value (.func k), args := #[.const v], argTypes := tys })  (heg : ∀ args w, (callFunc k args).run Try.prog w = .ok (.enter k args) w)
    (h : Calls Try.prog k #[v] w fun e w' => ∃ r, e = .returned r ∧ K (a.put o.dst r) w') :
    if Region.wanted o (yielded ops a.tmps) = true then Oper.wp Try.prog o a w K Q else E := by
  have hw : Region.wanted o (yielded ops a.tmps) = true := by simp [Region.wanted, hgd]
  rw [if_pos hw]
  unfold Oper.wp
  simp [execOp, ho, resolve, invoke, go_sem, heg]
  refine h.mono ?_
  rintro e w' ⟨u, rfl, hk⟩
  exact hk

/-- Bytes that can be read, in blocks from B on. -/
def RdB (w : World) (B : Nat) (a : Option Addr) (n : Nat) (f : Nat → Int) : Prop :=
  n = 0 ∨ ∃ b o, a = some ⟨b, o, none⟩ ∧ B ≤ b ∧ ∀ i, i < n → w.cell? ⟨b, o + i, none⟩ = some (.int .u8 (f i))
def RdPB (w : World) (B : Nat) (p : Option Addr) (m : Nat) (S : Nat → Int) (L : Nat → Nat) (F : Nat → Nat → Int) : Prop :=
  m = 0 ∨ ∃ b o, p = some ⟨b, o, none⟩ ∧ B ≤ b ∧ ∀ i, i < m → w.cell? ⟨b, o + i * 2, none⟩ = some (.int .i64 (S i)) ∧ ∃ ad cp, w.cell? ⟨b, o + i * 2 + 1, none⟩ = some (.slice ad (L i) cp) ∧ RdB w B ad (L i) (F i)
theorem RdB.rd {w : World} {B : Nat} {a : Option Addr} {n : Nat} {f : Nat → Int} (h : RdB w B a n f) : Rd .u8 w a n f := by
  rcases h with h | ⟨b, o, e, _, hc⟩
  · exact Or.inl h
  · exact Or.inr ⟨b, o, e, hc⟩
theorem RdPB.rd {w : World} {B : Nat} {p : Option Addr} {m : Nat} {S : Nat → Int} {L : Nat → Nat} {F : Nat → Nat → Int} (h : RdPB w B p m S L F) : RdP w p m S L F := by
  rcases h with h | ⟨b, o, e, _, hc⟩
  · exact Or.inl h
  · refine Or.inr ⟨b, o, e, fun i hi => ?_⟩
    obtain ⟨h1, ad, cp, h2, h3⟩ := hc i hi
    exact ⟨h1, ad, cp, h2, h3.rd⟩
theorem cell_keep {w w' : World} {x : Addr} {v : Value} (h : w.cell? x = some v) (hk : w'.heap[x.block]? = w.heap[x.block]?) : w'.cell? x = some v := (World.cell?_of_block hk).trans h
theorem RdB.keep {w w' : World} {B : Nat} {a : Option Addr} {n : Nat} {f : Nat → Int} (h : RdB w B a n f) (hk : ∀ k, B ≤ k → k < w.heap.size → w'.heap[k]? = w.heap[k]?) : RdB w' B a n f := by
  rcases h with h | ⟨b, o, e, hB, hc⟩
  · exact Or.inl h
  · exact Or.inr ⟨b, o, e, hB, fun i hi => cell_keep (hc i hi) (hk b hB (World.block_lt_of_cell? _ _ (hc i hi)))⟩
theorem RdPB.keep {w w' : World} {B : Nat} {p : Option Addr} {m : Nat} {S : Nat → Int} {L : Nat → Nat} {F : Nat → Nat → Int} (h : RdPB w B p m S L F) (hk : ∀ k, B ≤ k → k < w.heap.size → w'.heap[k]? = w.heap[k]?) : RdPB w' B p m S L F := by
  rcases h with h | ⟨b, o, e, hB, hc⟩
  · exact Or.inl h
  · refine Or.inr ⟨b, o, e, hB, fun i hi => ?_⟩
    obtain ⟨h1, ad, cp, h2, h3⟩ := hc i hi
    exact ⟨cell_keep h1 (hk b hB (World.block_lt_of_cell? _ _ h1)), ad, cp, cell_keep h2 (hk b hB (World.block_lt_of_cell? _ _ h2)), h3.keep hk⟩
theorem OwnB.rdB {w : World} {B : Nat} {a : Option Addr} {n : Nat} {f : Nat → Int} (h : OwnB w B a n f) : RdB w B a n f := by
  rcases h with h | ⟨g, e, hg, hr⟩
  · exact Or.inl h
  · exact Or.inr ⟨g, 0, e, hg, fun i hi => by rw [Nat.zero_add]; exact hr.cell hi⟩
theorem Gath.rdPB {w : World} {B m q : Nat} {p : Option Addr} {S : Nat → Int} {L : Nat → Nat} {F : Nat → Nat → Int} {A : Nat → Option Addr} {C : Nat → Nat} (h : Gath w B (.slice p m q) m S L F A C) : RdPB w B p m S L F := by
  rcases h.row.2 with ⟨_, h0⟩ | ⟨g, cap, cur, hv, hg, hh, h1, h2, h3, h4⟩
  · exact Or.inl h0
  · injection hv with e1 e2 e3
    subst e1
    have key : ∀ x, x < m * 2 → w.cell? ⟨g, x, none⟩ = some (pendCell S A L C x) := fun x hx => by
      have e : cur[x]? = some (pendCell S A L C x) := by
        have e0 : cur[x]? = (cur.toList.take (m * 2))[x]? := by rw [List.getElem?_take, if_pos hx]; simp
        rw [e0, h4]
        unfold pendRow
        rw [List.getElem?_map, List.getElem?_range hx]
        rfl
      simp [World.cell?, hh, e]
    refine Or.inr ⟨g, 0, rfl, hg, fun i hi => ⟨?_, A i, C i, ?_, (h.each i hi).rdB⟩⟩
    · rw [Nat.zero_add, key (i * 2) (by omega)]
      unfold pendCell
      rw [if_pos (by omega), show i * 2 / 2 = i by omega]
    · rw [Nat.zero_add, key (i * 2 + 1) (by omega)]
      unfold pendCell
      rw [if_neg (by omega), show (i * 2 + 1) / 2 = i by omega]

/-- A disk that can be read, all of it in blocks from B on. -/
def RdDk (w : World) (B : Nat) (v : Value) : Prop :=
  ∃ (a p : Option Addr) (n c m q : Nat) (d S : Nat → Int) (L : Nat → Nat) (F : Nat → Nat → Int) (fuel : Int) (dead : Bool), v = .agg #[.slice a n c, .slice p m q, .int .i64 fuel, .bool dead] ∧ RdB w B a n d ∧ RdPB w B p m S L F ∧ n ≤ 1048576 ∧ n ≤ c ∧ c ≤ 9223372036854775807 ∧ m ≤ 4000 ∧ (∀ i, i < m → L i ≤ 1048576) ∧ (∀ j, 0 ≤ d j ∧ d j < 256)
theorem RdDk.keep {w w' : World} {B : Nat} {v : Value} (h : RdDk w B v) (hk : ∀ k, B ≤ k → k < w.heap.size → w'.heap[k]? = w.heap[k]?) : RdDk w' B v := by
  obtain ⟨a, p, n, c, m, q, d, S, L, F, fuel, dead, e, h1, h2, r⟩ := h
  exact ⟨a, p, n, c, m, q, d, S, L, F, fuel, dead, e, h1.keep hk, h2.keep hk, r⟩
theorem RdDk.below {w w' : World} {B : Nat} {v : Value} (h : RdDk w B v) (hb : Below w.heap.size w w') : RdDk w' B v := h.keep (fun k _ hl => hb.block k hl)

section
variable {w : World} {B n c m q : Nat} {a p : Option Addr} {d S : Nat → Int} {L : Nat → Nat} {F : Nat → Nat → Int} {A : Nat → Option Addr}
theorem OwnQ.rdDk (h : OwnQ w B a n c d p m q S L F A) (hn : n ≤ 1048576) (hm : m ≤ 4000) (hL : ∀ i, i < m → L i ≤ 1048576) (fuel : Int) (dead : Bool) (hrg : ∀ j, 0 ≤ d j ∧ d j < 256) : RdDk w B (.agg #[.slice a n c, .slice p m q, .int .i64 fuel, .bool dead]) := by
  obtain ⟨C, hc⟩ := h.cache
  exact ⟨a, p, n, c, m, q, d, S, L, F, fuel, dead, rfl, h.data.rdB, hc.rdPB, hn, h.caps.1, h.caps.2, hm, hL, hrg⟩
/-- Its first bytes alone. -/
theorem OwnQ.rdCut (h : OwnQ w B a n c d p m q S L F A) (hn : n ≤ 1048576) (hm : m ≤ 4000) (hL : ∀ i, i < m → L i ≤ 1048576) (l : Nat) (hl : l ≤ n) (fuel : Int) (dead : Bool) (hrg : ∀ j, 0 ≤ d j ∧ d j < 256) : RdDk w B (.agg #[.slice a l c, .slice p m q, .int .i64 fuel, .bool dead]) := by
  obtain ⟨C, hc⟩ := h.cache
  refine ⟨a, p, l, c, m, q, d, S, L, F, fuel, dead, rfl, ?_, hc.rdPB, by omega, by have := h.caps.1; omega, h.caps.2, hm, hL, hrg⟩
  rcases h.data.rdB with h0 | ⟨b, o, e, hb, hc⟩
  · exact Or.inl (by omega)
  · exact Or.inr ⟨b, o, e, hb, fun i hi => hc i (by omega)⟩
/-- All but its first byte. -/
theorem OwnQ.rdTail {ga : Nat} (h : OwnQ w B (some ⟨ga, 0, none⟩) n c d p m q S L F A) (h2 : 2 ≤ n) (hn : n ≤ 1048576) (hm : m ≤ 4000) (hL : ∀ i, i < m → L i ≤ 1048576) (fuel : Int) (dead : Bool) (hrg : ∀ j, 0 ≤ d j ∧ d j < 256) : RdDk w B (.agg #[.slice (some ⟨ga, 1, none⟩) (n - 1) (c - 1), .slice p m q, .int .i64 fuel, .bool dead]) := by
  have hc1 := h.caps.1
  have hc2 := h.caps.2
  obtain ⟨C, hc⟩ := h.cache
  refine ⟨_, p, n - 1, c - 1, m, q, fun i => d (1 + i), S, L, F, fuel, dead, rfl, ?_, hc.rdPB, by omega, by omega, by omega, hm, hL, fun j => hrg (1 + j)⟩
  rcases h.data.rdB with h0 | ⟨b, o, e, hb, hc⟩
  · omega
  · injection e with e
    injection e with e1 e2
    subst e1 e2
    refine Or.inr ⟨ga, 1, rfl, hb, fun i hi => ?_⟩
    have := hc (1 + i) (by omega)
    rwa [Nat.zero_add] at this
end

/-- Every block of what was there but the cursor and rows of writes is as it was. -/
def Keep (g : Nat) (w W : World) : Prop := ∀ k, k < w.heap.size → k ≠ g → (∀ cur fr, w.heap[k]? ≠ some (.cells cur 49 fr)) → W.heap[k]? = w.heap[k]?
structure BelK (B g : Nat) (w W : World) : Prop where
  c : BelC B g w W
  k : Keep g w W
theorem owns_cells {w : World} {B k : Nat} {e : TypeId} {z : Nat} {v : Value} {xs : List Value} (h : w.ownsRow B e z v k xs) : ∀ g, v.ownBlock = some g → ∃ cur fr, w.heap[g]? = some (.cells cur e fr) := by
  intro g hg
  rcases h.2 with ⟨rfl, _⟩ | ⟨g', cap, cur, rfl, _, hh, _⟩
  · simp [Value.ownBlock] at hg
  · simp [Value.ownBlock] at hg
    subst hg
    exact ⟨cur, _, hh⟩

/-- l1SpoilDisk under way. -/
structure SpSt (w W : World) (B g : Nat) (b : Option Addr) (n c : Nat) (f : Nat → Int) (v0 v1 : Value) (fuel : Int) (dead : Bool) : Prop where
  box : DkRow W w.heap.size v0 v1 fuel dead
  res : DkRow W (w.heap.size + 1) (.slice none 0 0) (.slice none 0 0) 0 false
  cur : DrwL W B g b n c f
  bel : BelK B g w W

section
variable {w W W' : World} {B g o : Nat} {b : Option Addr} {n c : Nat} {f : Nat → Int} {v0 v1 : Value} {fuel : Int} {dead : Bool}
theorem SpSt.cur' (h : SpSt w W B g b n c f v0 v1 fuel dead) (hB : B ≤ w.heap.size) (ho : OnlyAt (some ⟨g, o, none⟩) W W') (hd : Drw W' g b n c f) : SpSt w W' B g b n c f v0 v1 fuel dead := by
  have hg := h.cur.cur
  refine ⟨rowIn.of_block h.box (ho.block _ (fun x e => by injection e with e; subst e; show g ≠ w.heap.size; omega)), rowIn.of_block h.res (ho.block _ (fun x e => by injection e with e; subst e; show g ≠ w.heap.size + 1; omega)), ⟨hd, hg, h.cur.bytes⟩, ⟨h.bel.c.trans (BelC.ofOnly ho), fun k hk hx hp => (ho.block k (fun x e => by injection e with e; subst e; exact fun q => hx q.symm)).trans (h.bel.k k hk hx hp)⟩⟩
theorem SpSt.below (h : SpSt w W B g b n c f v0 v1 fuel dead) (hB : B ≤ w.heap.size) (hb : Below W.heap.size W W') : SpSt w W' B g b n c f v0 v1 fuel dead := by
  have h1 := rowIn.lt h.res
  exact ⟨h.box.below hb, h.res.below hb, h.cur.below (hb.mono (by omega)), ⟨h.bel.c.trans (BelC.ofBelow hb (by omega)), fun k hk hx hp => (hb.block k (by have := h.bel.c.size; omega)).trans (h.bel.k k hk hx hp)⟩⟩
theorem SpSt.grow {row : Option Nat} (h : SpSt w W B g b n c f v0 v1 fuel dead) (hB : B ≤ w.heap.size) (hg : W.grownBy W' row) (hr : ∀ k, row = some k → B ≤ k ∧ k ≠ w.heap.size ∧ k ≠ w.heap.size + 1) (hp : ∀ k, row = some k → ∃ cur fr, W.heap[k]? = some (.cells cur 49 fr)) : SpSt w W' B g b n c f v0 v1 fuel dead := by
  have h1 := rowIn.lt h.res
  have hb : Below B W W' := ⟨hg.os, hg.tape, hg.output, hg.size, fun k hk => hg.block k (by omega) (fun e => by have := (hr k e.symm).1; omega)⟩
  exact ⟨rowIn.of_block h.box (hg.block _ (by omega) (fun e => (hr _ e.symm).2.1 rfl)), rowIn.of_block h.res (hg.block _ (by omega) (fun e => (hr _ e.symm).2.2 rfl)), h.cur.below hb, ⟨h.bel.c.trans (BelC.ofBelow hb (Nat.le_refl _)), fun k hk hx hn => (hg.block k (by have := h.bel.c.size; omega) (fun e => by obtain ⟨cur, fr, q⟩ := hp k e.symm; exact hn cur fr ((h.bel.k k hk hx hn).symm.trans q))).trans (h.bel.k k hk hx hn)⟩⟩
theorem SpSt.setAt (h : SpSt w W B g b n c f v0 v1 fuel dead) (hB : B ≤ w.heap.size) (i : Nat) (v : Value) {u0 u1 : Value} {fuel' : Int} {dead' : Bool} (hr : DkRow (W.setCell ⟨w.heap.size, i, none⟩ v) w.heap.size u0 u1 fuel' dead') : SpSt w (W.setCell ⟨w.heap.size, i, none⟩ v) B g b n c f u0 u1 fuel' dead' :=
  ⟨hr, rowIn.of_block h.res (Below.heap_setCell _ _ _ _ (by show w.heap.size + 1 ≠ w.heap.size; omega)), h.cur.below ((Below.refl _ _).setCell (by show B ≤ w.heap.size; omega) _), ⟨h.bel.c.setCell (by show B ≤ w.heap.size; omega) _, fun k hk hx hp => (Below.heap_setCell _ _ _ _ (by show k ≠ w.heap.size; omega)).trans (h.bel.k k hk hx hp)⟩⟩
theorem dk_set0 (h : DkRow W o v0 v1 fuel dead) (u : Value) : DkRow (W.setCell ⟨o, 0, none⟩ u) o u v1 fuel dead := h.setData u
theorem dk_set2 (h : DkRow W o v0 v1 fuel dead) (x : Int) : DkRow (W.setCell ⟨o, 2, none⟩ (.int .i64 x)) o v0 v1 x dead :=
  (rowIn.set h 2 _).congr (fun i hi => by match i, hi with
    | 0, _ => rfl
    | 1, _ => rfl
    | 2, _ => rfl
    | 3, _ => rfl)
/-- The end: the box is copied into the answer. -/
theorem SpSt.fin (h : SpSt w W B g b n c f v0 v1 fuel dead) (hB : B ≤ w.heap.size) : Drw (set4 W (w.heap.size + 1) v0 v1 fuel dead) g b n c f ∧ BelK B g w (set4 W (w.heap.size + 1) v0 v1 fuel dead) ∧ OnlyAt (some ⟨w.heap.size + 1, 0, none⟩) W (set4 W (w.heap.size + 1) v0 v1 fuel dead) := by
  unfold set4
  refine ⟨(h.cur.below (((((Below.refl _ _).setCell (by show B ≤ w.heap.size + 1; omega) _).setCell (by show B ≤ w.heap.size + 1; omega) _).setCell (by show B ≤ w.heap.size + 1; omega) _).setCell (by show B ≤ w.heap.size + 1; omega) _)).drw, ⟨((((h.bel.c.setCell (by show B ≤ w.heap.size + 1; omega) _).setCell (by show B ≤ w.heap.size + 1; omega) _).setCell (by show B ≤ w.heap.size + 1; omega) _).setCell (by show B ≤ w.heap.size + 1; omega) _), fun k hk hx hp => (Below.heap_setCell _ _ _ _ (by show k ≠ w.heap.size + 1; omega)).trans ((Below.heap_setCell _ _ _ _ (by show k ≠ w.heap.size + 1; omega)).trans ((Below.heap_setCell _ _ _ _ (by show k ≠ w.heap.size + 1; omega)).trans ((Below.heap_setCell _ _ _ _ (by show k ≠ w.heap.size + 1; omega)).trans (h.bel.k k hk hx hp))))⟩, ((((OnlyAt.refl _ _).setCell 0 _).setCell 1 _).setCell 2 _).setCell 3 _⟩
end

/-- What l1SpoilDisk hands back. -/
def RetSp (w : World) (B g : Nat) (b : Option Addr) (n c : Nat) (f : Nat → Int) (e : Ending) (w' : World) : Prop :=
  ∃ v, e = .returned v ∧ RdDk w' B v ∧ Drw w' g b n c f ∧ BelK B g w w'
end Go.Proofs.Ytlcamfkgkcjehaa
