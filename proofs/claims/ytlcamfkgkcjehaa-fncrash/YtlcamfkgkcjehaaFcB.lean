import Derived.Test.YtlcamfkgkcjehaaFcA
import Derived.Shelf.Abstract
import Derived.RangeFuncCalls
import Derived.RangeFuncLeaves
import Derived.Deep.CutRange
import Derived.Deep.CutBlock
namespace Go.Proofs.Ytlcamfkgkcjehaa
open Go.RowKit Go.Deep
set_option linter.unusedVariables false
set_option maxRecDepth 100000

/-- A call of a function, as a step of a region that draws its order. -/
theorem step_tc {ops : Array Oper} {o : Oper} {a : Act} {w : World} {K : Act → World → Prop} {Q : Exit → Act → World → Prop} {E : Prop} (hgd : o.guard = none) (k : Nat) (i : Nat) (v : Value) (tys : Array TypeId)
    (ho : o.op = .call { callee := .value (.func k), args := #[.tmp i, .const v], argTypes := tys }) (u : Value) (hx : a.tmps[i]?.getD undef = u) (heg : ∀ args w, (callFunc k args).run Try.prog w = .ok (.enter k args) w)
    (h : Calls Try.prog k #[u, v] w fun e w' => ∃ r, e = .returned r ∧ K (a.put o.dst r) w') :
    if Region.wanted o (yielded ops a.tmps) = true then Oper.wp Try.prog o a w K Q else E := by
  have hw : Region.wanted o (yielded ops a.tmps) = true := by simp [Region.wanted, hgd]
  rw [if_pos hw]
  unfold Oper.wp
  simp [execOp, ho, resolve, invoke, hx, go_sem, heg]
  refine h.mono ?_
  rintro e w' ⟨u, rfl, hk⟩
  exact hk

theorem step_t {ops : Array Oper} {o : Oper} {a : Act} {w : World} {K : Act → World → Prop} {Q : Exit → Act → World → Prop} {E : Prop} (hgd : o.guard = none) (k : Nat) (i : Nat) (tys : Array TypeId)
    (ho : o.op = .call { callee := .value (.func k), args := #[.tmp i], argTypes := tys }) (u : Value) (hx : a.tmps[i]?.getD undef = u) (heg : ∀ args w, (callFunc k args).run Try.prog w = .ok (.enter k args) w)
    (h : Calls Try.prog k #[u] w fun e w' => ∃ r, e = .returned r ∧ K (a.put o.dst r) w') :
    if Region.wanted o (yielded ops a.tmps) = true then Oper.wp Try.prog o a w K Q else E := by
  have hw : Region.wanted o (yielded ops a.tmps) = true := by simp [Region.wanted, hgd]
  rw [if_pos hw]
  unfold Oper.wp
  simp [execOp, ho, resolve, invoke, hx, go_sem, heg]
  refine h.mono ?_
  rintro e w' ⟨u, rfl, hk⟩
  exact hk

theorem step_c {ops : Array Oper} {o : Oper} {a : Act} {w : World} {K : Act → World → Prop} {Q : Exit → Act → World → Prop} {E : Prop} (hgd : o.guard = none) (k : Nat) (v : Value) (tys : Array TypeId)
    (ho : o.op = .call { callee := .value (.func k), args := #[.const v], argTypes := tys })  (heg : ∀ args w, (callFunc k args).run Try.prog w = .ok (.enter k args) w)
    (h : Calls Try.prog k #[v] w fun e w' => ∃ r, e = .returned r ∧ K (a.put o.dst r) w') :
    if Region.wanted o (yielded ops a.tmps) = true then Oper.wp Try.prog o a w K Q else E := by
  have hw : Region.wanted o (yielded ops a.tmps) = true := by simp [Region.wanted, hgd]
  rw [if_pos hw]
  unfold Oper.wp
  simp [execOp, ho, resolve, invoke, go_sem, heg]
  refine h.mono ?_
  rintro e w' ⟨u, rfl, hk⟩
  exact hk

/-- Bytes that can be read, in blocks from B on. -/
def RdB (w : World) (B : Nat) (a : Option Addr) (n : Nat) (f : Nat → Int) : Prop :=
  n = 0 ∨ ∃ b o, a = some ⟨b, o, none⟩ ∧ B ≤ b ∧ ∀ i, i < n → w.cell? ⟨b, o + i, none⟩ = some (.int .u8 (f i))
def RdPB (w : World) (B : Nat) (p : Option Addr) (m : Nat) (S : Nat → Int) (L : Nat → Nat) (F : Nat → Nat → Int) : Prop :=
  m = 0 ∨ ∃ b o, p = some ⟨b, o, none⟩ ∧ B ≤ b ∧ ∀ i, i < m → w.cell? ⟨b, o + i * 2, none⟩ = some (.int .i64 (S i)) ∧ ∃ ad cp, w.cell? ⟨b, o + i * 2 + 1, none⟩ = some (.slice ad (L i) cp) ∧ RdB w B ad (L i) (F i)
theorem RdB.rd {w : World} {B : Nat} {a : Option Addr} {n : Nat} {f : Nat → Int} (h : RdB w B a n f) : Rd .u8 w a n f := by
  rcases h with h | ⟨b, o, e, _, hc⟩
  · exact Or.inl h
  · exact Or.inr ⟨b, o, e, hc⟩
theorem RdPB.rd {w : World} {B : Nat} {p : Option Addr} {m : Nat} {S : Nat → Int} {L : Nat → Nat} {F : Nat → Nat → Int} (h : RdPB w B p m S L F) : RdP w p m S L F := by
  rcases h with h | ⟨b, o, e, _, hc⟩
  · exact Or.inl h
  · refine Or.inr ⟨b, o, e, fun i hi => ?_⟩
    obtain ⟨h1, ad, cp, h2, h3⟩ := hc i hi
    exact ⟨h1, ad, cp, h2, h3.rd⟩
theorem cell_keep {w w' : World} {x : Addr} {v : Value} (h : w.cell? x = some v) (hk : w'.heap[x.block]? = w.heap[x.block]?) : w'.cell? x = some v := (World.cell?_of_block hk).trans h
theorem RdB.keep {w w' : World} {B : Nat} {a : Option Addr} {n : Nat} {f : Nat → Int} (h : RdB w B a n f) (hk : ∀ k, B ≤ k → k < w.heap.size → w'.heap[k]? = w.heap[k]?) : RdB w' B a n f := by
  rcases h with h | ⟨b, o, e, hB, hc⟩
  · exact Or.inl h
  · exact Or.inr ⟨b, o, e, hB, fun i hi => cell_keep (hc i hi) (hk b hB (World.block_lt_of_cell? _ _ (hc i hi)))⟩
theorem RdPB.keep {w w' : World} {B : Nat} {p : Option Addr} {m : Nat} {S : Nat → Int} {L : Nat → Nat} {F : Nat → Nat → Int} (h : RdPB w B p m S L F) (hk : ∀ k, B ≤ k → k < w.heap.size → w'.heap[k]? = w.heap[k]?) : RdPB w' B p m S L F := by
  rcases h with h | ⟨b, o, e, hB, hc⟩
  · exact Or.inl h
  · refine Or.inr ⟨b, o, e, hB, fun i hi => ?_⟩
    obtain ⟨h1, ad, cp, h2, h3⟩ := hc i hi
    exact ⟨cell_keep h1 (hk b hB (World.block_lt_of_cell? _ _ h1)), ad, cp, cell_keep h2 (hk b hB (World.block_lt_of_cell? _ _ h2)), h3.keep hk⟩
theorem OwnB.rdB {w : World} {B : Nat} {a : Option Addr} {n : Nat} {f : Nat → Int} (h : OwnB w B a n f) : RdB w B a n f := by
  rcases h with h | ⟨g, e, hg, hr⟩
  · exact Or.inl h
  · exact Or.inr ⟨g, 0, e, hg, fun i hi => by rw [Nat.zero_add]; exact hr.cell hi⟩
theorem Gath.rdPB {w : World} {B m q : Nat} {p : Option Addr} {S : Nat → Int} {L : Nat → Nat} {F : Nat → Nat → Int} {A : Nat → Option Addr} {C : Nat → Nat} (h : Gath w B (.slice p m q) m S L F A C) : RdPB w B p m S L F := by
  rcases h.row.2 with ⟨_, h0⟩ | ⟨g, cap, cur, hv, hg, hh, h1, h2, h3, h4⟩
  · exact Or.inl h0
  · injection hv with e1 e2 e3
    subst e1
    have key : ∀ x, x < m * 2 → w.cell? ⟨g, x, none⟩ = some (pendCell S A L C x) := fun x hx => by
      have e : cur[x]? = some (pendCell S A L C x) := by
        have e0 : cur[x]? = (cur.toList.take (m * 2))[x]? := by rw [List.getElem?_take, if_pos hx]; simp
        rw [e0, h4]
        unfold pendRow
        rw [List.getElem?_map, List.getElem?_range hx]
        rfl
      simp [World.cell?, hh, e]
    refine Or.inr ⟨g, 0, rfl, hg, fun i hi => ⟨?_, A i, C i, ?_, (h.each i hi).rdB⟩⟩
    · rw [Nat.zero_add, key (i * 2) (by omega)]
      unfold pendCell
      rw [if_pos (by omega), show i * 2 / 2 = i by omega]
    · rw [Nat.zero_add, key (i * 2 + 1) (by omega)]
      unfold pendCell
      rw [if_neg (by omega), show (i * 2 + 1) / 2 = i by omega]

/-- A disk that can be read, all of it in blocks from B on. -/
def RdDk (w : World) (B : Nat) (v : Value) : Prop :=
  ∃ (a p : Option Addr) (n c m q : Nat) (d S : Nat → Int) (L : Nat → Nat) (F : Nat → Nat → Int) (fuel : Int) (dead : Bool), v = .agg #[.slice a n c, .slice p m q, .int .i64 fuel, .bool dead] ∧ RdB w B a n d ∧ RdPB w B p m S L F ∧ n ≤ 1048576 ∧ n ≤ c ∧ c ≤ 9223372036854775807 ∧ m ≤ 4000 ∧ (∀ i, i < m → L i ≤ 1048576)
theorem RdDk.keep {w w' : World} {B : Nat} {v : Value} (h : RdDk w B v) (hk : ∀ k, B ≤ k → k < w.heap.size → w'.heap[k]? = w.heap[k]?) : RdDk w' B v := by
  obtain ⟨a, p, n, c, m, q, d, S, L, F, fuel, dead, e, h1, h2, r⟩ := h
  exact ⟨a, p, n, c, m, q, d, S, L, F, fuel, dead, e, h1.keep hk, h2.keep hk, r⟩
theorem RdDk.below {w w' : World} {B : Nat} {v : Value} (h : RdDk w B v) (hb : Below w.heap.size w w') : RdDk w' B v := h.keep (fun k _ hl => hb.block k hl)

section
variable {w : World} {B n c m q : Nat} {a p : Option Addr} {d S : Nat → Int} {L : Nat → Nat} {F : Nat → Nat → Int} {A : Nat → Option Addr}
theorem OwnQ.rdDk (h : OwnQ w B a n c d p m q S L F A) (hn : n ≤ 1048576) (hm : m ≤ 4000) (hL : ∀ i, i < m → L i ≤ 1048576) (fuel : Int) (dead : Bool) : RdDk w B (.agg #[.slice a n c, .slice p m q, .int .i64 fuel, .bool dead]) := by
  obtain ⟨C, hc⟩ := h.cache
  exact ⟨a, p, n, c, m, q, d, S, L, F, fuel, dead, rfl, h.data.rdB, hc.rdPB, hn, h.caps.1, h.caps.2, hm, hL⟩
/-- Its first bytes alone. -/
theorem OwnQ.rdCut (h : OwnQ w B a n c d p m q S L F A) (hn : n ≤ 1048576) (hm : m ≤ 4000) (hL : ∀ i, i < m → L i ≤ 1048576) (l : Nat) (hl : l ≤ n) (fuel : Int) (dead : Bool) : RdDk w B (.agg #[.slice a l c, .slice p m q, .int .i64 fuel, .bool dead]) := by
  obtain ⟨C, hc⟩ := h.cache
  refine ⟨a, p, l, c, m, q, d, S, L, F, fuel, dead, rfl, ?_, hc.rdPB, by omega, by have := h.caps.1; omega, h.caps.2, hm, hL⟩
  rcases h.data.rdB with h0 | ⟨b, o, e, hb, hc⟩
  · exact Or.inl (by omega)
  · exact Or.inr ⟨b, o, e, hb, fun i hi => hc i (by omega)⟩
/-- All but its first byte. -/
theorem OwnQ.rdTail {ga : Nat} (h : OwnQ w B (some ⟨ga, 0, none⟩) n c d p m q S L F A) (h2 : 2 ≤ n) (hn : n ≤ 1048576) (hm : m ≤ 4000) (hL : ∀ i, i < m → L i ≤ 1048576) (fuel : Int) (dead : Bool) : RdDk w B (.agg #[.slice (some ⟨ga, 1, none⟩) (n - 1) (c - 1), .slice p m q, .int .i64 fuel, .bool dead]) := by
  have hc1 := h.caps.1
  have hc2 := h.caps.2
  obtain ⟨C, hc⟩ := h.cache
  refine ⟨_, p, n - 1, c - 1, m, q, fun i => d (1 + i), S, L, F, fuel, dead, rfl, ?_, hc.rdPB, by omega, by omega, by omega, hm, hL⟩
  rcases h.data.rdB with h0 | ⟨b, o, e, hb, hc⟩
  · omega
  · injection e with e
    injection e with e1 e2
    subst e1 e2
    refine Or.inr ⟨ga, 1, rfl, hb, fun i hi => ?_⟩
    have := hc (1 + i) (by omega)
    rwa [Nat.zero_add] at this
end

/-- l1SpoilDisk under way. -/
structure SpSt (w W : World) (B g : Nat) (b : Option Addr) (n c : Nat) (f : Nat → Int) (v0 v1 : Value) (fuel : Int) (dead : Bool) : Prop where
  box : DkRow W w.heap.size v0 v1 fuel dead
  res : DkRow W (w.heap.size + 1) (.slice none 0 0) (.slice none 0 0) 0 false
  cur : DrwL W B g b n c f
  bel : BelC B g w W

section
variable {w W W' : World} {B g o : Nat} {b : Option Addr} {n c : Nat} {f : Nat → Int} {v0 v1 : Value} {fuel : Int} {dead : Bool}
theorem SpSt.cur' (h : SpSt w W B g b n c f v0 v1 fuel dead) (hB : B ≤ w.heap.size) (ho : OnlyAt (some ⟨g, o, none⟩) W W') (hd : Drw W' g b n c f) : SpSt w W' B g b n c f v0 v1 fuel dead := by
  have hg := h.cur.cur
  refine ⟨rowIn.of_block h.box (ho.block _ (fun x e => by injection e with e; subst e; show g ≠ w.heap.size; omega)), rowIn.of_block h.res (ho.block _ (fun x e => by injection e with e; subst e; show g ≠ w.heap.size + 1; omega)), ⟨hd, hg, h.cur.bytes⟩, h.bel.trans (BelC.ofOnly ho)⟩
theorem SpSt.below (h : SpSt w W B g b n c f v0 v1 fuel dead) (hB : B ≤ w.heap.size) (hb : Below W.heap.size W W') : SpSt w W' B g b n c f v0 v1 fuel dead := by
  have h1 := rowIn.lt h.res
  exact ⟨h.box.below hb, h.res.below hb, h.cur.below (hb.mono (by omega)), h.bel.trans (BelC.ofBelow hb (by omega))⟩
theorem SpSt.grow {row : Option Nat} (h : SpSt w W B g b n c f v0 v1 fuel dead) (hB : B ≤ w.heap.size) (hg : W.grownBy W' row) (hr : ∀ k, row = some k → B ≤ k ∧ k ≠ w.heap.size ∧ k ≠ w.heap.size + 1) : SpSt w W' B g b n c f v0 v1 fuel dead := by
  have h1 := rowIn.lt h.res
  have hb : Below B W W' := ⟨hg.os, hg.tape, hg.output, hg.size, fun k hk => hg.block k (by omega) (fun e => by have := (hr k e.symm).1; omega)⟩
  exact ⟨rowIn.of_block h.box (hg.block _ (by omega) (fun e => (hr _ e.symm).2.1 rfl)), rowIn.of_block h.res (hg.block _ (by omega) (fun e => (hr _ e.symm).2.2 rfl)), h.cur.below hb, h.bel.trans (BelC.ofBelow hb (Nat.le_refl _))⟩
theorem SpSt.setAt (h : SpSt w W B g b n c f v0 v1 fuel dead) (hB : B ≤ w.heap.size) (i : Nat) (v : Value) {u0 u1 : Value} {fuel' : Int} {dead' : Bool} (hr : DkRow (W.setCell ⟨w.heap.size, i, none⟩ v) w.heap.size u0 u1 fuel' dead') : SpSt w (W.setCell ⟨w.heap.size, i, none⟩ v) B g b n c f u0 u1 fuel' dead' :=
  ⟨hr, rowIn.of_block h.res (Below.heap_setCell _ _ _ _ (by show w.heap.size + 1 ≠ w.heap.size; omega)), h.cur.below ((Below.refl _ _).setCell (by show B ≤ w.heap.size; omega) _), h.bel.setCell (by show B ≤ w.heap.size; omega) _⟩
theorem dk_set0 (h : DkRow W o v0 v1 fuel dead) (u : Value) : DkRow (W.setCell ⟨o, 0, none⟩ u) o u v1 fuel dead := h.setData u
theorem dk_set2 (h : DkRow W o v0 v1 fuel dead) (x : Int) : DkRow (W.setCell ⟨o, 2, none⟩ (.int .i64 x)) o v0 v1 x dead :=
  (rowIn.set h 2 _).congr (fun i hi => by match i, hi with
    | 0, _ => rfl
    | 1, _ => rfl
    | 2, _ => rfl
    | 3, _ => rfl)
/-- The end: the box is copied into the answer. -/
theorem SpSt.fin (h : SpSt w W B g b n c f v0 v1 fuel dead) (hB : B ≤ w.heap.size) : Drw (set4 W (w.heap.size + 1) v0 v1 fuel dead) g b n c f ∧ BelC B g w (set4 W (w.heap.size + 1) v0 v1 fuel dead) ∧ OnlyAt (some ⟨w.heap.size + 1, 0, none⟩) W (set4 W (w.heap.size + 1) v0 v1 fuel dead) := by
  unfold set4
  refine ⟨(h.cur.below (((((Below.refl _ _).setCell (by show B ≤ w.heap.size + 1; omega) _).setCell (by show B ≤ w.heap.size + 1; omega) _).setCell (by show B ≤ w.heap.size + 1; omega) _).setCell (by show B ≤ w.heap.size + 1; omega) _)).drw, ((((h.bel.setCell (by show B ≤ w.heap.size + 1; omega) _).setCell (by show B ≤ w.heap.size + 1; omega) _).setCell (by show B ≤ w.heap.size + 1; omega) _).setCell (by show B ≤ w.heap.size + 1; omega) _), ((((OnlyAt.refl _ _).setCell 0 _).setCell 1 _).setCell 2 _).setCell 3 _⟩
end

/-- What l1SpoilDisk hands back. -/
def RetSp (w : World) (B g : Nat) (b : Option Addr) (n c : Nat) (f : Nat → Int) (e : Ending) (w' : World) : Prop :=
  ∃ v, e = .returned v ∧ RdDk w' B v ∧ Drw w' g b n c f ∧ BelC B g w w'
end Go.Proofs.Ytlcamfkgkcjehaa

namespace Go.Proofs.Ytlcamfkgkcjehaa
open Go.RowKit Go.Deep Go.Proofs
set_option linter.unusedVariables false
set_option maxRecDepth 100000

theorem OwnB.grownPend {w w' : World} {B B2 n m : Nat} {a : Option Addr} {f : Nat → Int} {v : Value} {xs : List Value} (h : OwnB w B a n f) (hr : w.ownsRow B2 49 2 v m xs) (hg : w.grownBy w' v.ownBlock) : OwnB w' B a n f := by
  rcases h with h0 | ⟨g, rfl, hg', hr'⟩
  · exact Or.inl h0
  · refine Or.inr ⟨g, rfl, hg', hr'.of_block (hg.block g hr'.lt (fun e => ?_))⟩
    rcases hr.2 with ⟨hv, _⟩ | ⟨g2, cap, cur, hv, _, hh, _⟩
    · rw [hv] at e; simp [Value.ownBlock] at e
    · rw [hv] at e
      simp [Value.ownBlock] at e
      subst e
      obtain ⟨c', hc', _⟩ := hr'
      rw [hh] at hc'
      injection hc' with e1
      injection e1 with _ e2 _
      revert e2
      decide

theorem rdDk_of {W : World} {B nn c' m q : Nat} {a p : Option Addr} {d S : Nat → Int} {L : Nat → Nat} {F : Nat → Nat → Int} {A : Nat → Option Addr} {C : Nat → Nat} (hd : OwnB W B a nn d) (hcap : nn ≤ c' ∧ c' ≤ 9223372036854775807) (hG : Gath W B (.slice p m q) m S L F A C) (hn : nn ≤ 1048576) (hm : m ≤ 4000) (hL : ∀ i, i < m → L i ≤ 1048576) (fuel : Int) (dead : Bool) : RdDk W B (.agg #[.slice a nn c', .slice p m q, .int .i64 fuel, .bool dead]) :=
  ⟨a, p, nn, c', m, q, d, S, L, F, fuel, dead, rfl, hd.rdB, hG.rdPB, hn, hcap.1, hcap.2, hm, hL⟩

/-- The cache grown by one. -/
theorem sp_grow {w W w2 w5 : World} {B g n c m q l c2 nn : Nat} {b a p a2 : Option Addr} {f d S f2 : Nat → Int} {L : Nat → Nat} {F : Nat → Nat → Int} {A : Nat → Option Addr} {C : Nat → Nat} {v0 v' : Value} {fuel s : Int} {dead : Bool}
    (hs : SpSt w W B g b n c f v0 (.slice p m q) fuel dead) (hB : B ≤ w.heap.size) (ho : OwnB W B a nn d) (hG : Gath W B (.slice p m q) m S L F A C) (hs2 : SpSt w w2 B g b n c f v0 (.slice p m q) fuel dead) (hb : Below W.heap.size W w2) (hn : OwnB w2 W.heap.size a2 l f2)
    (hr : w5.ownsRow B 49 2 v' (m + 1) (pendRow S A L C m ++ [.int .i64 s, .slice a2 l c2])) (hg : (w2.alloc (.cells #[.int .i64 s, .slice a2 l c2] 49)).grownBy w5 (Value.slice p m q).ownBlock) :
    SpSt w w5 B g b n c f v0 (.slice p m q) fuel dead ∧ OwnB w5 B a nn d ∧ Gath w5 B v' (m + 1) (fun i => if i = m then s else S i) (fun i => if i = m then l else L i) (fun i => if i = m then f2 else F i) (fun i => if i = m then a2 else A i) (fun i => if i = m then c2 else C i) := by
  have h1 := rowIn.lt hs.res
  have hbw : Below W.heap.size W (w2.alloc (.cells #[.int .i64 s, .slice a2 l c2] 49)) := hb.trans ((below_alloc _ _).mono hb.size)
  have s1 := hs2.below hB (below_alloc w2 (.cells #[.int .i64 s, .slice a2 l c2] 49))
  have g1 : Gath (w2.alloc (.cells #[.int .i64 s, .slice a2 l c2] 49)) B (.slice p m q) m S L F A C := hG.below hbw
  refine ⟨s1.grow hB hg (fun k e => ⟨(g1.row.lt k e).1, fun e2 => ?_, fun e2 => ?_⟩), ((ho.below hbw).grownPend g1.row hg), ?_⟩
  · subst e2; exact g1.notDk s1.box e
  · subst e2; exact g1.notDk s1.res e
  · have g2 : Gath W B (.slice p m q) m (fun i => if i = m then s else S i) (fun i => if i = m then l else L i) (fun i => if i = m then f2 else F i) A C := hG.congr (fun i hi => by simp only [if_neg (Nat.ne_of_lt hi)]) (fun i hi => by simp only [if_neg (Nat.ne_of_lt hi)]) (fun i hi => by simp only [if_neg (Nat.ne_of_lt hi)])
    refine g2.more (by omega) hbw a2 c2 (by simpa using hn.below (below_alloc _ _)) ?_ hg
    have e : pendRow (fun i => if i = m then s else S i) A (fun i => if i = m then l else L i) C m = pendRow S A L C m := by
      unfold pendRow
      refine List.map_congr_left (fun x hx => ?_)
      have hx2 := List.mem_range.1 hx
      unfold pendCell
      simp only [if_neg (show x / 2 ≠ m by omega)]
    rw [e]
    simpa using hr

/-- The cells of the box, and that they can be written. -/
theorem SpSt.six {w W : World} {B g : Nat} {b : Option Addr} {n c : Nat} {f : Nat → Int} {v0 v1 : Value} {fuel : Int} {dead : Bool} (h : SpSt w W B g b n c f v0 v1 fuel dead) : W.cell? ⟨w.heap.size, 0, none⟩ = some v0 ∧ W.cell? ⟨w.heap.size, 1, none⟩ = some v1 ∧ W.cell? ⟨w.heap.size, 2, none⟩ = some (.int .i64 fuel) ∧ W.cell? ⟨w.heap.size, 3, none⟩ = some (.bool dead) ∧ (∀ o, W.frozen? ⟨w.heap.size, o, none⟩ = false) ∧ w.heap.size < W.heap.size := h.box.cells

set_option maxHeartbeats 4000000 in
theorem l1Spoil_any (B g : Nat) (b : Option Addr) (n c : Nat) (f : Nat → Int) (a p : Option Addr) (nn c' m q : Nat) (d S : Nat → Int) (L : Nat → Nat) (F : Nat → Nat → Int) (A : Nat → Option Addr) (fuel : Int) (dead : Bool) (w : World) (hcur : DrwL w B g b n c f) (ho : OwnQ w B a nn c' d p m q S L F A) (hB : B ≤ w.heap.size) (h1 : 1024 ≤ nn) (h2 : nn ≤ 1048576) (hm : m ≤ 2000) (hL : ∀ i, i < m → L i ≤ 1048576) :
    Calls Try.prog 42 #[.pointer (some ⟨g, 0, none⟩), .agg #[.slice a nn c', .slice p m q, .int .i64 fuel, .bool dead]] w (RetSp w B g b n c f) := by
  have HLL : Hid (∀ i, i < m → L i ≤ 1048576) := hL
  have S0 : Hid (SpSt w ((w.alloc (.cells #[.slice a nn c', .slice p m q, .int .i64 fuel, .bool dead] 25)).alloc (.cells #[.slice none 0 0, .slice none 0 0, .int .i64 0, .bool false] 25)) B g b n c f (.slice a nn c') (.slice p m q) fuel dead) := by
    refine ⟨(rowInNew w _ _ _ _).below (below_alloc _ _), ?_, hcur.below ((below_alloc2 w _ _).mono hB), BelC.ofBelow (below_alloc2 w _ _) hB⟩
    have h := rowInNew (w.alloc (.cells #[.slice a nn c', .slice p m q, .int .i64 fuel, .bool dead] 25)) (.slice none 0 0) (.slice none 0 0) 0 false
    rw [show (w.alloc (.cells #[.slice a nn c', .slice p m q, .int .i64 fuel, .bool dead] 25)).heap.size = w.heap.size + 1 by simp] at h
    exact h
  have O0 : Hid (OwnQ ((w.alloc (.cells #[.slice a nn c', .slice p m q, .int .i64 fuel, .bool dead] 25)).alloc (.cells #[.slice none 0 0, .slice none 0 0, .int .i64 0, .bool false] 25)) B a nn c' d p m q S L F A) := ho.below (below_alloc2 w _ _)
  have hgB : g < B := hcur.cur
  have hcc := ho.caps
  clear hL hcur ho
  go_enter Try.func42, Try.ntmps42
  go_wp2_with fail
  generalize ((w.alloc (.cells #[.slice a nn c', .slice p m q, .int .i64 fuel, .bool dead] 25)).alloc (.cells #[.slice none 0 0, .slice none 0 0, .int .i64 0, .bool false] 25)) = W0 at S0 O0 ⊢
  refine (l1Below_any g b n c f 6 W0 S0.out.cur.drw (by omega) (by omega)).mono ?_
  rintro e w1 ⟨x, rfl, x0, x1, hd1, ho1⟩
  have S1 : Hid (SpSt w w1 B g b n c f (.slice a nn c') (.slice p m q) fuel dead) := S0.out.cur' hB ho1 hd1
  have O1 : Hid (OwnQ w1 B a nn c' d p m q S L F A) := O0.out.belC hgB (BelC.ofOnly ho1)
  clear hd1 ho1 S0 O0
  have hx : x = 0 ∨ x = 1 ∨ x = 2 ∨ x = 3 ∨ x = 4 ∨ x = 5 := by omega
  clear x0 x1
  rcases hx with rfl | rfl | rfl | rfl | rfl | rfl
  · obtain ⟨ga, rfl⟩ : ∃ ga, a = some ⟨ga, 0, none⟩ := by
      rcases O1.out.data with h | ⟨ga, e, _⟩
      · omega
      · exact ⟨ga, e⟩
    have i1n : (1 : Int) ≤ (nn : Int) := by omega
    have ic1 : ¬ (c' = 1) := by omega
    obtain ⟨y0, y1, y2, y3, yf, yl⟩ := S1.out.box.cells
    go_upto_region 14 with fail
    have S9 : Hid (SpSt w (w1.setCell ⟨w.heap.size, 0, none⟩ (.slice (some ⟨ga, 1, none⟩) (nn - 1) (c' - 1))) B g b n c f (.slice (some ⟨ga, 1, none⟩) (nn - 1) (c' - 1)) (.slice p m q) fuel dead) := S1.out.setAt hB 0 _ (dk_set0 S1.out.box _)
    have O9 : Hid (OwnQ (w1.setCell ⟨w.heap.size, 0, none⟩ (.slice (some ⟨ga, 1, none⟩) (nn - 1) (c' - 1))) B (some ⟨ga, 0, none⟩) nn c' d p m q S L F A) := O1.out.onlyDk S1.out.box ((OnlyAt.refl _ _).setCell 0 _)
    generalize (w1.setCell ⟨w.heap.size, 0, none⟩ (.slice (some ⟨ga, 1, none⟩) (nn - 1) (c' - 1))) = W9 at S9 O9 ⊢
    clear y0 y1 y2 y3 yf yl S1 O1

    obtain ⟨y0, y1, y2, y3, yf, yl⟩ := S9.out.box.cells
    obtain ⟨r0, r1, r2, r3, rf, rl⟩ := S9.out.res.cells
    go_wp2
    refine bodyPost_ret (v := .agg #[.slice (some ⟨ga, 1, none⟩) (nn - 1) (c' - 1), .slice p m q, .int .i64 fuel, .bool dead]) (by simp [results, Try.results42, go_sem, r0, r1, r2, r3]) rfl ⟨_, rfl, ?_, ?_, ?_⟩
    · exact OwnQ.rdTail (O9.out.onlyDk S9.out.res (S9.out.fin hB).2.2) (by omega) h2 (by omega) HLL.out fuel dead
    · exact (S9.out.fin hB).1
    · exact (S9.out.fin hB).2.1
  · obtain ⟨y0, y1, y2, y3, yf, yl⟩ := S1.out.box.cells
    go_upto_region 14 with fail
    have S9 : Hid (SpSt w (w1.setCell ⟨w.heap.size, 2, none⟩ (.int .i64 (-2))) B g b n c f (.slice a nn c') (.slice p m q) (-2) dead) := S1.out.setAt hB 2 _ (dk_set2 S1.out.box _)
    have O9 : Hid (OwnQ (w1.setCell ⟨w.heap.size, 2, none⟩ (.int .i64 (-2))) B a nn c' d p m q S L F A) := O1.out.onlyDk S1.out.box ((OnlyAt.refl _ _).setCell 2 _)
    generalize (w1.setCell ⟨w.heap.size, 2, none⟩ (.int .i64 (-2))) = W9 at S9 O9 ⊢
    clear y0 y1 y2 y3 yf yl S1 O1

    obtain ⟨y0, y1, y2, y3, yf, yl⟩ := S9.out.box.cells
    obtain ⟨r0, r1, r2, r3, rf, rl⟩ := S9.out.res.cells
    go_wp2
    refine bodyPost_ret (v := .agg #[.slice a nn c', .slice p m q, .int .i64 (-2), .bool dead]) (by simp [results, Try.results42, go_sem, r0, r1, r2, r3]) rfl ⟨_, rfl, ?_, ?_, ?_⟩
    · exact OwnQ.rdDk (O9.out.onlyDk S9.out.res (S9.out.fin hB).2.2) h2 (by omega) HLL.out _ _
    · exact (S9.out.fin hB).1
    · exact (S9.out.fin hB).2.1
  · go_wp2_with fail
    refine (l1Below_any g b n c f 2 w1 S1.out.cur.drw (by omega) (by omega)).mono ?_
    rintro e w2 ⟨x2, rfl, x20, x21, hd2, ho2⟩
    have S2 : Hid (SpSt w w2 B g b n c f (.slice a nn c') (.slice p m q) fuel dead) := S1.out.cur' hB ho2 hd2
    have O2 : Hid (OwnQ w2 B a nn c' d p m q S L F A) := O1.out.belC hgB (BelC.ofOnly ho2)
    clear hd2 ho2 S1 O1
    have wx : IntKind.i64.wrap (1000000 + x2) = 1000000 + x2 := by rw [IntKind.wrap_i64]; omega
    obtain ⟨y0, y1, y2, y3, yf, yl⟩ := S2.out.box.cells
    go_upto_region 14 with fail
    have S9 : Hid (SpSt w (w2.setCell ⟨w.heap.size, 2, none⟩ (.int .i64 (1000000 + x2))) B g b n c f (.slice a nn c') (.slice p m q) (1000000 + x2) dead) := S2.out.setAt hB 2 _ (dk_set2 S2.out.box _)
    have O9 : Hid (OwnQ (w2.setCell ⟨w.heap.size, 2, none⟩ (.int .i64 (1000000 + x2))) B a nn c' d p m q S L F A) := O2.out.onlyDk S2.out.box ((OnlyAt.refl _ _).setCell 2 _)
    generalize (w2.setCell ⟨w.heap.size, 2, none⟩ (.int .i64 (1000000 + x2))) = W9 at S9 O9 ⊢
    clear y0 y1 y2 y3 yf yl S2 O2

    obtain ⟨y0, y1, y2, y3, yf, yl⟩ := S9.out.box.cells
    obtain ⟨r0, r1, r2, r3, rf, rl⟩ := S9.out.res.cells
    go_wp2
    refine bodyPost_ret (v := .agg #[.slice a nn c', .slice p m q, .int .i64 (1000000 + x2), .bool dead]) (by simp [results, Try.results42, go_sem, r0, r1, r2, r3]) rfl ⟨_, rfl, ?_, ?_, ?_⟩
    · exact OwnQ.rdDk (O9.out.onlyDk S9.out.res (S9.out.fin hB).2.2) h2 (by omega) HLL.out _ _
    · exact (S9.out.fin hB).1
    · exact (S9.out.fin hB).2.1
  · obtain ⟨CC, hG1⟩ := O1.out.cache
    have HG1 : Hid (Gath w1 B (.slice p m q) m S L F A CC) := hG1
    have OD : Hid (OwnB w1 B a nn d) := O1.out.data
    clear hG1
    have hm2 : m ≤ 1048576 := by omega
    have hBW : B ≤ w1.heap.size := by have := rowIn.lt S1.out.res; omega
    have HA : Hid (∀ wa : World, Below w1.drew.heap.size w1.drew wa → SpSt w wa B g b n c f (.slice a nn c') (.slice p m q) fuel dead) := fun wa hb => S1.out.below hB ((Below.refl _ _).drew.trans hb)
    have HB : Hid (∀ wa wb : World, Below w1.drew.heap.size w1.drew wa → Drw wb g b n c f → OnlyAt (some ⟨g, 0, none⟩) wa wb → SpSt w wb B g b n c f (.slice a nn c') (.slice p m q) fuel dead ∧ OwnB wb B a nn d ∧ Gath wb B (.slice p m q) m S L F A CC ∧ B ≤ wb.heap.size) := by
      intro wa wb hba hd ho
      have hw : Below w1.heap.size w1 wa := (Below.refl _ _).drew.trans hba
      have hz := hw.size
      exact ⟨(S1.out.below hB hw).cur' hB ho hd, (OD.out.below hw).belC hgB (BelC.ofOnly ho), gath_keep (HG1.out.below hw) (fun k hk hl _ => ho.block k (fun x e => by injection e with e; subst e; show g ≠ k; omega)), by rw [ho.size]; omega⟩
    obtain ⟨y0, y1, y2, y3, yf, yl⟩ := S1.out.box.cells
    go_upto_region 9 with fail
    refine wp_region_late (S := (fun w' => w'.cell? ⟨w.heap.size, 0, none⟩ = some (.slice a nn c') ∧ w'.cell? ⟨w.heap.size, 1, none⟩ = some (.slice p m q) ∧ w'.cell? ⟨w.heap.size, 2, none⟩ = some (.int .i64 fuel) ∧ w'.cell? ⟨w.heap.size, 3, none⟩ = some (.bool dead))) 12 (by kernel_rfl) ?_ (fun hHeld => ?_)
    · ((try dsimp only); go_keep)
    refine late_take 0 .zero (v := ?_) (by kernel_rfl) (by kernel_rfl) (by kernel_rfl) (by kernel_rfl) (fun _ _ _ h => h) (by rfl) ?_ (by assumption) ?_
    rotate_left
    · (intro w hSw; (try dsimp only at hSw); go_simp) <;> with_reducible rfl
    simp only [Act.put, List.setIfInBounds_toArray, List.set_cons_zero, List.set_cons_succ]
    refine late_take 1 (.succ .zero) (v := ?_) (by kernel_rfl) (by kernel_rfl) (by kernel_rfl) (by kernel_rfl) (fun _ _ _ h => h) (by rfl) ?_ (by assumption) ?_
    rotate_left
    · (intro w hSw; (try dsimp only at hSw); go_simp) <;> with_reducible rfl
    simp only [Act.put, List.setIfInBounds_toArray, List.set_cons_zero, List.set_cons_succ]
    refine late_take 2 (.succ (.succ .zero)) (v := ?_) (by kernel_rfl) (by kernel_rfl) (by kernel_rfl) (by kernel_rfl) (fun _ _ _ h => h) (by rfl) ?_ (by assumption) ?_
    rotate_left
    · (intro w hSw; (try dsimp only at hSw); go_simp) <;> with_reducible rfl
    simp only [Act.put, List.setIfInBounds_toArray, List.set_cons_zero, List.set_cons_succ]
    refine late_take 4 (.succ (.succ (.succ (.succ .zero)))) (v := ?_) (by kernel_rfl) (by kernel_rfl) (by kernel_rfl) (by kernel_rfl) (fun _ _ _ h => h) (by rfl) ?_ (by assumption) ?_
    rotate_left
    · (intro w hSw; (try dsimp only at hSw); go_simp) <;> with_reducible rfl
    simp only [Act.put, List.setIfInBounds_toArray, List.set_cons_zero, List.set_cons_succ]
    refine late_one 3 (.succ (.succ (.succ .zero))) (by kernel_rfl) (fun K hK => ?_)
    (refine step_t rfl _ _ _ rfl (.agg #[.slice a nn c', .slice p m q, .int .i64 fuel, .bool dead]) (by rfl) (enters_of Try.func24 (by kernel_rfl) rfl) ?_; refine (l1Sectors_any a p nn c' m q fuel dead w1.drew h2).mono ?_; rintro e wa ⟨rfl, hba⟩; refine ⟨_, rfl, ?_⟩; have Sa := HA.out wa hba; obtain ⟨y0, y1, y2, y3, yf, yl⟩ := Sa.six)
    refine hK.out _ _ ?_ (fun hHeld2 => ?_)
    · (intro _; (try dsimp only); go_keep)
    clear hK K
    replace hHeld := hHeld2 (by decide)
    clear hHeld2
    try simp only [Act.put, List.setIfInBounds_toArray, List.set_cons_zero, List.set_cons_succ]
    refine late_one 5 (.succ (.succ (.succ (.succ (.succ .zero))))) (by kernel_rfl) (fun K hK => ?_)
    (refine step_tc rfl _ _ _ _ rfl (.pointer (some ⟨g, 0, none⟩)) (by rfl) (enters_of Try.func36 (by kernel_rfl) rfl) ?_; refine (l1Below_any g b n c f 2 wa Sa.cur.drw (by omega) (by omega)).mono ?_; rintro e wb ⟨x2, rfl, x20, x21, hd2, ho2⟩; refine ⟨_, rfl, ?_⟩; obtain ⟨Sb, ODb, HGb, hBWb⟩ := HB.out wa wb hba hd2 ho2; have ws : IntKind.i64.wrap ((nn : Int) / 64 - x2) = (nn : Int) / 64 - x2 := (by rw [IntKind.wrap_i64]; omega); obtain ⟨y0, y1, y2, y3, yf, yl⟩ := Sb.six)
    refine hK.out _ _ ?_ (fun hHeld2 => ?_)
    · (intro _; (try dsimp only); go_keep)
    clear hK K
    replace hHeld := hHeld2 (by decide)
    clear hHeld2
    try simp only [Act.put, List.setIfInBounds_toArray, List.set_cons_zero, List.set_cons_succ]
    refine late_take 6 (.succ (.succ (.succ (.succ (.succ (.succ .zero)))))) (v := ?_) (by kernel_rfl) (by kernel_rfl) (by kernel_rfl) (by kernel_rfl) (fun _ _ _ h => h) (by rfl) ?_ (by assumption) ?_
    rotate_left
    · (intro w hSw; (try dsimp only at hSw); go_simp) <;> with_reducible rfl
    simp only [Act.put, List.setIfInBounds_toArray, List.set_cons_zero, List.set_cons_succ]
    refine late_one 7 (.succ (.succ (.succ (.succ (.succ (.succ (.succ .zero))))))) (by kernel_rfl) (fun K hK => ?_)
    (refine step_c rfl _ _ _ rfl (enters_of Try.func41 (by kernel_rfl) rfl) ?_; refine (zeros_cat 64 64 wb (by rfl) (by omega)).mono ?_; rintro e w3 ⟨a3, c3, rfl, ho3, hb3, -⟩; refine ⟨_, rfl, ?_⟩; have S3 := Sb.below hB hb3; obtain ⟨y0, y1, y2, y3, yf, yl⟩ := S3.six)
    refine hK.out _ _ ?_ (fun hHeld2 => ?_)
    · (intro _; (try dsimp only); go_keep)
    clear hK K
    replace hHeld := hHeld2 (by decide)
    clear hHeld2
    try simp only [Act.put, List.setIfInBounds_toArray, List.set_cons_zero, List.set_cons_succ]
    refine late_take 8 (.succ (.succ (.succ (.succ (.succ (.succ (.succ (.succ .zero)))))))) (v := ?_) (by kernel_rfl) (by kernel_rfl) (by kernel_rfl) (by kernel_rfl) (fun _ _ _ h => h) (by rfl) ?_ (by assumption) ?_
    rotate_left
    · (intro w hSw; (try dsimp only at hSw); go_simp) <;> with_reducible rfl
    simp only [Act.put, List.setIfInBounds_toArray, List.set_cons_zero, List.set_cons_succ]
    refine late_one 9 (.succ (.succ (.succ (.succ (.succ (.succ (.succ (.succ (.succ .zero))))))))) (by kernel_rfl) (fun K hK => ?_)
    go_simp
    refine hK.out _ _ ?_ (fun hHeld2 => ?_)
    · (intro _; (try dsimp only); go_keep)
    clear hK K
    replace hHeld := hHeld2 (by decide)
    clear hHeld2
    try simp only [Act.put, List.setIfInBounds_toArray, List.set_cons_zero, List.set_cons_succ]
    refine late_one 10 (.succ (.succ (.succ (.succ (.succ (.succ (.succ (.succ (.succ (.succ .zero)))))))))) (by kernel_rfl) (fun K hK => ?_)
    (refine step_append_made (by rfl) (.tmp 26) (.tmp 34) (by rfl) B m (.slice p m q) (pendRow S A L CC m) ((nn : Int) / 64 - x2) a3 64 c3 (by rfl) (owns_below HGb.row hb3) (by rfl) hm2 (Nat.le_trans hBWb hb3.size) ?_; intro v5 w5 hr5 hg5; obtain ⟨p5, q5, hv5⟩ := owns_shape hr5; subst hv5; obtain ⟨S5, O5, G5⟩ := sp_grow Sb hB ODb HGb S3 hb3 ho3 hr5 hg5; obtain ⟨y0, y1, y2, y3, yf, yl⟩ := S5.six)
    refine hK.out _ _ ?_ (fun hHeld2 => ?_)
    · (intro _; (try dsimp only); go_keep)
    clear hK K
    replace hHeld := hHeld2 (by decide)
    clear hHeld2
    try simp only [Act.put, List.setIfInBounds_toArray, List.set_cons_zero, List.set_cons_succ]
    refine late_take 11 (.succ (.succ (.succ (.succ (.succ (.succ (.succ (.succ (.succ (.succ (.succ .zero))))))))))) (v := ?_) (by kernel_rfl) (by kernel_rfl) (by kernel_rfl) (by kernel_rfl) (fun _ _ _ h => h) (by rfl) ?_ (by assumption) ?_
    rotate_left
    · (intro w hSw; (try dsimp only at hSw); go_simp) <;> with_reducible rfl
    simp only [Act.put, List.setIfInBounds_toArray, List.set_cons_zero, List.set_cons_succ]
    refine late_one 12 (.succ (.succ (.succ (.succ (.succ (.succ (.succ (.succ (.succ (.succ (.succ (.succ .zero)))))))))))) (by kernel_rfl) (fun K hK => ?_)
    go_simp
    refine hK.out _ _ ?_ (fun hHeld2 => ?_)
    · (intro hne; exact absurd rfl hne)
    clear hK K hHeld2
    refine wpLate_done (by kernel_rfl) ?_ _
    have S9 : Hid (SpSt w (w5.setCell ⟨w.heap.size, 1, none⟩ (.slice p5 (m + 1) q5)) B g b n c f (.slice a nn c') (.slice p5 (m + 1) q5) fuel dead) := S5.setAt hB 1 _ (S5.box.setCache _)
    have O9 : Hid (OwnB (w5.setCell ⟨w.heap.size, 1, none⟩ (.slice p5 (m + 1) q5)) B a nn d) := O5.onlyDk S5.box ((OnlyAt.refl _ _).setCell 1 _)
    have G9 : Hid (Gath (w5.setCell ⟨w.heap.size, 1, none⟩ (.slice p5 (m + 1) q5)) B (.slice p5 (m + 1) q5) (m + 1) (fun i => if i = m then ((nn : Int) / 64 - x2) else S i) (fun i => if i = m then 64 else L i) (fun i => if i = m then (fun _ => 0) else F i) (fun i => if i = m then a3 else A i) (fun i => if i = m then c3 else CC i)) := G5.onlyDk S5.box ((OnlyAt.refl _ _).setCell 1 _)
    generalize (w5.setCell ⟨w.heap.size, 1, none⟩ (.slice p5 (m + 1) q5)) = W9 at S9 O9 G9 ⊢
    clear y0 y1 y2 y3 yf yl S1 O1 S5 O5 G5 HG1 OD hr5 hg5 S3 hb3 ho3 Sa Sb ODb HGb hd2 ho2 hba HA HB

    obtain ⟨y0, y1, y2, y3, yf, yl⟩ := S9.out.box.cells
    obtain ⟨r0, r1, r2, r3, rf, rl⟩ := S9.out.res.cells
    go_wp2
    refine bodyPost_ret (v := .agg #[.slice a nn c', .slice p5 (m + 1) q5, .int .i64 fuel, .bool dead]) (by simp [results, Try.results42, go_sem, r0, r1, r2, r3]) rfl ⟨_, rfl, ?_, ?_, ?_⟩
    · exact rdDk_of (O9.out.onlyDk S9.out.res (S9.out.fin hB).2.2) hcc (G9.out.onlyDk S9.out.res (S9.out.fin hB).2.2) h2 (by omega) (fun i hi => by by_cases e : i = m; (· rw [if_pos e]; omega); (· rw [if_neg e]; exact HLL.out i (by omega))) fuel dead
    · exact (S9.out.fin hB).1
    · exact (S9.out.fin hB).2.1
  · obtain ⟨CC, hG1⟩ := O1.out.cache
    have HG1 : Hid (Gath w1 B (.slice p m q) m S L F A CC) := hG1
    have OD : Hid (OwnB w1 B a nn d) := O1.out.data
    clear hG1
    have hm2 : m ≤ 1048576 := by omega
    have hBW : B ≤ w1.heap.size := by have := rowIn.lt S1.out.res; omega
    have HT : Hid (∀ w3 : World, Below w1.drew.heap.size w1.drew w3 → Below w1.heap.size w1 w3) := fun w3 hb => (Below.refl _ _).drew.trans hb
    obtain ⟨y0, y1, y2, y3, yf, yl⟩ := S1.out.box.cells
    go_upto_region 11 with fail
    refine wp_region_late (S := (fun w' => w'.cell? ⟨w.heap.size, 0, none⟩ = some (.slice a nn c') ∧ w'.cell? ⟨w.heap.size, 1, none⟩ = some (.slice p m q) ∧ w'.cell? ⟨w.heap.size, 2, none⟩ = some (.int .i64 fuel) ∧ w'.cell? ⟨w.heap.size, 3, none⟩ = some (.bool dead))) 7 (by kernel_rfl) ?_ (fun hHeld => ?_)
    · ((try dsimp only); go_keep)
    refine late_take 0 .zero (v := ?_) (by kernel_rfl) (by kernel_rfl) (by kernel_rfl) (by kernel_rfl) (fun _ _ _ h => h) (by rfl) ?_ (by assumption) ?_
    rotate_left
    · (intro w hSw; (try dsimp only at hSw); go_simp) <;> with_reducible rfl
    simp only [Act.put, List.setIfInBounds_toArray, List.set_cons_zero, List.set_cons_succ]
    refine late_take 1 (.succ .zero) (v := ?_) (by kernel_rfl) (by kernel_rfl) (by kernel_rfl) (by kernel_rfl) (fun _ _ _ h => h) (by rfl) ?_ (by assumption) ?_
    rotate_left
    · (intro w hSw; (try dsimp only at hSw); go_simp) <;> with_reducible rfl
    simp only [Act.put, List.setIfInBounds_toArray, List.set_cons_zero, List.set_cons_succ]
    refine late_one 2 (.succ (.succ .zero)) (by kernel_rfl) (fun K hK => ?_)
    (refine step_c rfl _ _ _ rfl (enters_of Try.func41 (by kernel_rfl) rfl) ?_; refine (zeros_cat 63 63 w1.drew (by rfl) (by omega)).mono ?_; rintro e w3 ⟨a3, c3, rfl, ho3, hb3, -⟩; refine ⟨_, rfl, ?_⟩; have S3 := S1.out.below hB (HT.out w3 hb3); obtain ⟨y0, y1, y2, y3, yf, yl⟩ := S3.six)
    refine hK.out _ _ ?_ (fun hHeld2 => ?_)
    · (intro _; (try dsimp only); go_keep)
    clear hK K
    replace hHeld := hHeld2 (by decide)
    clear hHeld2
    try simp only [Act.put, List.setIfInBounds_toArray, List.set_cons_zero, List.set_cons_succ]
    refine late_take 3 (.succ (.succ (.succ .zero))) (v := ?_) (by kernel_rfl) (by kernel_rfl) (by kernel_rfl) (by kernel_rfl) (fun _ _ _ h => h) (by rfl) ?_ (by assumption) ?_
    rotate_left
    · (intro w hSw; (try dsimp only at hSw); go_simp) <;> with_reducible rfl
    simp only [Act.put, List.setIfInBounds_toArray, List.set_cons_zero, List.set_cons_succ]
    refine late_one 4 (.succ (.succ (.succ (.succ .zero)))) (by kernel_rfl) (fun K hK => ?_)
    go_simp
    refine hK.out _ _ ?_ (fun hHeld2 => ?_)
    · (intro _; (try dsimp only); go_keep)
    clear hK K
    replace hHeld := hHeld2 (by decide)
    clear hHeld2
    try simp only [Act.put, List.setIfInBounds_toArray, List.set_cons_zero, List.set_cons_succ]
    refine late_one 5 (.succ (.succ (.succ (.succ (.succ .zero))))) (by kernel_rfl) (fun K hK => ?_)
    (refine step_append_made (by rfl) (.tmp 40) (.tmp 43) (by rfl) B m (.slice p m q) (pendRow S A L CC m) 1 a3 63 c3 (by rfl) (owns_below HG1.out.row (HT.out w3 hb3)) (by rfl) hm2 (Nat.le_trans hBW (HT.out w3 hb3).size) ?_; intro v5 w5 hr5 hg5; obtain ⟨p5, q5, hv5⟩ := owns_shape hr5; subst hv5; obtain ⟨S5, O5, G5⟩ := sp_grow S1.out hB OD.out HG1.out S3 (HT.out w3 hb3) ho3 hr5 hg5; obtain ⟨y0, y1, y2, y3, yf, yl⟩ := S5.six)
    refine hK.out _ _ ?_ (fun hHeld2 => ?_)
    · (intro _; (try dsimp only); go_keep)
    clear hK K
    replace hHeld := hHeld2 (by decide)
    clear hHeld2
    try simp only [Act.put, List.setIfInBounds_toArray, List.set_cons_zero, List.set_cons_succ]
    refine late_take 6 (.succ (.succ (.succ (.succ (.succ (.succ .zero)))))) (v := ?_) (by kernel_rfl) (by kernel_rfl) (by kernel_rfl) (by kernel_rfl) (fun _ _ _ h => h) (by rfl) ?_ (by assumption) ?_
    rotate_left
    · (intro w hSw; (try dsimp only at hSw); go_simp) <;> with_reducible rfl
    simp only [Act.put, List.setIfInBounds_toArray, List.set_cons_zero, List.set_cons_succ]
    refine late_one 7 (.succ (.succ (.succ (.succ (.succ (.succ (.succ .zero))))))) (by kernel_rfl) (fun K hK => ?_)
    go_simp
    refine hK.out _ _ ?_ (fun hHeld2 => ?_)
    · (intro hne; exact absurd rfl hne)
    clear hK K hHeld2
    refine wpLate_done (by kernel_rfl) ?_ _
    have S9 : Hid (SpSt w (w5.setCell ⟨w.heap.size, 1, none⟩ (.slice p5 (m + 1) q5)) B g b n c f (.slice a nn c') (.slice p5 (m + 1) q5) fuel dead) := S5.setAt hB 1 _ (S5.box.setCache _)
    have O9 : Hid (OwnB (w5.setCell ⟨w.heap.size, 1, none⟩ (.slice p5 (m + 1) q5)) B a nn d) := O5.onlyDk S5.box ((OnlyAt.refl _ _).setCell 1 _)
    have G9 : Hid (Gath (w5.setCell ⟨w.heap.size, 1, none⟩ (.slice p5 (m + 1) q5)) B (.slice p5 (m + 1) q5) (m + 1) (fun i => if i = m then 1 else S i) (fun i => if i = m then 63 else L i) (fun i => if i = m then (fun _ => 0) else F i) (fun i => if i = m then a3 else A i) (fun i => if i = m then c3 else CC i)) := G5.onlyDk S5.box ((OnlyAt.refl _ _).setCell 1 _)
    generalize (w5.setCell ⟨w.heap.size, 1, none⟩ (.slice p5 (m + 1) q5)) = W9 at S9 O9 G9 ⊢
    clear y0 y1 y2 y3 yf yl S1 O1 S5 O5 G5 HG1 OD hr5 hg5 S3 hb3 ho3

    obtain ⟨y0, y1, y2, y3, yf, yl⟩ := S9.out.box.cells
    obtain ⟨r0, r1, r2, r3, rf, rl⟩ := S9.out.res.cells
    go_wp2
    refine bodyPost_ret (v := .agg #[.slice a nn c', .slice p5 (m + 1) q5, .int .i64 fuel, .bool dead]) (by simp [results, Try.results42, go_sem, r0, r1, r2, r3]) rfl ⟨_, rfl, ?_, ?_, ?_⟩
    · exact rdDk_of (O9.out.onlyDk S9.out.res (S9.out.fin hB).2.2) hcc (G9.out.onlyDk S9.out.res (S9.out.fin hB).2.2) h2 (by omega) (fun i hi => by by_cases e : i = m; (· rw [if_pos e]; omega); (· rw [if_neg e]; exact HLL.out i (by omega))) fuel dead
    · exact (S9.out.fin hB).1
    · exact (S9.out.fin hB).2.1
  · obtain ⟨ga, rfl⟩ : ∃ ga, a = some ⟨ga, 0, none⟩ := by
      rcases O1.out.data with h | ⟨ga, e, _⟩
      · omega
      · exact ⟨ga, e⟩
    have D1 : Hid (Drw w1.drew g b n c f) := S1.out.cur.drw.below (Below.refl _ _).drew
    have HC : Hid (∀ w2 : World, Drw w2 g b n c f → OnlyAt (some ⟨g, 0, none⟩) w1.drew w2 → ((w2.cell? ⟨w.heap.size, 0, none⟩ = some (.slice (some ⟨ga, 0, none⟩) nn c') ∧ w2.cell? ⟨w.heap.size, 1, none⟩ = some (.slice p m q) ∧ w2.cell? ⟨w.heap.size, 2, none⟩ = some (.int .i64 fuel) ∧ w2.cell? ⟨w.heap.size, 3, none⟩ = some (.bool dead) ∧ (∀ o, w2.frozen? ⟨w.heap.size, o, none⟩ = false) ∧ w.heap.size < w2.heap.size) ∧ SpSt w w2 B g b n c f (.slice (some ⟨ga, 0, none⟩) nn c') (.slice p m q) fuel dead ∧ OwnQ w2 B (some ⟨ga, 0, none⟩) nn c' d p m q S L F A)) := by
      intro w2 hd2 ho2
      have ho3 : OnlyAt (some ⟨g, 0, none⟩) w1 w2 := ⟨ho2.os, ho2.tape, ho2.output, ho2.size, ho2.block⟩
      have S2 := S1.out.cur' hB ho3 hd2
      exact ⟨S2.box.cells, S2, O1.out.belC hgB (BelC.ofOnly ho3)⟩
    obtain ⟨y0, y1, y2, y3, yf, yl⟩ := S1.out.box.cells
    go_upto_region 13 with fail
    refine wp_region_late (S := (fun w' => w'.cell? ⟨w.heap.size, 0, none⟩ = some (.slice (some ⟨ga, 0, none⟩) nn c') ∧ w'.cell? ⟨w.heap.size, 1, none⟩ = some (.slice p m q) ∧ w'.cell? ⟨w.heap.size, 2, none⟩ = some (.int .i64 fuel) ∧ w'.cell? ⟨w.heap.size, 3, none⟩ = some (.bool dead))) 8 (by kernel_rfl) ?_ (fun hHeld => ?_)
    · ((try dsimp only); go_keep)
    refine late_take 0 .zero (v := ?_) (by kernel_rfl) (by kernel_rfl) (by kernel_rfl) (by kernel_rfl) (fun _ _ _ h => h) (by rfl) ?_ (by assumption) ?_
    rotate_left
    · (intro w hSw; (try dsimp only at hSw); go_simp) <;> with_reducible rfl
    simp only [Act.put, List.setIfInBounds_toArray, List.set_cons_zero, List.set_cons_succ]
    refine late_take 1 (.succ .zero) (v := ?_) (by kernel_rfl) (by kernel_rfl) (by kernel_rfl) (by kernel_rfl) (fun _ _ _ h => h) (by rfl) ?_ (by assumption) ?_
    rotate_left
    · (intro w hSw; (try dsimp only at hSw); go_simp) <;> with_reducible rfl
    simp only [Act.put, List.setIfInBounds_toArray, List.set_cons_zero, List.set_cons_succ]
    refine late_take 2 (.succ (.succ .zero)) (v := ?_) (by kernel_rfl) (by kernel_rfl) (by kernel_rfl) (by kernel_rfl) (fun _ _ _ h => h) (by rfl) ?_ (by assumption) ?_
    rotate_left
    · (intro w hSw; (try dsimp only at hSw); go_simp) <;> with_reducible rfl
    simp only [Act.put, List.setIfInBounds_toArray, List.set_cons_zero, List.set_cons_succ]
    refine late_one 3 (.succ (.succ (.succ .zero))) (by kernel_rfl) (fun K hK => ?_)
    (refine step_tc rfl _ _ _ _ rfl (.pointer (some ⟨g, 0, none⟩)) (by rfl) (enters_of Try.func36 (by kernel_rfl) rfl) ?_; refine (l1Below_any g b n c f 2 w1.drew D1.out (by omega) (by omega)).mono ?_; rintro e w2 ⟨x2, rfl, x20, x21, hd2, ho2⟩; refine ⟨_, rfl, ?_⟩; obtain ⟨⟨y0, y1, y2, y3, yf, yl⟩, S2, O2⟩ := HC.out w2 hd2 ho2; have wx : IntKind.i64.wrap (16 - x2) = 16 - x2 := (by rw [IntKind.wrap_i64]; omega); obtain ⟨l, hl, hl2⟩ : ∃ l : Nat, IntKind.i64.wrap (64 * (16 - x2)) = (l : Int) ∧ l ≤ nn := ⟨(64 * (16 - x2)).toNat, by rw [IntKind.wrap_i64]; omega, by omega⟩; have il0 : (0 : Int) ≤ (l : Int) := (by omega); have ilc : (l : Int) ≤ (c' : Int) := (by omega))
    refine hK.out _ _ ?_ (fun hHeld2 => ?_)
    · (intro _; (try dsimp only); go_keep)
    clear hK K
    replace hHeld := hHeld2 (by decide)
    clear hHeld2
    try simp only [Act.put, List.setIfInBounds_toArray, List.set_cons_zero, List.set_cons_succ]
    refine late_take 4 (.succ (.succ (.succ (.succ .zero)))) (v := ?_) (by kernel_rfl) (by kernel_rfl) (by kernel_rfl) (by kernel_rfl) (fun _ _ _ h => h) (by rfl) ?_ (by assumption) ?_
    rotate_left
    · (intro w hSw; (try dsimp only at hSw); go_simp) <;> with_reducible rfl
    simp only [Act.put, List.setIfInBounds_toArray, List.set_cons_zero, List.set_cons_succ]
    refine late_take 5 (.succ (.succ (.succ (.succ (.succ .zero))))) (v := ?_) (by kernel_rfl) (by kernel_rfl) (by kernel_rfl) (by kernel_rfl) (fun _ _ _ h => h) (by rfl) ?_ (by assumption) ?_
    rotate_left
    · (intro w hSw; (try dsimp only at hSw); go_simp) <;> with_reducible rfl
    simp only [Act.put, List.setIfInBounds_toArray, List.set_cons_zero, List.set_cons_succ]
    refine late_take 6 (.succ (.succ (.succ (.succ (.succ (.succ .zero)))))) (v := ?_) (by kernel_rfl) (by kernel_rfl) (by kernel_rfl) (by kernel_rfl) (fun _ _ _ h => h) (by rfl) ?_ (by assumption) ?_
    rotate_left
    · (intro w hSw; (try dsimp only at hSw); go_simp) <;> with_reducible rfl
    simp only [Act.put, List.setIfInBounds_toArray, List.set_cons_zero, List.set_cons_succ]
    refine late_take 7 (.succ (.succ (.succ (.succ (.succ (.succ (.succ .zero))))))) (v := ?_) (by kernel_rfl) (by kernel_rfl) (by kernel_rfl) (by kernel_rfl) (fun _ _ _ h => h) (by rfl) ?_ (by assumption) ?_
    rotate_left
    · (intro w hSw; (try dsimp only at hSw); go_simp) <;> with_reducible rfl
    simp only [Act.put, List.setIfInBounds_toArray, List.set_cons_zero, List.set_cons_succ]
    refine late_one 8 (.succ (.succ (.succ (.succ (.succ (.succ (.succ (.succ .zero)))))))) (by kernel_rfl) (fun K hK => ?_)
    go_simp
    refine hK.out _ _ ?_ (fun hHeld2 => ?_)
    · (intro hne; exact absurd rfl hne)
    clear hK K hHeld2
    refine wpLate_done (by kernel_rfl) ?_ _

    have S9 : Hid (SpSt w (w2.setCell ⟨w.heap.size, 0, none⟩ (.slice (some ⟨ga, 0, none⟩) l c')) B g b n c f (.slice (some ⟨ga, 0, none⟩) l c') (.slice p m q) fuel dead) := S2.setAt hB 0 _ (dk_set0 S2.box _)
    have O9 : Hid (OwnQ (w2.setCell ⟨w.heap.size, 0, none⟩ (.slice (some ⟨ga, 0, none⟩) l c')) B (some ⟨ga, 0, none⟩) nn c' d p m q S L F A) := O2.onlyDk S2.box ((OnlyAt.refl _ _).setCell 0 _)
    generalize (w2.setCell ⟨w.heap.size, 0, none⟩ (.slice (some ⟨ga, 0, none⟩) l c')) = W9 at S9 O9 ⊢
    clear y0 y1 y2 y3 yf yl S1 O1 S2 O2 hd2 ho2 HC D1

    obtain ⟨y0, y1, y2, y3, yf, yl⟩ := S9.out.box.cells
    obtain ⟨r0, r1, r2, r3, rf, rl⟩ := S9.out.res.cells
    go_wp2
    refine bodyPost_ret (v := .agg #[.slice (some ⟨ga, 0, none⟩) l c', .slice p m q, .int .i64 fuel, .bool dead]) (by simp [results, Try.results42, go_sem, r0, r1, r2, r3]) rfl ⟨_, rfl, ?_, ?_, ?_⟩
    · exact OwnQ.rdCut (O9.out.onlyDk S9.out.res (S9.out.fin hB).2.2) h2 (by omega) HLL.out l hl2 fuel dead
    · exact (S9.out.fin hB).1
    · exact (S9.out.fin hB).2.1
end Go.Proofs.Ytlcamfkgkcjehaa
