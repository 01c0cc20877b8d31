import Derived.Test.YtlcamfkgkcjehaaNr2
import Derived.Test.YtlcamfkgkcjehaaRows
import Derived.Test.YtlcamfkgkcjehaaNr1
import Derived.Deep.QuietTactic
import Derived.BigQuiet
import Derived.Deep.RegionWith
import Derived.Deep.RegionHeld3
import Derived.Deep.WholeRow
import Derived.ChangeKeysEq
import Derived.Handy
namespace Go.Proofs.Ytlcamfkgkcjehaa
open Go.RowKit Go.Deep

theorem OwnP.only {w w1 : World} {B : Nat} {a p : Option Addr} {n m : Nat} {d S : Nat → Int} {L : Nat → Nat} {F : Nat → Nat → Int} {A : Nat → Option Addr} (h : OwnP w B p m S L F A) (ha : OwnB w B a n d) (ho : OnlyAt a w w1) (hz : n = 0 → w1 = w)
    (hx : n ≠ 0 → ∀ i, i < m → L i ≠ 0 → A i ≠ a) : OwnP w1 B p m S L F A := by
  by_cases hn : n = 0
  · rw [hz hn]; exact h
  · rcases ha with h0 | ⟨g, rfl, hg, hr⟩
    · exact absurd h0 hn
    · rcases h with h | ⟨gC, C, rfl, h⟩
      · exact Or.inl h
      · have hne : g ≠ gC := hr.ne h.row (by decide)
        refine Or.inr ⟨gC, C, rfl, h.le, h.row.of_block (ho.block gC (fun x e => by injection e with e; subst e; exact hne)), fun i hi => ?_, h.apart⟩
        refine (h.each i hi).only ho (fun hl x y hx1 hy => ?_)
        injection hy with hy
        subst hy
        intro e
        rcases h.each i hi with h0 | ⟨g', hA', _, _⟩
        · exact hl h0
        · rw [hA'] at hx1; injection hx1 with hx1; subst hx1
          simp at e
          subst e
          exact hx hn i hi hl hA'

/-- Of the blocks that w has, w' has turned at most those from B to T. -/
structure Within (B T : Nat) (w w' : World) : Prop where
  os : w'.os = w.os
  tape : w'.tape = w.tape
  output : w'.output = w.output
  size : w.heap.size ≤ w'.heap.size
  block : ∀ k, k < w.heap.size → (k < B ∨ T ≤ k) → w'.heap[k]? = w.heap[k]?

theorem Within.below {B T : Nat} {w w' : World} (h : Within B T w w') (hB : B ≤ w.heap.size) : Below B w w' := ⟨h.os, h.tape, h.output, h.size, fun k hk => h.block k (by omega) (Or.inl hk)⟩
theorem Within.cells {B T : Nat} {w w' : World} (h : Within B T w w') : (∀ b o, T ≤ b → b < w.heap.size → w'.cell? ⟨b, o, none⟩ = w.cell? ⟨b, o, none⟩) ∧ (∀ b o, T ≤ b → b < w.heap.size → w'.frozen? ⟨b, o, none⟩ = w.frozen? ⟨b, o, none⟩) :=
  ⟨fun b _ hT hl => World.cell?_of_block (w := w) (h.block b hl (Or.inr hT)), fun b _ hT hl => World.frozen?_of_block (w := w) (h.block b hl (Or.inr hT))⟩
theorem Within.refl (B T : Nat) (w : World) : Within B T w w := ⟨rfl, rfl, rfl, Nat.le_refl _, fun _ _ _ => rfl⟩
theorem Within.trans {B T : Nat} {a b c : World} (h : Within B T a b) (k : Within B T b c) : Within B T a c :=
  ⟨k.os.trans h.os, k.tape.trans h.tape, k.output.trans h.output, Nat.le_trans h.size k.size, fun i hi hx => (k.block i (by have := h.size; omega) hx).trans (h.block i hi hx)⟩
theorem Within.ofBelow {B T : Nat} {w w' : World} (h : Below w.heap.size w w') : Within B T w w' := ⟨h.os, h.tape, h.output, h.size, fun k hk _ => h.block k hk⟩
theorem Within.ofOnly {B T : Nat} {a : Option Addr} {w w' : World} (h : OnlyAt a w w') (hB : ∀ x, a = some x → B ≤ x.block ∧ x.block < T) : Within B T w w' :=
  ⟨h.os, h.tape, h.output, by rw [h.size]; exact Nat.le_refl _, fun k _ hx => h.block k (fun x e => by have := hB x e; omega)⟩
/-- The blocks of an answer lie below T. -/
def LtB (T : Nat) (a : Option Addr) (n : Nat) : Prop := n ≠ 0 → ∀ x, a = some x → x.block < T
theorem OwnB.ltB {w : World} {B : Nat} {a : Option Addr} {n : Nat} {f : Nat → Int} (h : OwnB w B a n f) : LtB w.heap.size a n := by
  intro hn x hx
  rcases h with h0 | ⟨g, rfl, hg, hr⟩
  · exact absurd h0 hn
  · injection hx with hx; subst hx; exact hr.lt
theorem OwnP.ltB {w : World} {B : Nat} {a : Option Addr} {m : Nat} {S : Nat → Int} {L : Nat → Nat} {F : Nat → Nat → Int} {A : Nat → Option Addr} (h : OwnP w B a m S L F A) : LtB w.heap.size a m ∧ ∀ i, i < m → LtB w.heap.size (A i) (L i) := by
  rcases h with h | ⟨gC, C, rfl, h⟩
  · subst h; exact ⟨fun h => absurd rfl h, fun i hi => absurd hi (Nat.not_lt_zero _)⟩
  · exact ⟨fun _ x e => by injection e with e; subst e; exact h.row.lt, fun i hi => (h.each i hi).ltB⟩

theorem OwnB.within {w w' : World} {B T B' : Nat} {a : Option Addr} {n : Nat} {f : Nat → Int} (h : OwnB w B' a n f) (hT : T ≤ B') (hw : Within B T w w') : OwnB w' B' a n f := by
  rcases h with h | ⟨g, rfl, hg, hr⟩
  · exact Or.inl h
  · exact Or.inr ⟨g, rfl, hg, hr.of_block (hw.block g hr.lt (Or.inr (by omega)))⟩

theorem OwnP.within {w w' : World} {B T B' : Nat} {a : Option Addr} {m : Nat} {S : Nat → Int} {L : Nat → Nat} {F : Nat → Nat → Int} {A : Nat → Option Addr} (h : OwnP w B' a m S L F A) (hT : T ≤ B') (hw : Within B T w w') : OwnP w' B' a m S L F A := by
  rcases h with h | ⟨gC, C, rfl, h⟩
  · exact Or.inl h
  · exact Or.inr ⟨gC, C, rfl, h.le, h.row.of_block (hw.block gC h.row.lt (Or.inr (by have := h.le; omega))), fun i hi => (h.each i hi).within hT hw, h.apart⟩

theorem OwnD.within {w w' : World} {B T B' : Nat} {a : Option Addr} {n : Nat} {d : Nat → Int} {p : Option Addr} {m : Nat} {S : Nat → Int} {L : Nat → Nat} {F : Nat → Nat → Int} {A : Nat → Option Addr} (h : OwnD w B' a n d p m S L F A) (hT : T ≤ B') (hw : Within B T w w') : OwnD w' B' a n d p m S L F A :=
  ⟨h.data.within hT hw, h.cache.within hT hw, h.apart⟩

end Go.Proofs.Ytlcamfkgkcjehaa

namespace Go.Proofs.Ytlcamfkgkcjehaa
open Go.RowKit Go.Deep

/-- A box of four cells. -/
def Box4 (w : World) (b : Nat) (v0 v1 v2 v3 : Value) : Prop :=
  w.cell? ⟨b, 0, none⟩ = some v0 ∧ w.cell? ⟨b, 1, none⟩ = some v1 ∧ w.cell? ⟨b, 2, none⟩ = some v2 ∧ w.cell? ⟨b, 3, none⟩ = some v3 ∧ b < w.heap.size

theorem Box4.new (w : World) (v0 v1 v2 v3 : Value) (t : TypeId) : Box4 (w.alloc (.cells #[v0, v1, v2, v3] t)) w.heap.size v0 v1 v2 v3 := by
  refine ⟨?_, ?_, ?_, ?_, ?_⟩ <;> simp

theorem Box4.below {w w' : World} {b : Nat} {v0 v1 v2 v3 : Value} (h : Box4 w b v0 v1 v2 v3) (hb : Below w.heap.size w w') : Box4 w' b v0 v1 v2 v3 := by
  obtain ⟨h0, h1, h2, h3, hl⟩ := h
  have := hb.size
  exact ⟨(hb.cell (p := ⟨b, 0, none⟩) hl).trans h0, (hb.cell (p := ⟨b, 1, none⟩) hl).trans h1, (hb.cell (p := ⟨b, 2, none⟩) hl).trans h2, (hb.cell (p := ⟨b, 3, none⟩) hl).trans h3, by omega⟩

theorem Box4.within {w w' : World} {B T b : Nat} {v0 v1 v2 v3 : Value} (h : Box4 w b v0 v1 v2 v3) (hT : T ≤ b) (hw : Within B T w w') : Box4 w' b v0 v1 v2 v3 := by
  obtain ⟨h0, h1, h2, h3, hl⟩ := h
  have := hw.size
  obtain ⟨hc, _⟩ := hw.cells
  exact ⟨(hc b 0 hT hl).trans h0, (hc b 1 hT hl).trans h1, (hc b 2 hT hl).trans h2, (hc b 3 hT hl).trans h3, by omega⟩

theorem Within.mono {B T B' T' : Nat} {w w' : World} (h : Within B T w w') (hB : B' ≤ B) (hT : T ≤ T') : Within B' T' w w' :=
  ⟨h.os, h.tape, h.output, h.size, fun k hk hx => h.block k hk (by omega)⟩

theorem rowIn.within {w w' : World} {B T g : Nat} {t : TypeId} {n : Nat} {F : Nat → Value} (h : rowIn w g t n F) (hT : T ≤ g ∨ g < B) (hw : Within B T w w') : rowIn w' g t n F :=
  h.of_block (hw.block g h.lt (by omega))

theorem rowIn.below {w w' : World} {g : Nat} {t : TypeId} {n : Nat} {F : Nat → Value} (h : rowIn w g t n F) (hb : Below w.heap.size w w') : rowIn w' g t n F := h.of_block (hb.block g h.lt)
theorem OwnD.ltB {w : World} {B : Nat} {a : Option Addr} {n : Nat} {d : Nat → Int} {p : Option Addr} {m : Nat} {S : Nat → Int} {L : Nat → Nat} {F : Nat → Nat → Int} {A : Nat → Option Addr} (h : OwnD w B a n d p m S L F A) :
    LtB w.heap.size a n ∧ LtB w.heap.size p m ∧ ∀ i, i < m → LtB w.heap.size (A i) (L i) := ⟨h.data.ltB, h.cache.ltB⟩
theorem alloc_size (w : World) (o : Obj) : (w.alloc o).heap.size = w.heap.size + 1 := by simp
end Go.Proofs.Ytlcamfkgkcjehaa

namespace Go.Proofs.Ytlcamfkgkcjehaa
open Go.RowKit Go.Deep
set_option linter.unusedVariables false
set_option maxRecDepth 100000

/-- The cells of a row of pending writes. -/
def pendRow (S : Nat → Int) (A : Nat → Option Addr) (L C : Nat → Nat) (k : Nat) : List Value := (List.range (k * 2)).map (pendCell S A L C)
theorem pendRow_length (S : Nat → Int) (A : Nat → Option Addr) (L C : Nat → Nat) (k : Nat) : (pendRow S A L C k).length = k * 2 := by simp [pendRow]
theorem pendRow_get (S : Nat → Int) (A : Nat → Option Addr) (L C : Nat → Nat) (k i : Nat) (h : i < k * 2) : (pendRow S A L C k)[i]? = some (pendCell S A L C i) := by simp [pendRow, h]
theorem pendRow_succ (S : Nat → Int) (A : Nat → Option Addr) (L C : Nat → Nat) (k : Nat) (ad : Option Addr) (cp : Nat) :
    pendRow S A L C k ++ [.int .i64 (S k), .slice ad (L k) cp] = pendRow S (fun i => if i = k then ad else A i) L (fun i => if i = k then cp else C i) (k + 1) := by
  apply List.ext_getElem?
  intro i
  by_cases h1 : i < k * 2
  · rw [List.getElem?_append_left (by rw [pendRow_length]; exact h1), pendRow_get _ _ _ _ _ _ h1, pendRow_get _ _ _ _ _ _ (by omega)]
    unfold pendCell
    have : ¬ i / 2 = k := by omega
    simp [this]
  · rw [List.getElem?_append_right (by rw [pendRow_length]; omega), pendRow_length]
    by_cases h2 : i = k * 2
    · subst h2
      rw [pendRow_get _ _ _ _ _ _ (by omega), pendCell_even]
      simp
    · by_cases h3 : i = k * 2 + 1
      · subst h3
        rw [pendRow_get _ _ _ _ _ _ (by omega), pendCell_odd]
        have : k * 2 + 1 - k * 2 = 1 := by omega
        simp [this]
      · rw [List.getElem?_eq_none (by simp; omega), List.getElem?_eq_none (by rw [pendRow_length]; omega)]

/-- Writes gathered one by one in the call's own memory. -/
structure Gath (w : World) (B : Nat) (v : Value) (k : Nat) (S : Nat → Int) (L : Nat → Nat) (F : Nat → Nat → Int) (A : Nat → Option Addr) (C : Nat → Nat) : Prop where
  row : w.ownsRow B 49 2 v k (pendRow S A L C k)
  each : ∀ i, i < k → OwnB w B (A i) (L i) (F i)
  apart : ∀ i j, i < k → j < k → i ≠ j → L i ≠ 0 → L j ≠ 0 → A i ≠ A j

theorem Gath.ownP {w : World} {B : Nat} {v : Value} {k : Nat} {S : Nat → Int} {L : Nat → Nat} {F : Nat → Nat → Int} {A : Nat → Option Addr} {C : Nat → Nat} (h : Gath w B v k S L F A C) : ∃ p q, v = .slice p k q ∧ OwnP w B p k S L F A := by
  rcases h.row.2 with ⟨hv, hk⟩ | ⟨g, cap, cur, hv, hg, hh, h1, h2, h3, h4⟩
  · subst hk; exact ⟨none, 0, hv, Or.inl rfl⟩
  · refine ⟨_, cap, hv, Or.inr ⟨g, C, rfl, hg, ⟨cur, hh, by omega, fun i hi => ?_⟩, h.each, h.apart⟩⟩
    rw [← pendRow_get S A L C k i hi, ← h4, List.getElem?_take, if_pos hi]
    simp

theorem Gath.start (w : World) (B : Nat) (S : Nat → Int) (L : Nat → Nat) (F : Nat → Nat → Int) : Gath w B (.slice none 0 0) 0 S L F (fun _ => none) (fun _ => 0) :=
  ⟨World.ownsRow_nil _ _ _ _, fun i hi => absurd hi (Nat.not_lt_zero _), fun i j hi => absurd hi (Nat.not_lt_zero _)⟩

theorem owns_below {w w' : World} {B : Nat} {e : TypeId} {size : Nat} {v : Value} {n : Nat} {xs : List Value} (h : w.ownsRow B e size v n xs) (hb : Below w.heap.size w w') : w'.ownsRow B e size v n xs := by
  obtain ⟨h1, h2⟩ := h
  refine ⟨h1, ?_⟩
  rcases h2 with h2 | ⟨g, cap, cur, hv, hg, hh, r⟩
  · exact Or.inl h2
  · exact Or.inr ⟨g, cap, cur, hv, hg, (hb.block g (Array.getElem?_eq_some_iff.1 hh).1).trans hh, r⟩

theorem Gath.below {w w' : World} {B : Nat} {v : Value} {k : Nat} {S : Nat → Int} {L : Nat → Nat} {F : Nat → Nat → Int} {A : Nat → Option Addr} {C : Nat → Nat} (h : Gath w B v k S L F A C) (hb : Below w.heap.size w w') : Gath w' B v k S L F A C :=
  ⟨owns_below h.row hb, fun i hi => (h.each i hi).below hb, h.apart⟩

theorem Gath.setOther {w : World} {B : Nat} {v : Value} {k : Nat} {S : Nat → Int} {L : Nat → Nat} {F : Nat → Nat → Int} {A : Nat → Option Addr} {C : Nat → Nat} (h : Gath w B v k S L F A C) {x : Addr} (hx : x.block < B) (u : Value) : Gath (w.setCell x u) B v k S L F A C :=
  ⟨ownsRow_setCell_below h.row hx u, fun i hi => (h.each i hi).setOther hx u, h.apart⟩

theorem Gath.mono {w : World} {B B' : Nat} {v : Value} {k : Nat} {S : Nat → Int} {L : Nat → Nat} {F : Nat → Nat → Int} {A : Nat → Option Addr} {C : Nat → Nat} (h : Gath w B v k S L F A C) (hB : B' ≤ B) : Gath w B' v k S L F A C := by
  refine ⟨⟨h.row.1, ?_⟩, fun i hi => (h.each i hi).mono hB, h.apart⟩
  rcases h.row.2 with h2 | ⟨g, cap, cur, hv, hg, r⟩
  · exact Or.inl h2
  · exact Or.inr ⟨g, cap, cur, hv, by omega, r⟩

theorem Gath.congr {w : World} {B : Nat} {v : Value} {k : Nat} {S S' : Nat → Int} {L L' : Nat → Nat} {F F' : Nat → Nat → Int} {A : Nat → Option Addr} {C : Nat → Nat} (h : Gath w B v k S L F A C) (hS : ∀ i, i < k → S i = S' i) (hL : ∀ i, i < k → L i = L' i) (hF : ∀ i, i < k → F i = F' i) : Gath w B v k S' L' F' A C := by
  have e : pendRow S A L C k = pendRow S' A L' C k := by
    unfold pendRow
    refine List.map_congr_left (fun c hc => ?_)
    have hc' : c / 2 < k := by have := List.mem_range.1 hc; omega
    unfold pendCell
    rw [hS _ hc', hL _ hc']
  refine ⟨by rw [← e]; exact h.row, fun i hi => ?_, fun i j hi hj hij h1 h2 => h.apart i j hi hj hij (by rw [hL i hi]; exact h1) (by rw [hL j hj]; exact h2)⟩
  rw [← hL i hi, ← hF i hi]
  exact h.each i hi

/-- One write more: its bytes have been made in w1, then the row was grown to w2. -/
theorem Gath.more {w w1 w2 : World} {B : Nat} {v v' : Value} {k : Nat} {S : Nat → Int} {L : Nat → Nat} {F : Nat → Nat → Int} {A : Nat → Option Addr} {C : Nat → Nat} (h : Gath w B v k S L F A C) (hB : B ≤ w.heap.size) (hb : Below w.heap.size w w1) (ad : Option Addr) (cp : Nat) (hn : OwnB w1 w.heap.size ad (L k) (F k))
    (hr : w2.ownsRow B 49 2 v' (k + 1) (pendRow S A L C k ++ [.int .i64 (S k), .slice ad (L k) cp])) (hg : w1.grownBy w2 v.ownBlock) :
    Gath w2 B v' (k + 1) S L F (fun i => if i = k then ad else A i) (fun i => if i = k then cp else C i) := by
  have keep : ∀ {a : Option Addr} {n : Nat} {f : Nat → Int} {B' : Nat}, OwnB w1 B' a n f → OwnB w2 B' a n f := by
    intro a n f B' ho
    rcases ho with h0 | ⟨g, rfl, hg', hr'⟩
    · exact Or.inl h0
    · refine Or.inr ⟨g, rfl, hg', hr'.of_block (hg.block g hr'.lt (fun e => ?_))⟩
      rcases h.row.2 with ⟨hv, _⟩ | ⟨g2, cap, cur, hv, _, hh, _⟩
      · rw [hv] at e; simp [Value.ownBlock] at e
      · rw [hv] at e
        simp [Value.ownBlock] at e
        subst e
        have hh1 : w1.heap[g]? = some (.cells cur 49 (0, 0)) := (hb.block g (Array.getElem?_eq_some_iff.1 hh).1).trans hh
        obtain ⟨c', hc', _⟩ := hr'
        rw [hh1] at hc'
        injection hc' with e1
        injection e1 with _ e2 _
        revert e2
        decide
  refine ⟨by rw [← pendRow_succ]; exact hr, fun i hi => ?_, fun i j hi hj hij hl1 hl2 => ?_⟩
  · by_cases e : i = k
    · subst e; simp only [if_true]; exact keep (hn.mono hB)
    · simp only [if_neg e]; exact keep ((h.each i (by omega)).below hb)
  · have key : ∀ j, j < k → L j ≠ 0 → L k ≠ 0 → A j ≠ ad := by
      intro j hj hl hlk e
      rcases h.each j hj with h0 | ⟨g', hA, hg', hr'⟩
      · exact hl h0
      · rcases hn with h0 | ⟨g2, hA2, hg2, _⟩
        · exact hlk h0
        · rw [hA, hA2] at e
          injection e with e
          injection e with e
          have := hr'.lt
          omega
    by_cases e1 : i = k
    · by_cases e2 : j = k
      · omega
      · subst e1
        simp only [if_true, if_neg e2]
        exact fun e => key j (by omega) hl2 hl1 e.symm
    · by_cases e2 : j = k
      · subst e2
        simp only [if_neg e1, if_true]
        exact key i (by omega) hl1 hl2
      · simp only [if_neg e1, if_neg e2]
        exact h.apart i j (by omega) (by omega) hij hl1 hl2

/-- 'append' of one write to a row of the call's own, as a step of a region that draws its order. -/
theorem step_append_pend {ops : Array Oper} {o : Oper} {a : Act} {w : World} {K : Act → World → Prop} {Q : Exit → Act → World → Prop} {E : Prop} (hgd : o.guard = none) (x y : Operand)
    (ho : o.op = .call { callee := .builtin .append, args := #[x, y], argTypes := #[23, 23] })
    (B k : Nat) (v : Value) (xs : List Value) (hx : a.eval x = v) (hown : w.ownsRow B 49 2 v k xs) (b c : Nat) (u0 u1 : Value) (hy : a.eval y = .slice (some ⟨b, 0, none⟩) 1 c)
    (hc0 : w.cell? ⟨b, 0, none⟩ = some u0) (hc1 : w.cell? ⟨b, 1, none⟩ = some u1) (h0 : u0.oneCell' = true) (h1 : u1.oneCell' = true) (hk : k ≤ 1048576) (hB : B ≤ w.heap.size)
    (h : ∀ v' w', w'.ownsRow B 49 2 v' (k + 1) (xs ++ [u0, u1]) → w.grownBy w' v.ownBlock → K (a.put o.dst v') w') :
    if Region.wanted o (yielded ops a.tmps) = true then Oper.wp Try.prog o a w K Q else E := by
  have hw : Region.wanted o (yielded ops a.tmps) = true := by simp [Region.wanted, hgd]
  rw [if_pos hw]
  obtain ⟨i0, hi, hz0, hz1, hz2⟩ := info_parts Try.info49
  refine wp_append_own w x y 23 ho B 49 i0 _ 2 32 Try.underlying23 hi hz0 hz1 hz2 rfl (by decide) v k xs hx hown ⟨b, 0, none⟩ 1 c [u0, u1] hy rfl ?_ ?_ (by unfold maxLen; omega) (by omega) hB (fun v' w' q1 q2 _ => h v' w' q1 q2)
  · intro j u hj
    match j, hj with
    | 0, hj => simp at hj; subst hj; simpa [Addr.add] using hc0
    | 1, hj => simp at hj; subst hj; simpa [Addr.add] using hc1
    | j + 2, hj => simp at hj
  · intro u hu
    simp at hu
    rcases hu with rfl | rfl
    · exact h0
    · exact h1
end Go.Proofs.Ytlcamfkgkcjehaa

namespace Go.Proofs.Ytlcamfkgkcjehaa
open Go.RowKit Go.Deep
set_option maxRecDepth 100000
set_option linter.unusedVariables false

/-- The disk with a sector replaced. -/
def over (d : Nat → Int) (s : Nat) (f : Nat → Int) : Nat → Int := fun j => if j < s * 64 then d j else if j < s * 64 + 64 then f (j - s * 64) else d j

theorem byteRow_over (d f : Nat → Int) (s n : Nat) (h : s * 64 + 64 ≤ n) : byteRow d (s * 64) ++ byteRow f 64 ++ byteRow (fun i => d (s * 64 + 64 + i)) (n - (s * 64 + 64)) = byteRow (over d s f) n := by
  apply List.ext_getElem?
  intro i
  by_cases h1 : i < s * 64
  · rw [List.getElem?_append_left (by simp [byteRow_length]; omega), List.getElem?_append_left (by rw [byteRow_length]; exact h1), byteRow_get _ _ _ h1, byteRow_get _ _ _ (by omega)]
    simp [over, h1]
  · by_cases h2 : i < s * 64 + 64
    · rw [List.getElem?_append_left (by simp [byteRow_length]; omega), List.getElem?_append_right (by rw [byteRow_length]; omega), byteRow_length, byteRow_get _ _ _ (by omega), byteRow_get _ _ _ (by omega)]
      simp [over, h1, h2]
    · by_cases h3 : i < n
      · rw [List.getElem?_append_right (by simp [byteRow_length]; omega), List.length_append, byteRow_length, byteRow_length, byteRow_get _ _ _ (by omega), byteRow_get _ _ _ h3]
        have e : s * 64 + 64 + (i - (s * 64 + 64)) = i := by omega
        simp [over, h1, h2, e]
      · rw [List.getElem?_eq_none (by simp [byteRow_length]; omega), List.getElem?_eq_none (by rw [byteRow_length]; omega)]

theorem rd_from {w : World} {b o n : Nat} {d : Nat → Int} (hc : ∀ i, i < n → w.cell? ⟨b, o + i, none⟩ = some (.int .u8 (d i))) (k m : Nat) (hs : k + m ≤ n) : Rd .u8 w (some ⟨b, o + k, none⟩) m (fun j => d (k + j)) :=
  Or.inr ⟨b, o + k, rfl, fun i hi => by rw [Nat.add_assoc]; exact hc (k + i) (by omega)⟩

set_option maxHeartbeats 1000000 in
theorem l1Over_any (a a2 : Option Addr) (n c c2 s : Nat) (d f : Nat → Int) (w : World) (ha : Rd .u8 w a n d) (hf : Rd .u8 w a2 64 f) (hs : s * 64 + 64 ≤ n) (hn : n ≤ 1048576) (hnc : n ≤ c) (hcm : c ≤ 9223372036854775807) :
    Calls Try.prog 29 #[.slice a n c, .int .i64 s, .slice a2 64 c2] w fun e w' => RetOwn w e w' n (over d s f) := by
  rcases ha with h | ⟨b, o, rfl, hc⟩
  · omega
  have HC : Hid (∀ i, i < n → w.cell? ⟨b, o + i, none⟩ = some (.int .u8 (d i))) := hc
  have HF : Hid (Rd .u8 w a2 64 f) := hf
  have HR1 : Hid (∀ O, Rd .u8 (w.alloc O) (some ⟨b, o, none⟩) (s * 64) d) := fun O => Rd.below (w := w) (Or.inr ⟨b, o, rfl, fun i hi => hc i (by omega)⟩) (below_alloc _ _)
  have i1 : (s : Int) * 64 ≤ (c : Int) := by omega
  have i2 : (s : Int) * 64 + 64 ≤ (n : Int) := by omega
  clear hc hf
  go_enter Try.func29, Try.ntmps29
  go_wp2_with (at_builtin; refine wpList_append_rd rfl _ _ rfl w.heap.size (.slice (some ⟨w.heap.size, 0, none⟩) 0 0) 0 [] rfl (World.ownsRow_lit w #[] 0 (Nat.le_refl _) (Nat.zero_le _) rfl) (some ⟨b, o, none⟩) (s * 64) _ d rfl (HR1.out _) (by omega) (by simp) ?_)
  intro v1 w1 ho1 hg1
  have HB1 : Hid (Below w.heap.size w w1) := (below_alloc _ _).grown hg1 (by simp) (fun k e => by simp [Value.ownBlock] at e; omega)
  have ho1' : w1.ownsRow w.heap.size 5 1 v1 (s * 64) (byteRow d (s * 64)) := by simpa using ho1
  have HO1 : Hid (w1.ownsRow w.heap.size 5 1 v1 (s * 64) (byteRow d (s * 64))) := ho1'
  have z1 := HB1.out.size
  clear ho1 hg1 ho1'
  go_wp2_with (at_builtin; refine wpList_append_rd rfl _ _ rfl w.heap.size v1 (s * 64) (byteRow d (s * 64)) rfl HO1.out a2 64 c2 f rfl (HF.out.below HB1.out) (by omega) z1 ?_)
  intro v2 w2 ho2 hg2
  have HB2 : Hid (Below w.heap.size w w2) := HB1.out.grown hg2 z1 (fun k e => (HO1.out.lt k e).1)
  have HO2 : Hid (w2.ownsRow w.heap.size 5 1 v2 (s * 64 + 64) (byteRow d (s * 64) ++ byteRow f 64)) := ho2
  have z2 := HB2.out.size
  have HR2 : Hid (Rd .u8 w2 (some ⟨b, o + (s * 64 + 64), none⟩) (n - (s * 64 + 64)) (fun i => d (s * 64 + 64 + i))) := Rd.below (w := w) (rd_from HC.out (s * 64 + 64) (n - (s * 64 + 64)) (by omega)) HB2.out
  clear ho2 hg2
  have HFIN : Hid (∀ v3 w3, w3.ownsRow w.heap.size 5 1 v3 n (byteRow d (s * 64) ++ (byteRow f 64 ++ byteRow (fun i => d (s * 64 + 64 + i)) (n - (s * 64 + 64)))) → w2.grownBy w3 v2.ownBlock → RetOwn w (.returned v3) w3 n (over d s f)) := by
    intro v3 w3 ho3 hg3
    rw [← List.append_assoc, byteRow_over d f s n hs] at ho3
    obtain ⟨a', c', rfl, q1, q2, q3⟩ := ownB_ofRow ho3
    exact ⟨a', c', rfl, q1, HB2.out.grown hg3 z2 (fun k e => (HO2.out.lt k e).1), q2, q3⟩
  by_cases hcc : c = s * 64 + 64
  · have en : n = s * 64 + 64 := by omega
    have HL : Hid (byteRow d (s * 64) ++ byteRow f 64 = byteRow (over d s f) n) := by
      show _ = _
      rw [← byteRow_over d f s n hs, show n - (s * 64 + 64) = 0 by omega]
      simp [byteRow]
    subst hcc
    subst en
    clear HFIN HR2
    go_wp2_with (at_builtin; refine wpList_append_rd rfl _ _ rfl w.heap.size v2 (s * 64 + 64) (byteRow d (s * 64) ++ byteRow f 64) rfl HO2.out (some ⟨b, o, none⟩) (s * 64 + 64 - (s * 64 + 64)) _ (fun _ => 0) rfl (Or.inl (Nat.sub_self _)) (by omega) z2 ?_)
    intro v3 w3 ho3 hg3
    have ho3' : w3.ownsRow w.heap.size 5 1 v3 (s * 64 + 64) (byteRow d (s * 64) ++ byteRow f 64) := by simpa [byteRow] using ho3
    rw [HL.out] at ho3'
    obtain ⟨a', c', rfl, q1, q2, q3⟩ := ownB_ofRow ho3'
    have HE : Hid (RetOwn w (.returned (.slice a' (s * 64 + 64) c')) w3 (s * 64 + 64) (over d s f)) := ⟨a', c', rfl, q1, HB2.out.grown hg3 z2 (fun k e => (HO2.out.lt k e).1), q2, q3⟩
    clear ho3 hg3 ho3' q1
    go_wp2
    go_ret
    exact HE.out
  · have hcc' : (s : Int) * 64 + 64 < (c : Int) := by omega
    clear hcc
    go_wp2_with (at_builtin; refine wpList_append_rd rfl _ _ rfl w.heap.size v2 (s * 64 + 64) (byteRow d (s * 64) ++ byteRow f 64) rfl HO2.out (some ⟨b, o + (s * 64 + 64), none⟩) (n - (s * 64 + 64)) _ (fun i => d (s * 64 + 64 + i)) rfl HR2.out (by omega) z2 ?_)
    intro v3 w3 ho3 hg3
    have HE : Hid (RetOwn w (.returned v3) w3 n (over d s f)) := HFIN.out v3 w3 ho3 hg3
    clear ho3 hg3
    go_wp2
    go_ret
    exact HE.out
end Go.Proofs.Ytlcamfkgkcjehaa

namespace Go.Proofs.Ytlcamfkgkcjehaa
open Go.RowKit Go.Deep
set_option linter.unusedVariables false
set_option maxRecDepth 100000

/-- A sector as a value: 64 bytes. -/
def secA (f : Nat → Int) : Array Value := (byteRow f 64).toArray
theorem secA_size (f : Nat → Int) : (secA f).size = 64 := by simp [secA, byteRow_length]
theorem secA_get (f : Nat → Int) (i : Nat) (h : i < 64) : (secA f)[i]? = some (.int .u8 (f i)) := by
  show (byteRow f 64).toArray[i]? = _
  rw [List.getElem?_toArray, byteRow_get f 64 i h]
theorem secA_congr {f g : Nat → Int} (h : ∀ i, i < 64 → f i = g i) : secA f = secA g := by
  apply Array.ext_getElem?
  intro i
  by_cases hi : i < 64
  · rw [secA_get f i hi, secA_get g i hi, h i hi]
  · rw [Array.getElem?_eq_none (by rw [secA_size]; omega), Array.getElem?_eq_none (by rw [secA_size]; omega)]
theorem secA_ofRow {cur : Array Value} {f : Nat → Int} (hs : cur.size = 64) (h : ∀ i, i < 64 → cur[i]? = some (.int .u8 (f i))) : cur = secA f := by
  apply Array.ext_getElem?
  intro i
  by_cases hi : i < 64
  · rw [secA_get f i hi, h i hi]
  · rw [Array.getElem?_eq_none (by omega), Array.getElem?_eq_none (by rw [secA_size]; omega)]
theorem secA_cells (f : Nat → Int) : (secA f).all (·.oneCell') = true := by
  rw [Array.all_eq_true_iff_forall_mem]
  intro v hv
  simp only [secA, byteRow, List.mem_toArray, List.mem_map] at hv
  obtain ⟨i, _, rfl⟩ := hv
  rfl

/-- A variable that holds a sector. -/
def Sec (w : World) (g : Nat) (f : Nat → Int) : Prop := w.heap[g]? = some (.cells (secA f) 82 (0, 0))

theorem Sec.row {w : World} {g : Nat} {f : Nat → Int} (h : Sec w g f) : rowIn w g 82 64 (fun i => .int .u8 (f i)) := ⟨secA f, h, by rw [secA_size]; exact Nat.le_refl _, fun i hi => secA_get f i hi⟩
theorem Sec.lt {w : World} {g : Nat} {f : Nat → Int} (h : Sec w g f) : g < w.heap.size := h.row.lt
theorem Sec.cell {w : World} {g : Nat} {f : Nat → Int} (h : Sec w g f) {i : Nat} (hi : i < 64) : w.cell? ⟨g, i, none⟩ = some (.int .u8 (f i)) := h.row.cell hi
theorem Sec.frozen {w : World} {g : Nat} {f : Nat → Int} (h : Sec w g f) (i : Nat) : w.frozen? ⟨g, i, none⟩ = false := h.row.frozen i
theorem Sec.of_block {w w' : World} {g : Nat} {f : Nat → Int} (h : Sec w g f) (e : w'.heap[g]? = w.heap[g]?) : Sec w' g f := e.trans h
theorem Sec.below {w w' : World} {g : Nat} {f : Nat → Int} (h : Sec w g f) (hb : Below w.heap.size w w') : Sec w' g f := h.of_block (hb.block g h.lt)
theorem Sec.congr {w : World} {g : Nat} {f f' : Nat → Int} (h : Sec w g f) (e : ∀ i, i < 64 → f i = f' i) : Sec w g f' := by
  unfold Sec
  rw [← secA_congr e]
  exact h
theorem Sec.set {w : World} {g : Nat} {f : Nat → Int} (h : Sec w g f) (i : Nat) (v : Int) : Sec (w.setCell ⟨g, i, none⟩ (.int .u8 v)) g (fun j => if j = i then v else f j) := by
  have e : (w.setCell ⟨g, i, none⟩ (.int .u8 v)).heap[g]? = some (.cells ((secA f).setIfInBounds i (.int .u8 v)) 82 (0, 0)) := by
    have h' : w.heap[g]? = some (.cells (secA f) 82 (0, 0)) := h
    simp [World.setCell, Array.getElem?_modify, h']
  unfold Sec
  rw [e]
  congr 2
  refine secA_ofRow (by simp [secA_size]) (fun j hj => ?_)
  rw [Array.getElem?_setIfInBounds]
  by_cases ej : j = i
  · subst ej
    simp [secA_size, hj]
  · rw [if_neg (fun h => ej h.symm), secA_get f j hj]
    simp [ej]
theorem Sec.rd {w : World} {g : Nat} {f : Nat → Int} (h : Sec w g f) (k n : Nat) (hk : k + n ≤ 64) : Rd .u8 w (some ⟨g, k, none⟩) n (fun i => f (k + i)) :=
  Or.inr ⟨g, k, rfl, fun i hi => h.cell (by omega)⟩
theorem Sec.new (w : World) (f : Nat → Int) : Sec (w.alloc (.cells (secA f) 82)) w.heap.size f := heap_alloc_last w _
theorem Sec.load {w : World} {g : Nat} {f : Nat → Int} (h : Sec w g f) : (Instr.loadAt 82 (.pointer (some ⟨g, 0, none⟩))).run Try.prog w = .ok (.agg (secA f)) w := by
  simp only [Instr.loadAt, Instr.sureAddr, Sem.run_bind, Sem.run_pure, Result.andThen]
  exact run_loadVar_row w g 82 82 (secA f) (0, 0) (.array 64 5) h (by kernel_rfl) rfl (by rw [secA_size]; kernel_rfl)
theorem Sec.store {w : World} {g : Nat} {f : Nat → Int} (h : Sec w g f) (f' : Nat → Int) : (Instr.storeAt 82 (.pointer (some ⟨g, 0, none⟩)) (.agg (secA f'))).run Try.prog w = .ok () (w.setRow g (secA f')) := by
  simp only [Instr.storeAt, Instr.sureAddr, Sem.run_bind, Sem.run_pure, Result.andThen]
  exact run_storeVar_row w g 82 82 (secA f) (secA f') h (by rw [secA_size]; kernel_rfl) (by rw [secA_size, secA_size]) (secA_cells f')

theorem Sec.setRow {w : World} {g : Nat} {f : Nat → Int} (h : Sec w g f) (f' : Nat → Int) : Sec (w.setRow g (secA f')) g f' ∧ OnlyAt (some ⟨g, 0, none⟩) w (w.setRow g (secA f')) :=
  ⟨setRow_heap w g _ _ _ _ h, ⟨rfl, rfl, rfl, by simp [World.setRow], fun k hk => setRow_other w g k _ (fun e => hk _ rfl (by simp [e]))⟩⟩

/-- A sector taken out of its variable. -/
theorem wpList_load_sec {w : World} {ops : Array Oper} {rest : List Oper} {act : Act} {Q : Exit → Act → World → Prop} {dst : Option Nat} {p : Operand} {ty : TypeId} {ps : String} {af : Array Edge} (g : Nat) (f : Nat → Int) (hp : act.eval p = .pointer (some ⟨g, 0, none⟩)) (hs : Sec w g f)
    (h : wpList Try.prog ops Q rest (act.put dst (.agg (secA f))) w) : wpList Try.prog ops Q ({ dst := dst, op := .load 82 p, type := ty, pos := ps, after := af, guard := none } :: rest) act w := by
  refine wpList_plain rfl fun K hK => ?_
  unfold Oper.wp
  simp [execOp, hp, hs.load, Result.andThen]
  exact hK _ _ h

/-- A sector laid into a variable. -/
theorem wpList_store_sec {w : World} {ops : Array Oper} {rest : List Oper} {act : Act} {Q : Exit → Act → World → Prop} {p v : Operand} {ty : TypeId} {ps : String} {af : Array Edge} (g : Nat) (f f' : Nat → Int) (hp : act.eval p = .pointer (some ⟨g, 0, none⟩)) (hv : act.eval v = .agg (secA f')) (hs : Sec w g f)
    (h : ∀ w', Sec w' g f' → OnlyAt (some ⟨g, 0, none⟩) w w' → wpList Try.prog ops Q rest act w') : wpList Try.prog ops Q ({ dst := none, op := .store 82 p v, type := ty, pos := ps, after := af, guard := none } :: rest) act w := by
  refine wpList_plain rfl fun K hK => ?_
  unfold Oper.wp
  simp [execOp, hp, hv, hs.store, Result.andThen]
  exact hK _ _ (h _ (hs.setRow f').1 (hs.setRow f').2)

/-- A sector handed back. -/
theorem retSec {fn : Func} {p : Tmp} (h : fn.results = #[.cell p 82]) (tmps : Array Value) (w : World) (g : Nat) (hp : tmps.getD p undef = .pointer (some ⟨g, 0, none⟩)) {f : Nat → Int} (hs : Sec w g f) : (results fn tmps).run Try.prog w = .ok (.agg (secA f)) w :=
  results_cell_row h tmps w g 82 (secA f) (0, 0) (.array 64 5) hp hs (by kernel_rfl) rfl (by rw [secA_size]; kernel_rfl)

/-- Byte i of a number, the lowest first. -/
def byteAt (v : Int) (i : Nat) : Int := v / 256 ^ i % 256
theorem byteAt_range (v : Int) (i : Nat) : 0 ≤ byteAt v i ∧ byteAt v i < 256 := by unfold byteAt; omega

theorem pow256 (j : Nat) : (2 : Int) ^ (8 * j) = 256 ^ j := by rw [Int.pow_mul]; rfl

/-- A number written into bytes. -/
def putN (f : Nat → Int) (o k : Nat) (v : Int) : Nat → Int := fun j => if o ≤ j ∧ j < o + k then byteAt v (j - o) else f j
theorem putN_zero (f : Nat → Int) (o : Nat) (v : Int) : putN f o 0 v = f := by
  funext j
  unfold putN
  rw [if_neg (by omega)]
theorem putN_succ (f : Nat → Int) (o k : Nat) (v : Int) : putN f o (k + 1) v = fun j => if j = o + k then byteAt v k else putN f o k v j := by
  funext j
  unfold putN
  by_cases e : j = o + k
  · subst e
    rw [if_pos (by omega), if_pos rfl, show o + k - o = k by omega]
  · rw [if_neg e]
    by_cases h : o ≤ j ∧ j < o + k
    · rw [if_pos (by omega), if_pos h]
    · rw [if_neg (by omega), if_neg h]

/-- A number read from bytes. -/
def getN (f : Nat → Int) (o : Nat) : Nat → Int
  | 0 => 0
  | k + 1 => getN f o k + f (o + k) * 256 ^ k

set_option maxHeartbeats 1000000 in
theorem putNumber_any (g o k : Nat) (v : Int) (f : Nat → Int) (w : World) (h : Sec w g f) (hk : k ≤ 4) (hf : o + k ≤ 64) :
    Calls Try.prog 76 #[.pointer (some ⟨g, 0, none⟩), .int .i64 o, .int .i64 k, .int .i64 v] w fun e w' => e = .returned (.tuple #[]) ∧ Sec w' g (putN f o k v) ∧ OnlyAt (some ⟨g, 0, none⟩) w w' := by
  have H : Hid (Sec w g f) := h
  clear h
  go_enter Try.func76, Try.ntmps76
  go_wp2
  go_loopw [8, 10] (fun _ i wr => ∃ j : Nat, j ≤ k ∧ i = .int .i64 j ∧ Sec wr g (putN f o j v) ∧ OnlyAt (some ⟨g, 0, none⟩) w wr) (fun _ i _ => k - (intOf i).toNat)
  case atStart => exact ⟨0, Nat.zero_le _, rfl, by rw [putN_zero]; exact H.out, OnlyAt.refl _ _⟩
  case round =>
    obtain ⟨j, hj, rfl, hs, ho⟩ := hrel
    by_cases hlt : j < k
    · have hcell := hs.cell (i := o + j) (by omega)
      have hfz := hs.frozen
      have hgl := hs.lt
      have HS : Hid (Sec wr g (putN f o j v) ∧ OnlyAt (some ⟨g, 0, none⟩) w wr) := ⟨hs, ho⟩
      clear hs ho
      go_wp2
      go_region
      have HX : Hid (Sec (wr.setCell ⟨g, o + j, none⟩ (.int .u8 (v / 2 ^ (8 * j) % 256))).drew g (putN f o (j + 1) v) ∧ OnlyAt (some ⟨g, 0, none⟩) w (wr.setCell ⟨g, o + j, none⟩ (.int .u8 (v / 2 ^ (8 * j) % 256))).drew) := by
        have ho2 := HS.out.2.setCell (o + j) (.int .u8 (v / 2 ^ (8 * j) % 256))
        refine ⟨?_, ⟨ho2.os, ho2.tape, ho2.output, ho2.size, ho2.block⟩⟩
        rw [putN_succ]
        unfold byteAt
        rw [← pow256]
        exact HS.out.1.set (o + j) _
      clear hcell hfz HS
      go_wp2
      go_roundw
      case rel => exact ⟨j + 1, by omega, by go_num, HX.out⟩
      case measure => simp [intOf]; omega
    · have e : j = k := by omega
      subst e
      have HS : Hid (Sec wr g (putN f o j v) ∧ OnlyAt (some ⟨g, 0, none⟩) w wr) := ⟨hs, ho⟩
      clear hs ho
      go_wp2
      go_end0
      exact ⟨rfl, HS.out⟩

theorem ofInt_i64 (a : Nat) (ha : a < 4294967296) : (BitVec.ofInt 64 (a : Int)).toNat = a := by
  rw [BitVec.ofInt_natCast, BitVec.toNat_ofNat]; exact Nat.mod_eq_of_lt (by omega)
theorem i64_or_nat (a b : Nat) (ha : a < 4294967296) (hb : b < 4294967296) : bits .or .i64 (a : Int) (b : Int) = ((a ||| b : Nat) : Int) := by
  have h1 : (a ||| b) < 2 ^ 32 := Nat.or_lt_two_pow (n := 32) ha hb
  show IntKind.i64.wrap ((BitVec.ofInt 64 (a : Int) ||| BitVec.ofInt 64 (b : Int)).toNat : Int) = _
  rw [BitVec.toNat_or, ofInt_i64 a ha, ofInt_i64 b hb, IntKind.wrap_i64]
  omega
theorem nat_add_or (x b j : Nat) (hx : x < 2 ^ (8 * j)) : x ||| b * 2 ^ (8 * j) = x + b * 2 ^ (8 * j) := by
  have h := Nat.shiftLeft_add_eq_or_of_lt hx b
  rw [Nat.shiftLeft_eq] at h
  rw [Nat.or_comm, ← h]
  omega

theorem pow_cases {j : Nat} (h : j < 4) : (j = 0 ∧ (2 : Nat) ^ (8 * j) = 1 ∧ (2 : Int) ^ (8 * j) = 1 ∧ (256 : Int) ^ j = 1) ∨ (j = 1 ∧ (2 : Nat) ^ (8 * j) = 256 ∧ (2 : Int) ^ (8 * j) = 256 ∧ (256 : Int) ^ j = 256) ∨ (j = 2 ∧ (2 : Nat) ^ (8 * j) = 65536 ∧ (2 : Int) ^ (8 * j) = 65536 ∧ (256 : Int) ^ j = 65536) ∨ (j = 3 ∧ (2 : Nat) ^ (8 * j) = 16777216 ∧ (2 : Int) ^ (8 * j) = 16777216 ∧ (256 : Int) ^ j = 16777216) := by
  match j, h with
  | 0, _ => exact Or.inl ⟨rfl, rfl, rfl, rfl⟩
  | 1, _ => exact Or.inr (Or.inl ⟨rfl, rfl, rfl, rfl⟩)
  | 2, _ => exact Or.inr (Or.inr (Or.inl ⟨rfl, rfl, rfl, rfl⟩))
  | 3, _ => exact Or.inr (Or.inr (Or.inr ⟨rfl, rfl, rfl, rfl⟩))

theorem or_add (x b : Int) (j : Nat) (hj : j < 4) (h0 : 0 ≤ x) (h1 : x < 256 ^ j) (h2 : 0 ≤ b) (h3 : b < 256) : bits .or .i64 x (wrap64 (b * 2 ^ (8 * j))) = x + b * 256 ^ j := by
  obtain ⟨X, rfl⟩ := Int.eq_ofNat_of_zero_le h0
  obtain ⟨B, rfl⟩ := Int.eq_ofNat_of_zero_le h2
  have key : ∀ p : Nat, (2 : Nat) ^ (8 * j) = p → (2 : Int) ^ (8 * j) = p → (256 : Int) ^ j = p → p ≤ 16777216 → bits .or .i64 X (wrap64 ((B : Int) * 2 ^ (8 * j))) = (X : Int) + (B : Int) * 256 ^ j := by
    intro p e1 e2 e3 hp
    rw [e2, e3]
    rw [e3] at h1
    have hB : B < 256 := by omega
    have hXp : X < p := by omega
    have hm : B * p ≤ 255 * 16777216 := Nat.mul_le_mul (by omega) hp
    have hw : wrap64 ((B : Int) * (p : Int)) = ((B * p : Nat) : Int) := by
      rw [← Int.natCast_mul]
      unfold wrap64
      omega
    rw [hw, i64_or_nat X (B * p) (by omega) (by omega), ← e1, nat_add_or X B j (by omega)]
    simp
  rcases pow_cases hj with ⟨_, e1, e2, e3⟩ | ⟨_, e1, e2, e3⟩ | ⟨_, e1, e2, e3⟩ | ⟨_, e1, e2, e3⟩
  · exact key 1 e1 e2 e3 (by omega)
  · exact key 256 e1 e2 e3 (by omega)
  · exact key 65536 e1 e2 e3 (by omega)
  · exact key 16777216 e1 e2 e3 (by omega)

theorem getN_range (f : Nat → Int) (o k : Nat) (hr : ∀ i, i < k → 0 ≤ f (o + i) ∧ f (o + i) < 256) : 0 ≤ getN f o k ∧ getN f o k < 256 ^ k := by
  induction k with
  | zero => simp [getN]
  | succ k ih =>
    have h := ih (fun i hi => hr i (by omega))
    have hb := hr k (by omega)
    have hp : (0 : Int) < 256 ^ k := Int.pow_pos (by omega)
    unfold getN
    rw [Int.pow_succ]
    have h1 : 0 ≤ f (o + k) * 256 ^ k := Int.mul_nonneg hb.1 (by omega)
    have h2 : f (o + k) * 256 ^ k ≤ 255 * 256 ^ k := Int.mul_le_mul_of_nonneg_right (by omega) (by omega)
    omega

set_option maxHeartbeats 1000000 in
theorem littleEndian_any (g o n c : Nat) (f : Nat → Int) (w : World) (hc : ∀ j, j < n → w.cell? ⟨g, o + j, none⟩ = some (.int .u8 (f (o + j)))) (hr : ∀ j, j < n → 0 ≤ f (o + j) ∧ f (o + j) < 256) (hn : n ≤ 4) :
    Calls Try.prog 74 #[.slice (some ⟨g, o, none⟩) n c] w fun e w' => e = .returned (.int .i64 (getN f o n)) ∧ w' = w := by
  have H : Hid (∀ j, j < n → w.cell? ⟨g, o + j, none⟩ = some (.int .u8 (f (o + j)))) := hc
  have HR : Hid (∀ j, j < n → 0 ≤ f (o + j) ∧ f (o + j) < 256) := hr
  clear hc hr
  go_enter Try.func74, Try.ntmps74
  go_wp2
  go_loop [3, 4, 5, 8] (fun x _ _ i => ∃ j : Nat, j ≤ n ∧ i = .int .i64 j ∧ x = .int .i64 (getN f o j)) (fun _ _ _ i => n - (intOf i).toNat)
  case atStart => exact ⟨0, Nat.zero_le _, rfl, rfl⟩
  case round =>
    obtain ⟨j, hj, rfl, rfl⟩ := hrel
    by_cases hlt : j < n
    · have hcell := H.out j hlt
      have hb := HR.out j hlt
      have HN : Hid (getN f o (j + 1) = getN f o j + f (o + j) * 256 ^ j) := rfl
      have hx := getN_range f o j (fun i hi => HR.out i (by omega))
      have HO : Hid (bits .or .i64 (getN f o j) (wrap64 (f (o + j) * 2 ^ (8 * j))) = getN f o j + f (o + j) * 256 ^ j) := or_add _ _ j (by omega) hx.1 hx.2 hb.1 hb.2
      clear hx
      generalize getN f o j = x0 at *
      generalize f (o + j) = b0 at *
      go_wp2
      go_round
      case rel => exact ⟨j + 1, by omega, by go_num, by rw [HN.out, HO.out]⟩
      case measure => simp [intOf]; omega
    · have e : j = n := by omega
      subst e
      go_wp2
      go_ret
      exact ⟨rfl, rfl⟩

theorem run_secSlice (g o k : Nat) (ho : o < 64) (hk : o + k ≤ 64) (w : World) : (Instr.sliceAt 82 (.pointer (some ⟨g, 0, none⟩)) (some (.int .i64 (o : Int))) (some (.int .i64 ((o : Int) + (k : Int)))) none).run Try.prog w = .ok (.slice (some ⟨g, o, none⟩) k (64 - o)) w := by
  have h1 : ((o : Int) + (k : Int)).toNat = o + k := by omega
  have h3 : ¬ (64 = o) := by omega
  simp [Instr.sliceAt, go_sem]
  rw [if_pos (by omega), if_pos (by omega), if_neg h3, h1, Nat.add_sub_cancel_left]

set_option maxHeartbeats 1000000 in
theorem number_any (g o k : Nat) (f : Nat → Int) (w : World) (h : Sec w g f) (hr : ∀ i, i < 64 → 0 ≤ f i ∧ f i < 256) (hk : k ≤ 4) (hf : o + k ≤ 64) (ho : o < 64) :
    Calls Try.prog 67 #[.pointer (some ⟨g, 0, none⟩), .int .i64 o, .int .i64 k] w fun e w' => e = .returned (.int .i64 (getN f o k)) ∧ w' = w := by
  have H : Hid (∀ j, j < k → w.cell? ⟨g, o + j, none⟩ = some (.int .u8 (f (o + j)))) := fun j hj => h.cell (by omega)
  have HR : Hid (∀ j, j < k → 0 ≤ f (o + j) ∧ f (o + j) < 256) := fun j hj => hr _ (by omega)
  have hsl := run_secSlice g o k ho hf
  clear h hr
  go_enter Try.func67, Try.ntmps67
  go_wp2_with fail
  refine (littleEndian_any g o k (64 - o) f w H.out HR.out hk).mono ?_
  rintro e w1 ⟨rfl, rfl⟩
  go_wp2
  go_ret
  exact ⟨rfl, rfl⟩
end Go.Proofs.Ytlcamfkgkcjehaa

namespace Go.Proofs.Ytlcamfkgkcjehaa
open Go.RowKit Go.Deep
set_option maxRecDepth 100000
set_option linter.unusedVariables false

/-- The last of the first k writes that is of sector s. -/
def lastAt (S : Nat → Int) (s : Int) : Nat → Option Nat
  | 0 => none
  | k + 1 => if S k = s then some k else lastAt S s k
theorem lastAt_hit {S : Nat → Int} {s : Int} {k : Nat} (h : S k = s) : lastAt S s (k + 1) = some k := by simp [lastAt, h]
theorem lastAt_miss {S : Nat → Int} {s : Int} {k : Nat} (h : ¬ S k = s) : lastAt S s (k + 1) = lastAt S s k := by simp [lastAt, h]

/-- What a sector reads as: the last write of it, or what is durable. -/
def secF (d S : Nat → Int) (F : Nat → Nat → Int) (m : Nat) (s : Nat) : Nat → Int :=
  match lastAt S s m with
  | some k => F k
  | none => fun j => d (s * 64 + j)
theorem secF_some {d S : Nat → Int} {F : Nat → Nat → Int} {m s k : Nat} (h : lastAt S s m = some k) : secF d S F m s = F k := by simp [secF, h]
theorem secF_none {d S : Nat → Int} {F : Nat → Nat → Int} {m s : Nat} (h : lastAt S s m = none) : secF d S F m s = fun j => d (s * 64 + j) := by simp [secF, h]

theorem rd_sub {w : World} {b o n : Nat} {d : Nat → Int} (hc : ∀ i, i < n → w.cell? ⟨b, o + i, none⟩ = some (.int .u8 (d i))) (s : Nat) (hs : (s + 1) * 64 ≤ n) : Rd .u8 w (some ⟨b, o + s * 64, none⟩) 64 (fun j => d (s * 64 + j)) :=
  Or.inr ⟨b, o + s * 64, rfl, fun i hi => by rw [Nat.add_assoc]; exact hc (s * 64 + i) (by omega)⟩

set_option maxHeartbeats 1000000 in
theorem look_any (a p : Option Addr) (n c m q : Nat) (d S : Nat → Int) (L : Nat → Nat) (F : Nat → Nat → Int) (fuel : Int) (dead : Bool) (s : Nat) (w : World) (ha : Rd .u8 w a n d) (hp : RdP w p m S L F) (hv : VD n m S L fuel) (hs : s < n / 64) (hn : n ≤ 1048576) (hnc : n ≤ c) (hcm : c ≤ 9223372036854775807) (hm : m ≤ 1048576) :
    Calls Try.prog 30 #[.agg #[.slice a n c, .slice p m q, .int .i64 fuel, .bool dead], .int .i64 s] w fun e w' => RetRd w e w' 64 (secF d S F m s) := by
  have HA : Hid (Rd .u8 w a n d) := ha
  have HP : Hid (∀ O, RdP (w.alloc O) p m S L F) := fun O => hp.below (below_alloc _ _)
  have HV : Hid (∀ i, i < m → L i = 64) := fun i hi => (hv.2 i hi).2.2
  clear ha hp hv
  go_enter Try.func30, Try.ntmps30
  go_wp2
  go_loop [5] (fun i => ∃ k : Nat, k ≤ m ∧ i = .int .i64 ((k : Int) - 1) ∧ lastAt S s m = lastAt S s k) (fun i => (intOf i + 1).toNat)
  case atStart => exact ⟨m, Nat.le_refl _, rfl, rfl⟩
  case round =>
    obtain ⟨k, hk, rfl, hl⟩ := hrel
    have HLst : Hid (lastAt S s m = lastAt S s k) := hl
    clear hl
    cases k with
    | zero =>
      rcases HA.out with h | ⟨b, o, hpa, hc⟩
      · omega
      subst hpa
      have HR : Hid (Rd .u8 w (some ⟨b, o + s * 64, none⟩) 64 (fun j => d (s * 64 + j))) := rd_sub hc s (by omega)
      have h1 : (s : Int) * 64 ≤ ((s : Int) + 1) * 64 := by omega
      have h2 : ((s : Int) + 1) * 64 ≤ (c : Int) := by omega
      clear hc
      go_wp2
      go_ret
      refine ⟨some ⟨b, o + s * 64, none⟩, c - s * 64, ?_, by rw [secF_none (HLst.out.trans rfl)]; exact HR.out.below (below_alloc _ _), below_alloc _ _⟩
      simp
      omega
    | succ k =>
      rcases HP.out (.cells #[.slice a n c, .slice p m q, .int .i64 fuel, .bool dead] 25) with h | ⟨b, o, hpa, hc⟩
      · omega
      subst hpa
      obtain ⟨c1, ad, cp, c2, c3⟩ := hc k (by omega)
      have hL := HV.out k (by omega)
      rw [hL] at c2 c3
      have C3 : Hid (Rd .u8 (w.alloc (.cells #[.slice a n c, .slice (some ⟨b, o, none⟩) m q, .int .i64 fuel, .bool dead] 25)) ad 64 (F k)) := c3
      have ek : ((k + 1 : Nat) : Int) - 1 = (k : Int) := by omega
      rw [ek]
      have hkm : (k : Int) < (m : Int) := by omega
      clear hc c3 hL ek
      by_cases e : S k = (s : Int)
      · have e' : (S k == (s : Int)) = true := by simp [e]
        have HF : Hid (secF d S F m s = F k) := secF_some (HLst.out.trans (lastAt_hit e))
        clear e
        go_wp2
        go_ret
        exact ⟨ad, cp, rfl, by rw [HF.out]; exact C3.out, below_alloc _ _⟩
      · have e' : (S k == (s : Int)) = false := by simp [e]
        have HF : Hid (lastAt S s m = lastAt S s k) := HLst.out.trans (lastAt_miss e)
        clear e
        go_wp2
        go_round
        case rel => exact ⟨k, by omega, rfl, HF.out⟩
        case measure => simp [intOf]
end Go.Proofs.Ytlcamfkgkcjehaa

namespace Go.Proofs.Ytlcamfkgkcjehaa
open Go.RowKit Go.Deep
set_option linter.unusedVariables false
set_option maxRecDepth 100000

/-- A slice of bools that can be read. -/
def RdBl (w : World) (a : Option Addr) (n : Nat) (f : Nat → Bool) : Prop :=
  n = 0 ∨ ∃ b o, a = some ⟨b, o, none⟩ ∧ ∀ i, i < n → w.cell? ⟨b, o + i, none⟩ = some (.bool (f i))

theorem RdBl.below {w w' : World} {a : Option Addr} {n : Nat} {f : Nat → Bool} (h : RdBl w a n f) (hb : Below w.heap.size w w') : RdBl w' a n f := by
  rcases h with h | ⟨b, o, rfl, hc⟩
  · exact Or.inl h
  · refine Or.inr ⟨b, o, rfl, fun i hi => ?_⟩
    have hlt := World.block_lt_of_cell? _ _ (hc i hi)
    rw [hb.cell (p := ⟨b, o + i, none⟩) hlt]
    exact hc i hi

theorem RdBl.ofRow {w : World} {g : Nat} {t : TypeId} {n : Nat} {f : Nat → Bool} (h : rowIn w g t n (fun i => .bool (f i))) : RdBl w (some ⟨g, 0, none⟩) n f :=
  Or.inr ⟨g, 0, rfl, fun i hi => by rw [Nat.zero_add]; exact h.cell hi⟩

theorem Try.info4 : (Try.prog.info? 4).map (fun i => (i.zero, i.size, i.bytes)) = some (some (.bool false), 1, 1) := by kernel_rfl

end Go.Proofs.Ytlcamfkgkcjehaa
