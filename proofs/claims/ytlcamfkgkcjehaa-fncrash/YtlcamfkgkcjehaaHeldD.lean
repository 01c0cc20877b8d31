import Derived.Test.YtlcamfkgkcjehaaMarkP
import Derived.Test.YtlcamfkgkcjehaaEqD
namespace Go.Proofs.Ytlcamfkgkcjehaa
open Go.RowKit Go.Deep

theorem koff_top (L : Nat → Nat) (k0 : Int) (m : Nat) (hm : m ≤ 1048576) (hL : ∀ i, i < m → L i ≤ 1048576) (h1 : k0 ≤ 1099511627776) (k : Nat) (hk : k ≤ m) : koff L k0 k ≤ 2305843009213693952 := by
  have hk2 := koff_le L k0 m 1048576 hL k hk
  have : (k : Int) * (1 + ((1048576 : Nat) : Int)) ≤ 1048576 * (1 + ((1048576 : Nat) : Int)) := Int.mul_le_mul_of_nonneg_right (by omega) (by omega)
  omega

theorem OwnP.only {w w1 : World} {B : Nat} {a p : Option Addr} {n m : Nat} {d S : Nat → Int} {L : Nat → Nat} {F : Nat → Nat → Int} {A : Nat → Option Addr} (h : OwnP w B p m S L F A) (ha : OwnB w B a n d) (ho : OnlyAt a w w1) (hz : n = 0 → w1 = w)
    (hx : n ≠ 0 → ∀ i, i < m → L i ≠ 0 → A i ≠ a) : OwnP w1 B p m S L F A := by
  by_cases hn : n = 0
  · rw [hz hn]; exact h
  · rcases ha with h0 | ⟨g, rfl, hg, hr⟩
    · exact absurd h0 hn
    · rcases h with h | ⟨gC, C, rfl, h⟩
      · exact Or.inl h
      · have hne : g ≠ gC := hr.ne h.row (by decide)
        refine Or.inr ⟨gC, C, rfl, h.le, h.row.of_block (ho.block gC (fun x e => by injection e with e; subst e; exact hne)), fun i hi => ?_, h.apart⟩
        refine (h.each i hi).only ho (fun hl x y hx1 hy => ?_)
        injection hy with hy
        subst hy
        intro e
        rcases h.each i hi with h0 | ⟨g', hA', _, _⟩
        · exact hl h0
        · rw [hA'] at hx1; injection hx1 with hx1; subst hx1
          simp at e
          subst e
          exact hx hn i hi hl hA'

theorem OwnB.onlyP {w w1 : World} {B gC : Nat} {a : Option Addr} {n m : Nat} {d : Nat → Int} {S : Nat → Int} {L : Nat → Nat} {A : Nat → Option Addr} {C : Nat → Nat} (ha : OwnB w B a n d) (hr : rowIn w gC 49 (m * 2) (pendCell S A L C)) (ho : OnlyP gC m L A w w1)
    (hx : n ≠ 0 → ∀ i, i < m → L i ≠ 0 → A i ≠ a) : OwnB w1 B a n d := by
  rcases ha with h0 | ⟨g, rfl, hg, hr'⟩
  · exact Or.inl h0
  · by_cases hn : n = 0
    · exact Or.inl hn
    · exact Or.inr ⟨g, rfl, hg, hr'.of_block (ho.block g (hr'.ne hr (by decide)) (fun i hi hl => hx hn i hi hl))⟩

/-- Of the blocks that w has, w' has turned at most those from B to T. -/
structure Within (B T : Nat) (w w' : World) : Prop where
  os : w'.os = w.os
  tape : w'.tape = w.tape
  output : w'.output = w.output
  size : w.heap.size ≤ w'.heap.size
  block : ∀ k, k < w.heap.size → (k < B ∨ T ≤ k) → w'.heap[k]? = w.heap[k]?

theorem Within.below {B T : Nat} {w w' : World} (h : Within B T w w') (hB : B ≤ w.heap.size) : Below B w w' := ⟨h.os, h.tape, h.output, h.size, fun k hk => h.block k (by omega) (Or.inl hk)⟩
theorem Within.cells {B T : Nat} {w w' : World} (h : Within B T w w') : (∀ b o, T ≤ b → b < w.heap.size → w'.cell? ⟨b, o, none⟩ = w.cell? ⟨b, o, none⟩) ∧ (∀ b o, T ≤ b → b < w.heap.size → w'.frozen? ⟨b, o, none⟩ = w.frozen? ⟨b, o, none⟩) :=
  ⟨fun b _ hT hl => World.cell?_of_block (w := w) (h.block b hl (Or.inr hT)), fun b _ hT hl => World.frozen?_of_block (w := w) (h.block b hl (Or.inr hT))⟩
theorem Within.refl (B T : Nat) (w : World) : Within B T w w := ⟨rfl, rfl, rfl, Nat.le_refl _, fun _ _ _ => rfl⟩
theorem Within.trans {B T : Nat} {a b c : World} (h : Within B T a b) (k : Within B T b c) : Within B T a c :=
  ⟨k.os.trans h.os, k.tape.trans h.tape, k.output.trans h.output, Nat.le_trans h.size k.size, fun i hi hx => (k.block i (by have := h.size; omega) hx).trans (h.block i hi hx)⟩
theorem Within.ofBelow {B T : Nat} {w w' : World} (h : Below w.heap.size w w') : Within B T w w' := ⟨h.os, h.tape, h.output, h.size, fun k hk _ => h.block k hk⟩
theorem Within.ofOnly {B T : Nat} {a : Option Addr} {w w' : World} (h : OnlyAt a w w') (hB : ∀ x, a = some x → B ≤ x.block ∧ x.block < T) : Within B T w w' :=
  ⟨h.os, h.tape, h.output, by rw [h.size]; exact Nat.le_refl _, fun k _ hx => h.block k (fun x e => by have := hB x e; omega)⟩
theorem Within.ofOnlyP {B T gC m : Nat} {L : Nat → Nat} {A : Nat → Option Addr} {w w' : World} (h : OnlyP gC m L A w w') (hC : B ≤ gC ∧ gC < T) (hA : ∀ i, i < m → L i ≠ 0 → ∀ x, A i = some x → B ≤ x.block ∧ x.block < T) : Within B T w w' :=
  ⟨h.os, h.tape, h.output, by rw [h.size]; exact Nat.le_refl _, fun k _ hx => h.block k (by omega) (fun i hi hl e => by have := hA i hi hl _ e; simp at this; omega)⟩

/-- The blocks of an answer lie below T. -/
def LtB (T : Nat) (a : Option Addr) (n : Nat) : Prop := n ≠ 0 → ∀ x, a = some x → x.block < T
theorem OwnB.ltB {w : World} {B : Nat} {a : Option Addr} {n : Nat} {f : Nat → Int} (h : OwnB w B a n f) : LtB w.heap.size a n := by
  intro hn x hx
  rcases h with h0 | ⟨g, rfl, hg, hr⟩
  · exact absurd h0 hn
  · injection hx with hx; subst hx; exact hr.lt
theorem OwnB.ge {w : World} {B : Nat} {a : Option Addr} {n : Nat} {f : Nat → Int} (h : OwnB w B a n f) : n ≠ 0 → ∀ x, a = some x → B ≤ x.block := by
  intro hn x hx
  rcases h with h0 | ⟨g, rfl, hg, hr⟩
  · exact absurd h0 hn
  · injection hx with hx; subst hx; exact hg
theorem OwnP.ltB {w : World} {B : Nat} {a : Option Addr} {m : Nat} {S : Nat → Int} {L : Nat → Nat} {F : Nat → Nat → Int} {A : Nat → Option Addr} (h : OwnP w B a m S L F A) : LtB w.heap.size a m ∧ ∀ i, i < m → LtB w.heap.size (A i) (L i) := by
  rcases h with h | ⟨gC, C, rfl, h⟩
  · subst h; exact ⟨fun h => absurd rfl h, fun i hi => absurd hi (Nat.not_lt_zero _)⟩
  · exact ⟨fun _ x e => by injection e with e; subst e; exact h.row.lt, fun i hi => (h.each i hi).ltB⟩

theorem OwnB.within {w w' : World} {B T B' : Nat} {a : Option Addr} {n : Nat} {f : Nat → Int} (h : OwnB w B' a n f) (hT : T ≤ B') (hw : Within B T w w') : OwnB w' B' a n f := by
  rcases h with h | ⟨g, rfl, hg, hr⟩
  · exact Or.inl h
  · exact Or.inr ⟨g, rfl, hg, hr.of_block (hw.block g hr.lt (Or.inr (by omega)))⟩

theorem OwnP.within {w w' : World} {B T B' : Nat} {a : Option Addr} {m : Nat} {S : Nat → Int} {L : Nat → Nat} {F : Nat → Nat → Int} {A : Nat → Option Addr} (h : OwnP w B' a m S L F A) (hT : T ≤ B') (hw : Within B T w w') : OwnP w' B' a m S L F A := by
  rcases h with h | ⟨gC, C, rfl, h⟩
  · exact Or.inl h
  · exact Or.inr ⟨gC, C, rfl, h.le, h.row.of_block (hw.block gC h.row.lt (Or.inr (by have := h.le; omega))), fun i hi => (h.each i hi).within hT hw, h.apart⟩

theorem OwnD.within {w w' : World} {B T B' : Nat} {a : Option Addr} {n : Nat} {d : Nat → Int} {p : Option Addr} {m : Nat} {S : Nat → Int} {L : Nat → Nat} {F : Nat → Nat → Int} {A : Nat → Option Addr} (h : OwnD w B' a n d p m S L F A) (hT : T ≤ B') (hw : Within B T w w') : OwnD w' B' a n d p m S L F A :=
  ⟨h.data.within hT hw, h.cache.within hT hw, h.apart⟩

theorem box4W {W w w' : World} {B : Nat} {v0 v1 v2 v3 : Value} {t : TypeId} (hb : Below (W.heap.size + 1) (W.alloc (.cells #[v0, v1, v2, v3] t)) w) (hw : Within B W.heap.size w w') : Within B W.heap.size w w' ∧
    w'.cell? ⟨W.heap.size, 0, none⟩ = some v0 ∧ w'.cell? ⟨W.heap.size, 1, none⟩ = some v1 ∧ w'.cell? ⟨W.heap.size, 2, none⟩ = some v2 ∧ w'.cell? ⟨W.heap.size, 3, none⟩ = some v3 ∧ W.heap.size < w'.heap.size := by
  obtain ⟨a0, a1, a2, a3, hl⟩ := box4 hb
  have hs := hw.size
  obtain ⟨hc, _⟩ := hw.cells
  refine ⟨hw, ?_, ?_, ?_, ?_, by omega⟩ <;> (rw [hc _ _ (Nat.le_refl _) hl]; assumption)

end Go.Proofs.Ytlcamfkgkcjehaa
