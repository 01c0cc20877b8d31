import Derived.Test.YtbpcafcipncloaaHeldD
namespace Go.Proofs.Ytbpcafcipncloaa
open Go.RowKit Go.Deep

/-- A box of four cells. -/
def Box4 (w : World) (b : Nat) (v0 v1 v2 v3 : Value) : Prop :=
  w.cell? ⟨b, 0, none⟩ = some v0 ∧ w.cell? ⟨b, 1, none⟩ = some v1 ∧ w.cell? ⟨b, 2, none⟩ = some v2 ∧ w.cell? ⟨b, 3, none⟩ = some v3 ∧ b < w.heap.size

theorem Box4.new (w : World) (v0 v1 v2 v3 : Value) (t : TypeId) : Box4 (w.alloc (.cells #[v0, v1, v2, v3] t)) w.heap.size v0 v1 v2 v3 := by
  refine ⟨?_, ?_, ?_, ?_, ?_⟩ <;> simp

theorem Box4.below {w w' : World} {b : Nat} {v0 v1 v2 v3 : Value} (h : Box4 w b v0 v1 v2 v3) (hb : Below w.heap.size w w') : Box4 w' b v0 v1 v2 v3 := by
  obtain ⟨h0, h1, h2, h3, hl⟩ := h
  have := hb.size
  exact ⟨(hb.cell (p := ⟨b, 0, none⟩) hl).trans h0, (hb.cell (p := ⟨b, 1, none⟩) hl).trans h1, (hb.cell (p := ⟨b, 2, none⟩) hl).trans h2, (hb.cell (p := ⟨b, 3, none⟩) hl).trans h3, by omega⟩

theorem Box4.within {w w' : World} {B T b : Nat} {v0 v1 v2 v3 : Value} (h : Box4 w b v0 v1 v2 v3) (hT : T ≤ b) (hw : Within B T w w') : Box4 w' b v0 v1 v2 v3 := by
  obtain ⟨h0, h1, h2, h3, hl⟩ := h
  have := hw.size
  obtain ⟨hc, _⟩ := hw.cells
  exact ⟨(hc b 0 hT hl).trans h0, (hc b 1 hT hl).trans h1, (hc b 2 hT hl).trans h2, (hc b 3 hT hl).trans h3, by omega⟩

theorem Within.mono {B T B' T' : Nat} {w w' : World} (h : Within B T w w') (hB : B' ≤ B) (hT : T ≤ T') : Within B' T' w w' :=
  ⟨h.os, h.tape, h.output, h.size, fun k hk hx => h.block k hk (by omega)⟩

theorem rowIn.within {w w' : World} {B T g : Nat} {t : TypeId} {n : Nat} {F : Nat → Value} (h : rowIn w g t n F) (hT : T ≤ g ∨ g < B) (hw : Within B T w w') : rowIn w' g t n F :=
  h.of_block (hw.block g h.lt (by omega))

theorem rowIn.below {w w' : World} {g : Nat} {t : TypeId} {n : Nat} {F : Nat → Value} (h : rowIn w g t n F) (hb : Below w.heap.size w w') : rowIn w' g t n F := h.of_block (hb.block g h.lt)
theorem OwnD.ltB {w : World} {B : Nat} {a : Option Addr} {n : Nat} {d : Nat → Int} {p : Option Addr} {m : Nat} {S : Nat → Int} {L : Nat → Nat} {F : Nat → Nat → Int} {A : Nat → Option Addr} (h : OwnD w B a n d p m S L F A) :
    LtB w.heap.size a n ∧ LtB w.heap.size p m ∧ ∀ i, i < m → LtB w.heap.size (A i) (L i) := ⟨h.data.ltB, h.cache.ltB⟩
theorem alloc_size (w : World) (o : Obj) : (w.alloc o).heap.size = w.heap.size + 1 := by simp
end Go.Proofs.Ytbpcafcipncloaa
