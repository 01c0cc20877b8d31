import Derived.Test.YtlcamfkgkcjehaaNr17
import Derived.Test.YtlcamfkgkcjehaaNr2
import Derived.Deep.CutRange
namespace Go.Proofs.Ytlcamfkgkcjehaa
open Go.RowKit Go.Deep
set_option linter.unusedVariables false
set_option maxRecDepth 100000

theorem rowIn.belC {w w' : World} {g k : Nat} {t : TypeId} {n : Nat} {F : Nat → Value} (h : rowIn w k t n F) (hk : k ≠ g) (hb : BelC w.heap.size g w w') : rowIn w' k t n F := h.of_block (hb.block k h.lt hk)
theorem OwnB.belC {w w' : World} {B g n : Nat} {a : Option Addr} {f : Nat → Int} (h : OwnB w B a n f) (hg : g < B) (hb : BelC w.heap.size g w w') : OwnB w' B a n f := by
  rcases h with h | ⟨k, rfl, hk, hr⟩
  · exact Or.inl h
  · exact Or.inr ⟨k, rfl, hk, hr.belC (by omega) hb⟩
theorem OwnP.belC {w w' : World} {B g m : Nat} {a : Option Addr} {S : Nat → Int} {L : Nat → Nat} {F : Nat → Nat → Int} {A : Nat → Option Addr} (h : OwnP w B a m S L F A) (hg : g < B) (hb : BelC w.heap.size g w w') : OwnP w' B a m S L F A := by
  rcases h with h | ⟨k, C, rfl, h⟩
  · exact Or.inl h
  · exact Or.inr ⟨k, C, rfl, h.le, h.row.belC (by have := h.le; omega) hb, fun i hi => (h.each i hi).belC hg hb, h.apart⟩
theorem OwnD.belC {w w' : World} {B g n m : Nat} {a p : Option Addr} {d S : Nat → Int} {L : Nat → Nat} {F : Nat → Nat → Int} {A : Nat → Option Addr} (h : OwnD w B a n d p m S L F A) (hg : g < B) (hb : BelC w.heap.size g w w') : OwnD w' B a n d p m S L F A :=
  ⟨h.data.belC hg hb, h.cache.belC hg hb, h.apart⟩
theorem BelC.setCell {B g : Nat} {w w' : World} (h : BelC B g w w') {p : Addr} (hp : B ≤ p.block) (v : Value) : BelC B g w (w'.setCell p v) :=
  ⟨h.os, h.tape, h.output, by have := h.size; simp [World.setCell]; exact this, fun k hk hx => (Below.heap_setCell _ _ _ _ (by omega)).trans (h.block k hk hx)⟩
theorem BelC.alloc {B g : Nat} {w w' : World} (h : BelC B g w w') (hB : B ≤ w'.heap.size) (o : Obj) : BelC B g w (w'.alloc o) := h.trans (BelC.ofBelow (below_alloc w' o) hB)

/-- What l1Disk's variables are between two statements. -/
structure DSt (w W : World) (g : Nat) (b : Option Addr) (n c : Nat) (f : Nat → Int) (bx nn : Nat) (t : Stt) : Prop where
  cur : DrwL W w.heap.size g b n c f
  box : ∃ a c' p q A, DkRow W bx (.slice a nn c') (.slice p t.m q) t.fuel t.dead ∧ OwnD W w.heap.size a nn t.d p t.m t.S t.L t.F A
  ok : t.ok nn
  res : DkRow W w.heap.size (.slice none 0 0) (.slice none 0 0) 0 false
  bel : BelC w.heap.size g w W
  lt : w.heap.size < bx

theorem DSt.move {w W W' : World} {g : Nat} {b : Option Addr} {n c : Nat} {f : Nat → Int} {bx nn : Nat} {t : Stt} (h : DSt w W g b n c f bx nn t) (hb : BelC W.heap.size g W W') (hd : Drw W' g b n c f) : DSt w W' g b n c f bx nn t := by
  obtain ⟨h1, ⟨a, c', p, q, A, h2, h3⟩, h4, h5, h6, h7⟩ := h
  have hg := h1.cur
  have hz : w.heap.size < W.heap.size := rowIn.lt h5
  exact ⟨⟨hd, hg, h1.bytes⟩, ⟨a, c', p, q, A, rowIn.belC h2 (by omega) hb, h3.belC hg hb⟩, h4, rowIn.belC h5 (by omega) hb, h6.trans (hb.mono (by omega)), h7⟩

theorem DSt.next {w W w4 : World} {g : Nat} {b : Option Addr} {n c : Nat} {f : Nat → Int} {bx nn c' q : Nat} {t t2 : Stt} {a p : Option Addr} {A : Nat → Option Addr} (h : DSt w W g b n c f bx nn t) (hb : Below W.heap.size W w4) (ho : OwnD w4 W.heap.size a nn t2.d p t2.m t2.S t2.L t2.F A) (hk : t2.ok nn) :
    DSt w ((((w4.setCell ⟨bx, 0, none⟩ (.slice a nn c')).setCell ⟨bx, 1, none⟩ (.slice p t2.m q)).setCell ⟨bx, 2, none⟩ (.int .i64 t2.fuel)).setCell ⟨bx, 3, none⟩ (.bool t2.dead)) g b n c f bx nn t2 := by
  obtain ⟨h1, ⟨a0, c0, p0, q0, A0, h2, h3⟩, h4, h5, h6, h7⟩ := h
  have hg := h1.cur
  have hz : w.heap.size < W.heap.size := rowIn.lt h5
  have hl2 : bx < W.heap.size := rowIn.lt h2
  have hbT : Below (w.heap.size + 1) W w4 := hb.mono (by omega)
  have hs : Below (w.heap.size + 1) W ((((w4.setCell ⟨bx, 0, none⟩ (.slice a nn c')).setCell ⟨bx, 1, none⟩ (.slice p t2.m q)).setCell ⟨bx, 2, none⟩ (.int .i64 t2.fuel)).setCell ⟨bx, 3, none⟩ (.bool t2.dead)) :=
    (((hbT.setCell (by show w.heap.size + 1 ≤ bx; omega) _).setCell (by show w.heap.size + 1 ≤ bx; omega) _).setCell (by show w.heap.size + 1 ≤ bx; omega) _).setCell (by show w.heap.size + 1 ≤ bx; omega) _
  refine ⟨h1.below (hs.mono (by omega)), ⟨a, c', p, q, A, dk_set4 (h2.below hb), ?_⟩, hk, rowIn.of_block h5 (hs.block w.heap.size (by omega)), h6.trans (BelC.ofBelow hs (by omega)), h7⟩
  exact ((((ho.setOther (x := ⟨bx, 0, none⟩) hl2 _).setOther (x := ⟨bx, 1, none⟩) hl2 _).setOther (x := ⟨bx, 2, none⟩) hl2 _).setOther (x := ⟨bx, 3, none⟩) hl2 _).mono (by omega)

/-- What l1Disk hands back. -/
def RetDraw (w : World) (g : Nat) (b : Option Addr) (n c : Nat) (f : Nat → Int) (e : Ending) (w' : World) : Prop :=
  ∃ (nn : Nat) (t : Stt) (a p : Option Addr) (c' q : Nat) (A : Nat → Option Addr), e = .returned (.agg #[.slice a nn c', .slice p t.m q, .int .i64 t.fuel, .bool t.dead]) ∧ OwnD w' w.heap.size a nn t.d p t.m t.S t.L t.F A ∧ t.ok nn ∧ Drw w' g b n c f ∧ BelC w.heap.size g w w'

end Go.Proofs.Ytlcamfkgkcjehaa
