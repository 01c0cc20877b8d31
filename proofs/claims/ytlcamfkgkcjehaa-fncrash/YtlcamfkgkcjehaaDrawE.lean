import Derived.Test.YtlcamfkgkcjehaaDraw3
import Derived.Test.YtlcamfkgkcjehaaStW
import Derived.Test.YtlcamfkgkcjehaaZeros
namespace Go.Proofs.Ytlcamfkgkcjehaa
open Go.RowKit Go.Deep
set_option linter.unusedVariables false
set_option maxRecDepth 100000

/-- Of the blocks ahead of B, w' has turned at most g. -/
structure BelC (B g : Nat) (w w' : World) : Prop where
  os : w'.os = w.os
  tape : w'.tape = w.tape
  output : w'.output = w.output
  size : w.heap.size ≤ w'.heap.size
  block : ∀ k, k < B → k ≠ g → w'.heap[k]? = w.heap[k]?
theorem BelC.refl (B g : Nat) (w : World) : BelC B g w w := ⟨rfl, rfl, rfl, Nat.le_refl _, fun _ _ _ => rfl⟩
theorem BelC.trans {B g : Nat} {w w1 w2 : World} (h : BelC B g w w1) (k : BelC B g w1 w2) : BelC B g w w2 :=
  ⟨k.os.trans h.os, k.tape.trans h.tape, k.output.trans h.output, Nat.le_trans h.size k.size, fun i hi hx => (k.block i hi hx).trans (h.block i hi hx)⟩
theorem BelC.ofBelow {B B' g : Nat} {w w' : World} (h : Below B' w w') (hB : B ≤ B') : BelC B g w w' := ⟨h.os, h.tape, h.output, h.size, fun k hk _ => h.block k (by omega)⟩
theorem BelC.ofOnly {B g o : Nat} {w w' : World} (h : OnlyAt (some ⟨g, o, none⟩) w w') : BelC B g w w' :=
  ⟨h.os, h.tape, h.output, by rw [h.size]; exact Nat.le_refl _, fun k _ hx => h.block k (fun x e => by injection e with e; subst e; exact fun h => hx h.symm)⟩
theorem BelC.below {B g : Nat} {w w' : World} (h : BelC B g w w') (hg : B ≤ g) : Below B w w' := ⟨h.os, h.tape, h.output, h.size, fun k hk => h.block k hk (by omega)⟩
theorem BelC.mono {B B' g : Nat} {w w' : World} (h : BelC B g w w') (hB : B' ≤ B) : BelC B' g w w' := ⟨h.os, h.tape, h.output, h.size, fun k hk hx => h.block k (by omega) hx⟩

/-- A cursor whose blocks lie ahead of T. -/
structure DrwL (w : World) (T g : Nat) (b : Option Addr) (n c : Nat) (f : Nat → Int) : Prop where
  drw : Drw w g b n c f
  cur : g < T
  bytes : n ≠ 0 → ∀ x, b = some x → x.block < T

theorem DrwL.below {w w' : World} {T g : Nat} {b : Option Addr} {n c : Nat} {f : Nat → Int} (h : DrwL w T g b n c f) (hb : Below T w w') : DrwL w' T g b n c f := by
  obtain ⟨⟨⟨i, hh, hi, hc⟩, hrd, hne, hl, hr⟩, h2, h3⟩ := h
  refine ⟨⟨⟨i, hh, hi, rowIn.of_block hc (hb.block g h2)⟩, ?_, hne, hl, hr⟩, h2, h3⟩
  rcases hrd with h0 | ⟨k, o, rfl, hcc⟩
  · exact Or.inl h0
  · by_cases h0 : n = 0
    · exact Or.inl h0
    · exact Or.inr ⟨k, o, rfl, fun j hj => (hb.cell (p := ⟨k, o + j, none⟩) (show k < T from h3 h0 ⟨k, o, none⟩ rfl)).trans (hcc j hj)⟩
theorem DrwL.of {w : World} {g : Nat} {b : Option Addr} {n c : Nat} {f : Nat → Int} (h : Drw w g b n c f) : DrwL w w.heap.size g b n c f := by
  obtain ⟨i, hh, hi, hc⟩ := h.cur
  exact ⟨h, rowIn.lt hc, fun hz => h.rd.blockLt hz⟩

theorem OwnB.onlyLow {w w' : World} {B g o n : Nat} {a : Option Addr} {f : Nat → Int} (h : OwnB w B a n f) (hg : g < B) (ho : OnlyAt (some ⟨g, o, none⟩) w w') : OwnB w' B a n f := by
  rcases h with h | ⟨k, rfl, hk, hr⟩
  · exact Or.inl h
  · exact Or.inr ⟨k, rfl, hk, hr.of_block (ho.block k (fun x e => by injection e with e; subst e; show g ≠ k; omega))⟩
theorem OwnP.onlyLow {w w' : World} {B g o m : Nat} {a : Option Addr} {S : Nat → Int} {L : Nat → Nat} {F : Nat → Nat → Int} {A : Nat → Option Addr} (h : OwnP w B a m S L F A) (hg : g < B) (ho : OnlyAt (some ⟨g, o, none⟩) w w') : OwnP w' B a m S L F A := by
  rcases h with h | ⟨k, C, rfl, h⟩
  · exact Or.inl h
  · exact Or.inr ⟨k, C, rfl, h.le, h.row.of_block (ho.block k (fun x e => by injection e with e; subst e; show g ≠ k; have := h.le; omega)), fun i hi => (h.each i hi).onlyLow hg ho, h.apart⟩
theorem OwnD.onlyLow {w w' : World} {B g o n m : Nat} {a p : Option Addr} {d S : Nat → Int} {L : Nat → Nat} {F : Nat → Nat → Int} {A : Nat → Option Addr} (h : OwnD w B a n d p m S L F A) (hg : g < B) (ho : OnlyAt (some ⟨g, o, none⟩) w w') : OwnD w' B a n d p m S L F A :=
  ⟨h.data.onlyLow hg ho, h.cache.onlyLow hg ho, h.apart⟩
theorem OwnP.onlyDk {w w' : World} {B b m : Nat} {a : Option Addr} {S : Nat → Int} {L : Nat → Nat} {F : Nat → Nat → Int} {A : Nat → Option Addr} {v0 v1 : Value} {fuel : Int} {dead : Bool} (h : OwnP w B a m S L F A) (hd : DkRow w b v0 v1 fuel dead) (ho : OnlyAt (some ⟨b, 0, none⟩) w w') : OwnP w' B a m S L F A := by
  rcases h with h | ⟨k, C, rfl, h⟩
  · exact Or.inl h
  · exact Or.inr ⟨k, C, rfl, h.le, h.row.of_block (ho.block k (fun x e => by injection e with e; subst e; exact fun e => h.row.ne hd (by decide) e.symm)), fun i hi => (h.each i hi).onlyDk hd ho, h.apart⟩
theorem OwnD.onlyDk {w w' : World} {B b n m : Nat} {a p : Option Addr} {d S : Nat → Int} {L : Nat → Nat} {F : Nat → Nat → Int} {A : Nat → Option Addr} {v0 v1 : Value} {fuel : Int} {dead : Bool} (h : OwnD w B a n d p m S L F A) (hd : DkRow w b v0 v1 fuel dead) (ho : OnlyAt (some ⟨b, 0, none⟩) w w') : OwnD w' B a n d p m S L F A :=
  ⟨h.data.onlyDk hd ho, h.cache.onlyDk hd ho, h.apart⟩
end Go.Proofs.Ytlcamfkgkcjehaa
