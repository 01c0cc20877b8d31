import Derived.Test.YthcclkeeekppmaaNp21
import Derived.Test.YthcclkeeekppmaaNp16
import Derived.Deep.CutRange
namespace Go.Proofs.Ythcclkeeekppmaa
open Go.RowKit Go.Deep
set_option linter.unusedVariables false
set_option maxRecDepth 100000

/-- What a text is to the machine: its tokens make these nodes, at this strength. -/
def OPr (f : Nat → Int) (n m l p k : Nat) (x : List Int) (d : List Nd) : Prop :=
  (tkF f n k).c ≠ 0 ∧ ∃ k', k < k' ∧ k' < m ∧ tkPos f n k' = endF isSp f n (p + x.length) ∧ ∀ nd N0, (tkF f n k').c ≠ 0 → nd + d.length ≤ 100 → stopC (l + 1) (tkF f n k').c → PC (tkF f n) (tkPos f n) l (l + 1) k nd N0 (.inl (k', nd + d.length, N0 ++ d))
def NLt (f : Nat → Int) (n q : Nat) : Prop := q < n → ¬ (97 ≤ f q ∧ f q ≤ 122)
def GNd (f : Nat → Int) (n m l : Nat) (x : List Int) (d : List Nd) : Prop :=
  ∀ p k, k < m → tkPos f n k = endF isSp f n p → AtB f n p x → NLt f n (p + x.length) → OPr f n m l p k x d
section
variable {f : Nat → Int} {n m : Nat}

end
end Go.Proofs.Ythcclkeeekppmaa

namespace Go.Proofs.Ythcclkeeekppmaa
open Go.RowKit Go.Deep
set_option linter.unusedVariables false
set_option maxRecDepth 100000

/-- A path's nodes, as a list. -/
def nd1 (I : Nat → Int) (X R : Nat → ByteArray) (i : Nat) : Nd := ⟨(I i).toNat, bl (X i), bl (R i)⟩
def ndS (I : Nat → Int) (X R : Nat → ByteArray) (base len : Nat) : List Nd := (List.range len).map (fun j => nd1 I X R (base + j))
/-- How strong a node's text is. -/
def lvI (k : Int) : Nat := if k = 6 then 2 else if k = 7 ∨ k = 8 then 1 else 3
end Go.Proofs.Ythcclkeeekppmaa

namespace Go.Proofs.Ythcclkeeekppmaa
open Go.RowKit Go.Deep
set_option linter.unusedVariables false
set_option maxRecDepth 100000

theorem BdA.below {w w' : World} {B b : Nat} {l : List Int} (h : BdA w B b l) (hb : Below w.heap.size w w') : BdA w' B b l := by
  rcases h with ⟨q1, v, q2, q3, q4⟩ | ⟨q1, v, q2, q3, q4⟩
  · exact .inl ⟨q1, v, (hb.block _ (Array.getElem?_eq_some_iff.1 q2).1).trans q2, q3.kept (w' := w') (row := none) ⟨hb.os, hb.tape, hb.output, hb.size, fun k hk _ => hb.block k hk⟩ (by cases hv : v.ownBlock <;> simp), q4⟩
  · exact .inr ⟨q1, v, (hb.block _ (Array.getElem?_eq_some_iff.1 q2).1).trans q2, q3.kept (w' := w') (row := none) ⟨hb.os, hb.tape, hb.output, hb.size, fun k hk _ => hb.block k hk⟩ (by cases hv : v.ownBlock <;> simp), q4⟩
theorem BdA.lt {w : World} {B b : Nat} {l : List Int} (h : BdA w B b l) : b < w.heap.size := by
  rcases h with ⟨q1, v, q2, q3, q4⟩ | ⟨q1, v, q2, q3, q4⟩ <;> exact (Array.getElem?_eq_some_iff.1 q2).1
/-- The builder of quoted, the text's bytes beside it. -/
def QS (w W : World) (g8 : Nat) (wr : World) (l : List Int) : Prop := BdA wr w.heap.size w.heap.size l ∧ Below w.heap.size w wr ∧ g8 < wr.heap.size ∧ wr.heap[g8]? = W.heap[g8]? ∧ ∀ v, wr.cell? ⟨w.heap.size, 1, none⟩ = some v → v.ownBlock ≠ some g8
theorem QS.below {w W wr W1 : World} {g8 : Nat} {l : List Int} (h : QS w W g8 wr l) (hb : Below wr.heap.size wr W1) : QS w W g8 W1 l := by
  obtain ⟨h1, h2, h3, h4, h5⟩ := h
  refine ⟨h1.below hb, h2.trans (hb.mono h2.size), Nat.lt_of_lt_of_le h3 hb.size, (hb.block _ h3).trans h4, fun v hv => h5 v ?_⟩
  rw [← hv]
  exact (hb.cell (p := ⟨w.heap.size, 1, none⟩) h1.lt).symm
theorem QS.step {w W W1 w2 : World} {g8 : Nat} {l l' : List Int} (h : QS w W g8 W1 l) (hne : g8 ≠ w.heap.size) (hB : BdA w2 w.heap.size w.heap.size l') (hb : Below w.heap.size W1 w2) (ho : ∀ g8, g8 < W1.heap.size → g8 ≠ w.heap.size → (∀ v, W1.cell? ⟨w.heap.size, 1, none⟩ = some v → v.ownBlock ≠ some g8) → w2.heap[g8]? = W1.heap[g8]? ∧ ∀ v, w2.cell? ⟨w.heap.size, 1, none⟩ = some v → v.ownBlock ≠ some g8) : QS w W g8 w2 l' := by
  obtain ⟨h1, h2, h3, h4, h5⟩ := h
  obtain ⟨q1, q2⟩ := ho g8 h3 hne h5
  exact ⟨hB, h2.trans hb, Nat.lt_of_lt_of_le h3 hb.size, q1.trans h4, q2⟩

end Go.Proofs.Ythcclkeeekppmaa
