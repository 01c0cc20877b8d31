import Derived.Test.YthcclkeeekppmaaRows
import Derived.Test.YthcclkeeekppmaaOwn
namespace Go.Proofs.Ythcclkeeekppmaa
open Go.RowKit Go.Deep
set_option linter.unusedVariables false
set_option maxRecDepth 100000

/-- A slice of terms that can be read: numbers I, texts X, counts R. -/
def RdN (w : World) (a : Option Addr) (n : Nat) (I : Nat → Int) (X : Nat → ByteArray) (R : Nat → ByteArray) : Prop :=
  n = 0 ∨ ∃ b o, a = some ⟨b, o, none⟩ ∧ ∀ i, i < n → w.cell? ⟨b, o + i * 3, none⟩ = some (.int .i64 (I i)) ∧ w.cell? ⟨b, o + i * 3 + 1, none⟩ = some (.string (X i)) ∧ w.cell? ⟨b, o + i * 3 + 2, none⟩ = some (.string (R i))

theorem RdN.below {w w' : World} {a : Option Addr} {n : Nat} {I : Nat → Int} {X : Nat → ByteArray} {R : Nat → ByteArray} (h : RdN w a n I X R) (hb : Below w.heap.size w w') : RdN w' a n I X R := by
  rcases h with h | ⟨b, o, rfl, hc⟩
  · exact Or.inl h
  · refine Or.inr ⟨b, o, rfl, fun i hi => ?_⟩
    obtain ⟨h1, h2, h3⟩ := hc i hi
    refine ⟨?_, ?_, ?_⟩
    · rw [hb.cell (p := ⟨b, o + i * 3, none⟩) (World.block_lt_of_cell? _ _ h1)]; exact h1
    · rw [hb.cell (p := ⟨b, o + i * 3 + 1, none⟩) (World.block_lt_of_cell? _ _ h2)]; exact h2
    · rw [hb.cell (p := ⟨b, o + i * 3 + 2, none⟩) (World.block_lt_of_cell? _ _ h3)]; exact h3

/-- The cells of a row of terms: three for each. -/
def pnCell (I : Nat → Int) (X : Nat → ByteArray) (R : Nat → ByteArray) (c : Nat) : Value :=
  if c % 3 = 0 then .int .i64 (I (c / 3)) else if c % 3 = 1 then .string (X (c / 3)) else .string (R (c / 3))

theorem pnCell_0 (I : Nat → Int) (X : Nat → ByteArray) (R : Nat → ByteArray) (i : Nat) : pnCell I X R (i * 3) = .int .i64 (I i) := by
  unfold pnCell
  rw [if_pos (by omega), show i * 3 / 3 = i by omega]
theorem pnCell_1 (I : Nat → Int) (X : Nat → ByteArray) (R : Nat → ByteArray) (i : Nat) : pnCell I X R (i * 3 + 1) = .string (X i) := by
  unfold pnCell
  rw [if_neg (by omega), if_pos (by omega), show (i * 3 + 1) / 3 = i by omega]
theorem pnCell_2 (I : Nat → Int) (X : Nat → ByteArray) (R : Nat → ByteArray) (i : Nat) : pnCell I X R (i * 3 + 2) = .string (R i) := by
  unfold pnCell
  rw [if_neg (by omega), if_neg (by omega), show (i * 3 + 2) / 3 = i by omega]

theorem rdN_row {w : World} {g n : Nat} {I : Nat → Int} {X : Nat → ByteArray} {R : Nat → ByteArray} (h : rowIn w g 35 (n * 3) (pnCell I X R)) : RdN w (some ⟨g, 0, none⟩) n I X R := by
  refine Or.inr ⟨g, 0, rfl, fun i hi => ⟨?_, ?_, ?_⟩⟩
  · have := h.cell (i := i * 3) (by omega)
    rw [pnCell_0] at this
    simpa using this
  · have := h.cell (i := i * 3 + 1) (by omega)
    rw [pnCell_1] at this
    simpa using this
  · have := h.cell (i := i * 3 + 2) (by omega)
    rw [pnCell_2] at this
    simpa using this

theorem madeN (w : World) (m : Nat) : rowIn (w.alloc (.cells (madeCells #[.int .i64 0, .string { data := #[] }, .string { data := #[] }] (m * 3)) 35)) w.heap.size 35 (m * 3) (pnCell (fun _ => 0) (fun _ => { data := #[] }) (fun _ => { data := #[] })) := by
  refine ⟨_, blk_alloc_new _ _, by rw [size_madeCells]; exact Nat.le_refl _, fun i hi => ?_⟩
  unfold pnCell
  have h3 : i % 3 = 0 ∨ i % 3 = 1 ∨ i % 3 = 2 := by omega
  rcases h3 with e | e | e
  all_goals simp [madeCells, hi, e]
end Go.Proofs.Ythcclkeeekppmaa
