import Derived.Test.YtfcffpgiijnmjaaRows
import Derived.Test.YtfcffpgiijnmjaaOwn
namespace Go.Proofs.Ytfcffpgiijnmjaa
open Go.RowKit Go.Deep
set_option linter.unusedVariables false
set_option maxRecDepth 100000

/-- A slice of terms that can be read: numbers I, texts X, counts R. -/
def RdT (w : World) (a : Option Addr) (n : Nat) (I : Nat → Int) (X : Nat → ByteArray) (R : Nat → Int) : Prop :=
  n = 0 ∨ ∃ b o, a = some ⟨b, o, none⟩ ∧ ∀ i, i < n → w.cell? ⟨b, o + i * 3, none⟩ = some (.int .i64 (I i)) ∧ w.cell? ⟨b, o + i * 3 + 1, none⟩ = some (.string (X i)) ∧ w.cell? ⟨b, o + i * 3 + 2, none⟩ = some (.int .i64 (R i))

theorem RdT.below {w w' : World} {a : Option Addr} {n : Nat} {I : Nat → Int} {X : Nat → ByteArray} {R : Nat → Int} (h : RdT w a n I X R) (hb : Below w.heap.size w w') : RdT w' a n I X R := by
  rcases h with h | ⟨b, o, rfl, hc⟩
  · exact Or.inl h
  · refine Or.inr ⟨b, o, rfl, fun i hi => ?_⟩
    obtain ⟨h1, h2, h3⟩ := hc i hi
    refine ⟨?_, ?_, ?_⟩
    · rw [hb.cell (p := ⟨b, o + i * 3, none⟩) (World.block_lt_of_cell? _ _ h1)]; exact h1
    · rw [hb.cell (p := ⟨b, o + i * 3 + 1, none⟩) (World.block_lt_of_cell? _ _ h2)]; exact h2
    · rw [hb.cell (p := ⟨b, o + i * 3 + 2, none⟩) (World.block_lt_of_cell? _ _ h3)]; exact h3

/-- The cells of a row of terms: three for each. -/
def termCell (I : Nat → Int) (X : Nat → ByteArray) (R : Nat → Int) (c : Nat) : Value :=
  if c % 3 = 0 then .int .i64 (I (c / 3)) else if c % 3 = 1 then .string (X (c / 3)) else .int .i64 (R (c / 3))

theorem termCell_0 (I : Nat → Int) (X : Nat → ByteArray) (R : Nat → Int) (i : Nat) : termCell I X R (i * 3) = .int .i64 (I i) := by
  unfold termCell
  rw [if_pos (by omega), show i * 3 / 3 = i by omega]
theorem termCell_1 (I : Nat → Int) (X : Nat → ByteArray) (R : Nat → Int) (i : Nat) : termCell I X R (i * 3 + 1) = .string (X i) := by
  unfold termCell
  rw [if_neg (by omega), if_pos (by omega), show (i * 3 + 1) / 3 = i by omega]
theorem termCell_2 (I : Nat → Int) (X : Nat → ByteArray) (R : Nat → Int) (i : Nat) : termCell I X R (i * 3 + 2) = .int .i64 (R i) := by
  unfold termCell
  rw [if_neg (by omega), if_neg (by omega), show (i * 3 + 2) / 3 = i by omega]

theorem rdT_row {w : World} {g n : Nat} {I : Nat → Int} {X : Nat → ByteArray} {R : Nat → Int} (h : rowIn w g 57 (n * 3) (termCell I X R)) : RdT w (some ⟨g, 0, none⟩) n I X R := by
  refine Or.inr ⟨g, 0, rfl, fun i hi => ⟨?_, ?_, ?_⟩⟩
  · have := h.cell (i := i * 3) (by omega)
    rw [termCell_0] at this
    simpa using this
  · have := h.cell (i := i * 3 + 1) (by omega)
    rw [termCell_1] at this
    simpa using this
  · have := h.cell (i := i * 3 + 2) (by omega)
    rw [termCell_2] at this
    simpa using this

theorem madeT (w : World) (m : Nat) : rowIn (w.alloc (.cells (madeCells #[.int .i64 0, .string { data := #[] }, .int .i64 0] (m * 3)) 57)) w.heap.size 57 (m * 3) (termCell (fun _ => 0) (fun _ => { data := #[] }) (fun _ => 0)) := by
  refine ⟨_, blk_alloc_new _ _, by rw [size_madeCells]; exact Nat.le_refl _, fun i hi => ?_⟩
  unfold termCell
  have h3 : i % 3 = 0 ∨ i % 3 = 1 ∨ i % 3 = 2 := by omega
  rcases h3 with e | e | e
  all_goals simp [madeCells, hi, e]
end Go.Proofs.Ytfcffpgiijnmjaa
