import Derived.Test.YtocmbnocdjnfpaaRows
import Derived.Test.YtocmbnocdjnfpaaOwn
import Derived.WalkKit
import Derived.Deep.Upon
namespace Go.Proofs.Ytocmbnocdjnfpaa
open Go.RowKit Go.Deep
set_option linter.unusedVariables false
set_option maxRecDepth 100000

/-- A slice of strings that can be read. -/
def RdS (w : World) (a : Option Addr) (n : Nat) (X : Nat → ByteArray) : Prop :=
  n = 0 ∨ ∃ b o, a = some ⟨b, o, none⟩ ∧ ∀ i, i < n → w.cell? ⟨b, o + i, none⟩ = some (.string (X i))
/-- A slice of strings in the call's own memory. -/
def OwnS (w : World) (B : Nat) (a : Option Addr) (n : Nat) (X : Nat → ByteArray) : Prop :=
  n = 0 ∨ ∃ g, a = some ⟨g, 0, none⟩ ∧ B ≤ g ∧ rowIn w g 9 n (fun i => .string (X i))
/-- The cells of a row of strings. -/
def strRow (X : Nat → ByteArray) (n : Nat) : List Value := (List.range n).map fun j => .string (X j)
theorem strRow_length (X : Nat → ByteArray) (n : Nat) : (strRow X n).length = n := by simp [strRow]
theorem strRow_get (X : Nat → ByteArray) (n i : Nat) (h : i < n) : (strRow X n)[i]? = some (.string (X i)) := by simp [strRow, h]

section
variable {w w' : World} {B B' : Nat} {a : Option Addr} {n : Nat} {X X' : Nat → ByteArray}
theorem RdS.below (h : RdS w a n X) (hb : Below w.heap.size w w') : RdS w' a n X := by
  rcases h with h | ⟨b, o, rfl, hc⟩
  · exact Or.inl h
  · refine Or.inr ⟨b, o, rfl, fun i hi => ?_⟩
    rw [hb.cell (p := ⟨b, o + i, none⟩) (World.block_lt_of_cell? _ _ (hc i hi))]
    exact hc i hi
theorem RdS.congr (h : RdS w a n X) (e : ∀ i, i < n → X i = X' i) : RdS w a n X' := by
  rcases h with h | ⟨b, o, rfl, hc⟩
  · exact Or.inl h
  · exact Or.inr ⟨b, o, rfl, fun i hi => by rw [hc i hi, e i hi]⟩
theorem OwnS.rd (h : OwnS w B a n X) : RdS w a n X := by
  rcases h with h | ⟨g, rfl, _, hr⟩
  · exact Or.inl h
  · exact Or.inr ⟨g, 0, rfl, fun i hi => by rw [Nat.zero_add]; exact hr.cell hi⟩
theorem OwnS.mono (h : OwnS w B a n X) (hB : B' ≤ B) : OwnS w B' a n X := by
  rcases h with h | ⟨g, rfl, hg, hr⟩
  · exact Or.inl h
  · exact Or.inr ⟨g, rfl, by omega, hr⟩
theorem OwnS.below (h : OwnS w B a n X) (hb : Below w.heap.size w w') : OwnS w' B a n X := by
  rcases h with h | ⟨g, rfl, hg, hr⟩
  · exact Or.inl h
  · exact Or.inr ⟨g, rfl, hg, hr.of_block (hb.block g hr.lt)⟩
theorem OwnS.congr (h : OwnS w B a n X) (e : ∀ i, i < n → X i = X' i) : OwnS w B a n X' := by
  rcases h with h | ⟨g, rfl, hg, hr⟩
  · exact Or.inl h
  · exact Or.inr ⟨g, rfl, hg, hr.congr (fun i hi => by rw [e i hi])⟩
theorem OwnS.setOther (h : OwnS w B a n X) {p : Addr} (hp : p.block < B) (v : Value) : OwnS (w.setCell p v) B a n X := by
  rcases h with h | ⟨g, rfl, hg, hr⟩
  · exact Or.inl h
  · exact Or.inr ⟨g, rfl, hg, hr.of_block (Below.heap_setCell _ _ _ _ (by omega))⟩
theorem ownS_ofRow {v : Value} (h : w.ownsRow B 9 1 v n (strRow X n)) : ∃ a c, v = .slice a n c ∧ OwnS w B a n X ∧ n ≤ c ∧ c ≤ 9223372036854775807 := by
  obtain ⟨_, h⟩ := h
  rcases h with ⟨rfl, rfl⟩ | ⟨g, cap, cur, rfl, hg, hh, h1, h2, h3, h4⟩
  · exact ⟨none, 0, rfl, Or.inl rfl, Nat.le_refl _, by omega⟩
  · unfold maxLen at h2
    refine ⟨_, cap, rfl, Or.inr ⟨g, rfl, hg, cur, hh, by omega, fun i hi => ?_⟩, h1, h2⟩
    rw [← strRow_get X n i hi, ← h4]
    have : i < n * 1 := by omega
    rw [List.getElem?_take, if_pos this]
    simp
end
end Go.Proofs.Ytocmbnocdjnfpaa
