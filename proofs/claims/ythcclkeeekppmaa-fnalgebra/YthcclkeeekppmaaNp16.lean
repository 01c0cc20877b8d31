import Derived.Test.YthcclkeeekppmaaNp3
import Derived.Test.YthcclkeeekppmaaBldL
import Derived.Shelf.Strings.Builder1
import Derived.Maps.AppendAt
import Derived.Test.YthcclkeeekppmaaNp15
import Derived.Test.YthcclkeeekppmaaPnT
namespace Go.Proofs.Ythcclkeeekppmaa
open Go.RowKit Go.Deep
set_option linter.unusedVariables false
set_option maxRecDepth 100000

/-- A strings.Builder in its block, used or not, that holds these bytes. -/
def BdA (w : World) (B b : Nat) (l : List Int) : Prop := Go.Lib.IsBuilder 158 5 B b (bv l) w
/-- Every number is a byte's. -/
def Byt (q : List Int) : Prop := ∀ x, x ∈ q → 0 ≤ x ∧ x < 256
/-- The string of a text. -/
def strT (q : List Int) : ByteArray := ⟨(q.map (fun x => UInt8.ofNat x.toNat)).toArray⟩
end Go.Proofs.Ythcclkeeekppmaa

namespace Go.Proofs.Ythcclkeeekppmaa
open Go.RowKit Go.Deep
set_option linter.unusedVariables false
set_option linter.unusedSimpArgs false
set_option maxRecDepth 100000

/-- A token's kind and text, as the specification has them. -/
def kdT (c : Nat) : Int := if c = 0 then 5 else if c = 14 then 2 else if c = 15 then 4 else if c ≤ 5 ∨ c = 9 then 1 else 3
def wdS (c : Nat) : ByteArray :=
  if c = 1 then { data := #[97, 108, 108] } else if c = 2 then { data := #[118] } else if c = 3 then { data := #[111, 117, 116] } else if c = 4 then { data := #[105, 110] } else if c = 5 then { data := #[104, 97, 115] } else if c = 9 then { data := #[103, 114, 97, 112, 104] }
  else if c = 6 then { data := #[38] } else if c = 7 then { data := #[124] } else if c = 8 then { data := #[45] } else if c = 10 then { data := #[46] } else if c = 11 then { data := #[40] } else if c = 12 then { data := #[41] } else if c = 13 then { data := #[44] } else { data := #[] }
def txT (t : Tok) : ByteArray := if t.c = 14 then strT t.q else wdS t.c
/-- The tokens lie in block g. -/
def RdK (w : World) (g m : Nat) (T : Nat → Tok) (A : Nat → Nat) : Prop :=
  ∀ i, i < m → w.cell? ⟨g, i * 3, none⟩ = some (.int .i64 (kdT (T i).c)) ∧ w.cell? ⟨g, i * 3 + 1, none⟩ = some (.string (txT (T i))) ∧ w.cell? ⟨g, i * 3 + 2, none⟩ = some (.int .i64 (A i : Int))
theorem RdK.below {w w' : World} {g m : Nat} {T : Nat → Tok} {A : Nat → Nat} (h : RdK w g m T A) (hb : Below w.heap.size w w') : RdK w' g m T A := fun i hi => by
  obtain ⟨h1, h2, h3⟩ := h i hi
  refine ⟨?_, ?_, ?_⟩
  · rw [hb.cell (p := ⟨g, i * 3, none⟩) (World.block_lt_of_cell? _ _ h1)]; exact h1
  · rw [hb.cell (p := ⟨g, i * 3 + 1, none⟩) (World.block_lt_of_cell? _ _ h2)]; exact h2
  · rw [hb.cell (p := ⟨g, i * 3 + 2, none⟩) (World.block_lt_of_cell? _ _ h3)]; exact h3
/-- The parser's state as a value. -/
def prV (g m c : Nat) (p : Pr) : Value := .agg #[.slice (some ⟨g, 0, none⟩) m c, .int .i64 (p.i : Int), .int .i64 (p.nd : Int), .int .i64 p.er, .int .i64 p.at_, .string (strT p.got)]

end Go.Proofs.Ythcclkeeekppmaa

namespace Go.Proofs.Ythcclkeeekppmaa
open Go.RowKit Go.Deep
set_option linter.unusedVariables false
set_option linter.unusedSimpArgs false
set_option maxRecDepth 100000

end Go.Proofs.Ythcclkeeekppmaa
