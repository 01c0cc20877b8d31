import Derived.Test.YtlcamfkgkcjehaaRows
import Derived.Test.YtlcamfkgkcjehaaOwnP
import Derived.Deep.QuietTactic
import Derived.BigQuiet
namespace Go.Proofs.Ytlcamfkgkcjehaa
open Go.RowKit Go.Deep
set_option linter.unusedVariables false
set_option maxRecDepth 100000

/-- A slice of bools that can be read. -/
def RdBl (w : World) (a : Option Addr) (n : Nat) (f : Nat → Bool) : Prop :=
  n = 0 ∨ ∃ b o, a = some ⟨b, o, none⟩ ∧ ∀ i, i < n → w.cell? ⟨b, o + i, none⟩ = some (.bool (f i))

theorem RdBl.below {w w' : World} {a : Option Addr} {n : Nat} {f : Nat → Bool} (h : RdBl w a n f) (hb : Below w.heap.size w w') : RdBl w' a n f := by
  rcases h with h | ⟨b, o, rfl, hc⟩
  · exact Or.inl h
  · refine Or.inr ⟨b, o, rfl, fun i hi => ?_⟩
    have hlt := World.block_lt_of_cell? _ _ (hc i hi)
    rw [hb.cell (p := ⟨b, o + i, none⟩) hlt]
    exact hc i hi

theorem RdBl.ofRow {w : World} {g : Nat} {t : TypeId} {n : Nat} {f : Nat → Bool} (h : rowIn w g t n (fun i => .bool (f i))) : RdBl w (some ⟨g, 0, none⟩) n f :=
  Or.inr ⟨g, 0, rfl, fun i hi => by rw [Nat.zero_add]; exact h.cell hi⟩

theorem Try.info4 : (Try.prog.info? 4).map (fun i => (i.zero, i.size, i.bytes)) = some (some (.bool false), 1, 1) := by kernel_rfl

end Go.Proofs.Ytlcamfkgkcjehaa
