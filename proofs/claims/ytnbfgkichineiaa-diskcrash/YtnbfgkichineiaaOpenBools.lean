import Derived.Test.YtnbfgkichineiaaOpenDisk
import Derived.Test.YtnbfgkichineiaaBools
namespace Go.Proofs.Ytnbfgkichineiaa
open Go.ChangeShapes Go.WideShapes Go.ChangeAt Go.RowKit Go.Deep Go.Joins
set_option maxRecDepth 100000

section
variable {H : Type} {enc : TypeId × Value → H} {W : World}
/-- What the walk is told of a slice of bools that came in. -/
def IsBools (w : World) (v : Value) : Prop := ∃ a n c K, v = .slice a n c ∧ RdBl w a n K ∧ n ≤ maxLen

theorem openbools {r : Reach} {b0 : Nat} {v : Value} {d : DataW H} {p : List MemPlace} (hv : Value.okWide Try.prog W r b0 45 v) (h : DataW.Trod enc Try.prog W 0 (fun _ => true) true 45 v d p) : IsBools W v := by
  obtain ⟨a0, len, cap, rfl⟩ := okWide_slice Try.underlying45 hv
  obtain ⟨fuel, hf⟩ := h
  rcases open_slice1 Try.underlying45 (by kernel_rfl) hf with ⟨hcs, _⟩ | ⟨y, l, c, m, k, V, D, Pl, hcs, _, hl, hm, hmm, _, hcell⟩
  · simp [Value.cells] at hcs
    obtain ⟨rfl, rfl, rfl⟩ := hcs
    exact ⟨none, 0, 0, fun _ => false, rfl, Or.inl rfl, Nat.zero_le _⟩
  · simp [Value.cells] at hcs
    obtain ⟨rfl, rfl, rfl⟩ := hcs
    simp at hmm
    have hB : ∀ i, i < m → ∃ b : Bool, V i = .bool b := fun i hi => by
      obtain ⟨_, h1⟩ := hcell i hi
      obtain ⟨b, e, _⟩ := DataW.trod_bool Try.underlying4 h1
      simp at e
      exact ⟨b, e⟩
    obtain ⟨K, hK⟩ := choose_lt hB
    refine ⟨_, len, cap, K, rfl, ?_, by omega⟩
    by_cases h0 : len = 0
    · exact Or.inl h0
    · obtain ⟨b, off, spot⟩ := y
      have hs := spot_of (hcell 0 (by omega)).1
      simp at hs
      subst hs
      refine Or.inr ⟨b, off, rfl, fun i hi => ?_⟩
      have him : i < m := by omega
      rw [← add_eq, (hcell i him).1, hK i him]
end
end Go.Proofs.Ytnbfgkichineiaa
