import Derived.Test.YtocmbnocdjnfpaaRows
import Derived.Test.YtocmbnocdjnfpaaOwn
import Derived.ProofKit
import Derived.OpenShut
import Derived.Lib.SmallJoins
import Derived.Deep.SlicePairs
namespace Go.Proofs.Ytocmbnocdjnfpaa
open Go.ChangeShapes Go.WideShapes Go.ChangeAt Go.RowKit Go.Deep Go.Joins
set_option maxRecDepth 100000

section
variable {H : Type} {enc : TypeId × Value → H} {W : World}

theorem spot_of {w : World} {a : Addr} {v : Value} (h : w.cell? (a.add 0) = some v) : a.spot = none := by
  obtain ⟨b, off, spot⟩ := a
  simpa [Addr.add] using World.cell?_spot h

theorem add_eq {b off i : Nat} : (Addr.add ⟨b, off, none⟩ i) = ⟨b, off + i, none⟩ := by
  unfold Addr.add
  by_cases h : i = 0
  · subst h; simp
  · simp [h]

set_option maxRecDepth 100000 in
theorem bytes_of {fuel : Nat} {cs : List Value} {x : DataW H × List MemPlace} (h : DataW.trod enc Try.prog W 0 (fun _ => true) true fuel 33 cs = some x) :
    ∃ a n c f, cs = [.slice a n c] ∧ Rd .u8 W a n f ∧ (∀ i, i < n → 0 ≤ f i ∧ f i < 256) ∧ n ≤ maxLen := by
  rcases open_ints Try.underlying33 Try.underlying5 (by kernel_rfl) h with ⟨hcs, _⟩ | ⟨y, l, c, zs, hcs, _, hl, hm, hz, _, hcell, hwz⟩
  · exact ⟨none, 0, 0, fun _ => 0, hcs, Or.inl rfl, fun i hi => absurd hi (Nat.not_lt_zero _), Nat.zero_le _⟩
  · refine ⟨_, l, c, fun i => zs.getD i 0, hcs, ?_, fun i hi => ?_, by omega⟩
    · by_cases h0 : l = 0
      · exact Or.inl h0
      · simp at hz
        obtain ⟨b, off, spot⟩ := y
        have hs := spot_of (hcell 0 (by omega))
        simp at hs
        subst hs
        exact Or.inr ⟨b, off, rfl, fun i hi => by rw [← add_eq]; exact hcell i (by omega)⟩
    · simp at hz
      have hiz : i < zs.length := by omega
      have hw := hwz (zs.getD i 0) (by rw [List.getD_eq_getElem?_getD, List.getElem?_eq_getElem hiz]; exact List.getElem_mem hiz)
      have := bounds_u8 hw
      show 0 ≤ zs.getD i 0 ∧ zs.getD i 0 < 256
      omega

/-- What the walk is told of a slice of bytes that came in. -/
def IsBytesR (w : World) (v : Value) : Prop := ∃ a n c f, v = .slice a n c ∧ Rd .u8 w a n f ∧ (∀ i, i < n → 0 ≤ f i ∧ f i < 256) ∧ n ≤ maxLen

theorem openByteR {r : Reach} {b0 : Nat} {v : Value} {d : DataW H} {p : List MemPlace} (hv : Value.okWide Try.prog W r b0 33 v) (h : DataW.Trod enc Try.prog W 0 (fun _ => true) true 33 v d p) : IsBytesR W v := by
  obtain ⟨a0, len, cap, rfl⟩ := okWide_slice Try.underlying33 hv
  obtain ⟨fuel, hf⟩ := h
  obtain ⟨a, n, c, f, hcs, h1, h3, h2⟩ := bytes_of hf
  simp [Value.cells] at hcs
  obtain ⟨rfl, rfl, rfl⟩ := hcs
  exact ⟨_, _, _, f, rfl, h1, h3, h2⟩
end
end Go.Proofs.Ytocmbnocdjnfpaa
