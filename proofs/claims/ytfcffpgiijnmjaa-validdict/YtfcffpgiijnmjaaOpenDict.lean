import Derived.Test.YtfcffpgiijnmjaaRows
import Derived.Test.YtfcffpgiijnmjaaTerm
import Derived.ProofKit
import Derived.OpenShut
import Derived.Lib.SmallJoins
import Derived.Deep.SlicePairs
namespace Go.Proofs.Ytfcffpgiijnmjaa
open Go.ChangeShapes Go.WideShapes Go.ChangeAt Go.RowKit Go.Deep Go.Joins
set_option linter.unusedVariables false

section
variable {H : Type} {enc : TypeId × Value → H} {W : World}

theorem spotT_of {w : World} {a : Addr} {v : Value} (h : w.cell? (a.add 0) = some v) : a.spot = none := by
  obtain ⟨b, off, spot⟩ := a
  simpa [Addr.add] using World.cell?_spot h

theorem addT_eq {b off i : Nat} : (Addr.add ⟨b, off, none⟩ i) = ⟨b, off + i, none⟩ := by
  unfold Addr.add
  by_cases h : i = 0
  · subst h; simp
  · simp [h]

set_option maxRecDepth 100000 in
theorem terms_of {fuel : Nat} {cs : List Value} {x : DataW H × List MemPlace} (h : DataW.trod enc Try.prog W 0 (fun _ => true) true fuel 29 cs = some x) :
    ∃ a n c I X R, cs = [.slice a n c] ∧ RdT W a n I X R ∧ (∀ i, i < n → (X i).size ≤ maxLen) ∧ n ≤ maxLen := by
  rcases open_slice (P := Try.prog) (t := 29) (e := 84) (by kernel_rfl) h with ⟨hcs, _⟩ | ⟨a, len, cap, m, fu, D, Pl, hcs, _, hl, hm, hmm, _, hx⟩
  · exact ⟨none, 0, 0, fun _ => 0, fun _ => { data := #[] }, fun _ => 0, hcs, Or.inl rfl, fun i hi => absurd hi (Nat.not_lt_zero _), Nat.zero_le _⟩
  · have hlm : len ≤ m := by rw [hmm]; split <;> omega
    have each : ∀ i, i < len → ∃ q : Int × ByteArray × Int, W.cell? (a.add (i * 3)) = some (.int .i64 q.1) ∧ W.cell? (a.add (i * 3 + 1)) = some (.string q.2.1) ∧ W.cell? (a.add (i * 3 + 2)) = some (.int .i64 q.2.2) ∧ q.2.1.size ≤ maxLen := by
      intro i hi
      obtain ⟨cs', h1, h2⟩ := hx i (by omega)
      rw [show Try.prog.cellsOf 84 = 3 by kernel_rfl] at h1
      obtain ⟨_, hlen, hcell⟩ := World.cells?_some h1
      obtain ⟨xs, k, hk, hxy, _, hxl, hf⟩ := DataW.trod_struct (P := Try.prog) Try.underlying84 h2
      have g0 := hf 0 _ rfl
      have g1 := hf 1 _ rfl
      have g2 := hf 2 _ rfl
      rw [show Try.prog.cellsOf _ = 1 by kernel_rfl] at g0 g1 g2
      match xs, hxl, cs', hlen with
      | [y0, y1, y2], _, [v0, v1, v2], _ =>
        simp at g0 g1 g2
        obtain ⟨i0, e0, _, _⟩ := DataW.trod_int Try.underlying2 g0
        obtain ⟨x0, e1, _, hs⟩ := DataW.trod_string Try.underlying9 g1
        obtain ⟨r0, e2, _, _⟩ := DataW.trod_int Try.underlying2 g2
        simp at e0 e1 e2
        subst e0 e1 e2
        have c0 := hcell 0 (by omega)
        have c1 := hcell 1 (by omega)
        have c2 := hcell 2 (by omega)
        rw [Addr.add_add] at c0 c1 c2
        exact ⟨(i0, x0, r0), by simpa using c0, by simpa using c1, by simpa using c2, hs⟩
    obtain ⟨q, hq⟩ := choose_lt each
    refine ⟨some a, len, cap, fun i => (q i).1, fun i => (q i).2.1, fun i => (q i).2.2, hcs, ?_, fun i hi => (hq i hi).2.2.2, by omega⟩
    by_cases h0 : len = 0
    · exact Or.inl h0
    · obtain ⟨b, off, spot⟩ := a
      have hs := spotT_of (a := ⟨b, off, spot⟩) (by simpa using (hq 0 (by omega)).1)
      simp at hs
      subst hs
      refine Or.inr ⟨b, off, rfl, fun i hi => ?_⟩
      obtain ⟨k0, k1, k2, _⟩ := hq i hi
      rw [addT_eq] at k0 k1 k2
      exact ⟨k0, k1, k2⟩

/-- What the walk is told of a dictionary that came in. -/
def IsDict (w : World) (v : Value) : Prop :=
  ∃ next a n c I X R, v = .agg #[.int .i64 next, .slice a n c] ∧ RdT w a n I X R ∧ (∀ i, i < n → (X i).size ≤ maxLen) ∧ n ≤ maxLen

set_option maxRecDepth 100000 in
theorem openDict {r : Reach} {b0 : Nat} {v : Value} {d : DataW H} {p : List MemPlace} (hv : Value.okWide Try.prog W r b0 31 v) (h : DataW.Trod enc Try.prog W 0 (fun _ => true) true 31 v d p) : IsDict W v := by
  obtain ⟨v0, v1, y0, y1, n, rfl, _, _, h0, h1⟩ := open_agg2 Try.underlying31 (by kernel_rfl) (by kernel_rfl) hv h
  obtain ⟨next, e0, _, _⟩ := DataW.trod_int Try.underlying2 h0
  obtain ⟨a, n', c, I, X, R, e1, hr, hX, hn⟩ := terms_of h1
  simp at e0 e1
  subst e0 e1
  exact ⟨next, a, n', c, I, X, R, rfl, hr, hX, hn⟩
end
end Go.Proofs.Ytfcffpgiijnmjaa
