import Derived.Test.YtbpcafcipncloaaRows
import Derived.Test.YtbpcafcipncloaaOwnP
import Derived.ProofKit
import Derived.OpenShut
import Derived.Lib.SmallJoins
import Derived.Deep.SlicePairs
namespace Go.Proofs.Ytbpcafcipncloaa
open Go.ChangeShapes Go.WideShapes Go.ChangeAt Go.RowKit Go.Deep Go.Joins

section
variable {H : Type} {enc : TypeId × Value → H} {W : World}

theorem spot_of {w : World} {a : Addr} {v : Value} (h : w.cell? (a.add 0) = some v) : a.spot = none := by
  obtain ⟨b, off, spot⟩ := a
  simpa [Addr.add] using World.cell?_spot h

theorem add_eq {b off i : Nat} : (Addr.add ⟨b, off, none⟩ i) = ⟨b, off + i, none⟩ := by
  unfold Addr.add
  by_cases h : i = 0
  · subst h; simp
  · simp [h]

set_option maxRecDepth 100000 in
theorem bytes_of {fuel : Nat} {cs : List Value} {x : DataW H × List MemPlace} (h : DataW.trod enc Try.prog W 0 (fun _ => true) true fuel 24 cs = some x) :
    ∃ a n c f, cs = [.slice a n c] ∧ Rd .u8 W a n f ∧ (∀ i, i < n → 0 ≤ f i ∧ f i < 256) ∧ n ≤ maxLen := by
  rcases open_ints Try.underlying24 Try.underlying5 (by kernel_rfl) h with ⟨hcs, _⟩ | ⟨y, l, c, zs, hcs, _, hl, hm, hz, _, hcell, hwz⟩
  · exact ⟨none, 0, 0, fun _ => 0, hcs, Or.inl rfl, fun i hi => absurd hi (Nat.not_lt_zero _), Nat.zero_le _⟩
  · refine ⟨_, l, c, fun i => zs.getD i 0, hcs, ?_, fun i hi => ?_, by omega⟩
    · by_cases h0 : l = 0
      · exact Or.inl h0
      · simp at hz
        obtain ⟨b, off, spot⟩ := y
        have hs := spot_of (hcell 0 (by omega))
        simp at hs
        subst hs
        exact Or.inr ⟨b, off, rfl, fun i hi => by rw [← add_eq]; exact hcell i (by omega)⟩
    · simp at hz
      have hiz : i < zs.length := by omega
      have hw := hwz (zs.getD i 0) (by rw [List.getD_eq_getElem?_getD, List.getElem?_eq_getElem hiz]; exact List.getElem_mem hiz)
      have := bounds_u8 hw
      show 0 ≤ zs.getD i 0 ∧ zs.getD i 0 < 256
      omega

set_option maxRecDepth 100000 in
theorem pends_of {fuel : Nat} {cs : List Value} {x : DataW H × List MemPlace} (h : DataW.trod enc Try.prog W 0 (fun _ => true) true fuel 30 cs = some x) :
    ∃ a m c S L F, cs = [.slice a m c] ∧ RdP W a m S L F ∧ (∀ i, i < m → (∀ j, j < L i → 0 ≤ F i j ∧ F i j < 256) ∧ (Lit.int .i64 (S i)).wf = true ∧ L i ≤ maxLen) ∧ m ≤ maxLen := by
  rcases open_slice_pairs Try.underlying30 Try.underlying80 (by kernel_rfl) rfl rfl (by kernel_rfl) (by kernel_rfl) h with ⟨hcs, _⟩ | ⟨y, l, c, m, k, V0, V1, D0, D1, P0, P1, hcs, _, hl, hm, hmm, _, hcell⟩
  · exact ⟨none, 0, 0, fun _ => 0, fun _ => 0, fun _ _ => 0, hcs, Or.inl rfl, fun i hi => absurd hi (Nat.not_lt_zero _), Nat.zero_le _⟩
  · simp at hmm
    subst hmm
    have hS : ∀ i, i < m → ∃ s : Int, V0 i = .int .i64 s ∧ (Lit.int .i64 s).wf = true := fun i hi => by
      obtain ⟨_, _, h0, _⟩ := hcell i hi
      obtain ⟨s, e, _, hw⟩ := DataW.trod_int Try.underlying2 h0
      simp at e
      exact ⟨s, e, hw⟩
    obtain ⟨S, hS⟩ := choose_lt hS
    have hB : ∀ i, i < m → ∃ q : Option Addr × Nat × Nat × (Nat → Int), V1 i = .slice q.1 q.2.1 q.2.2.1 ∧ Rd .u8 W q.1 q.2.1 q.2.2.2 ∧ (∀ j, j < q.2.1 → 0 ≤ q.2.2.2 j ∧ q.2.2.2 j < 256) ∧ q.2.1 ≤ maxLen := fun i hi => by
      obtain ⟨_, _, _, h1⟩ := hcell i hi
      obtain ⟨a, n, c', f, e, hr, hb, hl⟩ := bytes_of h1
      simp at e
      exact ⟨(a, n, c', f), e, hr, hb, hl⟩
    obtain ⟨Q, hQ⟩ := choose_lt hB
    refine ⟨_, l, m, S, fun i => (Q i).2.1, fun i => (Q i).2.2.2, hcs, ?_, fun i hi => ?_, by omega⟩
    · by_cases h0 : l = 0
      · exact Or.inl h0
      · obtain ⟨b, off, spot⟩ := y
        have hs := spot_of (by simpa using (hcell 0 (by omega)).1)
        simp at hs
        subst hs
        refine Or.inr ⟨b, off, rfl, fun i hi => ?_⟩
        have him : i < m := by omega
        obtain ⟨e0, e1, _, _⟩ := hcell i him
        rw [add_eq, (hS i him).1] at e0
        rw [add_eq, (hQ i him).1] at e1
        exact ⟨e0, _, _, by rw [Nat.add_assoc]; exact e1, (hQ i him).2.1⟩
    · have him : i < m := by omega
      exact ⟨(hQ i him).2.2.1, (hS i him).2, (hQ i him).2.2.2⟩

/-- What the walk is told of a disk that came in. -/
def IsDisk (w : World) (v : Value) : Prop :=
  ∃ a n c d p m q S L F fuel dead, v = .agg #[.slice a n c, .slice p m q, .int .i64 fuel, .bool dead] ∧ Rd .u8 w a n d ∧ (∀ i, i < n → 0 ≤ d i ∧ d i < 256) ∧ n ≤ maxLen ∧
    RdP w p m S L F ∧ (∀ i, i < m → (∀ j, j < L i → 0 ≤ F i j ∧ F i j < 256) ∧ (Lit.int .i64 (S i)).wf = true ∧ L i ≤ maxLen) ∧ m ≤ maxLen ∧ (Lit.int .i64 fuel).wf = true

set_option maxRecDepth 100000 in
theorem openDisk {r : Reach} {b0 : Nat} {v : Value} {d : DataW H} {p : List MemPlace} (hv : Value.okWide Try.prog W r b0 32 v) (h : DataW.Trod enc Try.prog W 0 (fun _ => true) true 32 v d p) : IsDisk W v := by
  obtain ⟨v0, v1, v2, v3, y0, y1, y2, y3, n, rfl, _, _, h0, h1, h2, h3⟩ := open_agg4 Try.underlying32 (by kernel_rfl) (by kernel_rfl) hv h
  obtain ⟨a, n', c, f, e0, hr, hb, hl⟩ := bytes_of h0
  obtain ⟨pa, m, q, S, L, F, e1, hp, hpb, hm⟩ := pends_of h1
  obtain ⟨fuel, e2, _, hw⟩ := DataW.trod_int Try.underlying2 h2
  obtain ⟨dead, e3, _⟩ := DataW.trod_bool Try.underlying4 h3
  simp at e0 e1 e2 e3
  subst e0 e1 e2 e3
  exact ⟨a, n', c, f, pa, m, q, S, L, F, fuel, dead, rfl, hr, hb, hl, hp, hpb, hm, hw⟩
end
end Go.Proofs.Ytbpcafcipncloaa
