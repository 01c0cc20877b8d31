import Derived.Test.YtcnollkkigiobaaGreatRows
import Derived.Test.YtcnollkkigiobaaGreatTnSz
import Derived.ProofKit
import Derived.OpenShut
import Derived.Lib.SmallJoins
import Derived.Deep.SlicePairs
namespace Go.Proofs.YtcnollkkigiobaaGreat
open Go.ChangeShapes Go.WideShapes Go.ChangeAt Go.RowKit Go.Deep Go.Joins
set_option linter.unusedVariables false

section
variable {H : Type} {enc : TypeId × Value → H} {W : World}

theorem spotT_of {w : World} {a : Addr} {v : Value} (h : w.cell? (a.add 0) = some v) : a.spot = none := by
  obtain ⟨b, off, spot⟩ := a
  simpa [Addr.add] using World.cell?_spot h

theorem addT_eq {b off i : Nat} : (Addr.add ⟨b, off, none⟩ i) = ⟨b, off + i, none⟩ := by
  unfold Addr.add
  by_cases h : i = 0
  · subst h; simp
  · simp [h]

set_option maxRecDepth 100000 in
theorem i64s_of {fuel : Nat} {cs : List Value} {x : DataW H × List MemPlace} (h : DataW.trod enc Tryz.prog W 0 (fun _ => true) true fuel 151 cs = some x) :
    ∃ a n c f, cs = [.slice a n c] ∧ Rd .i64 W a n f ∧ n ≤ maxLen ∧ ∀ i, i < n → (Lit.int .i64 (f i)).wf = true := by
  rcases open_ints Tryz.underlying151 Tryz.underlying2 (by kernel_rfl) h with ⟨hcs, _⟩ | ⟨y, l, c, zs, hcs, _, hl, hm, hz, _, hcell, hwz⟩
  · exact ⟨none, 0, 0, fun _ => 0, hcs, Or.inl rfl, Nat.zero_le _, fun i hi => absurd hi (Nat.not_lt_zero _)⟩
  · refine ⟨_, l, c, fun i => zs.getD i 0, hcs, ?_, by omega, fun i hi => ?_⟩
    · by_cases h0 : l = 0
      · exact Or.inl h0
      · simp at hz
        obtain ⟨b, off, spot⟩ := y
        have hs := spotT_of (hcell 0 (by omega))
        simp at hs
        subst hs
        exact Or.inr ⟨b, off, rfl, fun i hi => by rw [← addT_eq]; exact hcell i (by omega)⟩
    · simp at hz
      have hiz : i < zs.length := by omega
      exact hwz (zs.getD i 0) (by rw [List.getD_eq_getElem?_getD, List.getElem?_eq_getElem hiz]; exact List.getElem_mem hiz)

set_option maxRecDepth 100000 in
theorem strs_of {fuel : Nat} {cs : List Value} {x : DataW H × List MemPlace} (h : DataW.trod enc Tryz.prog W 0 (fun _ => true) true fuel 88 cs = some x) :
    ∃ a n c X, cs = [.slice a n c] ∧ RdS W a n X ∧ (∀ i, i < n → (X i).size ≤ maxLen) ∧ n ≤ maxLen := by
  rcases open_slice (P := Tryz.prog) (t := 88) (e := 9) (by kernel_rfl) h with ⟨hcs, _⟩ | ⟨a, len, cap, m, fu, D, Pl, hcs, _, hl, hm, hmm, _, hx⟩
  · exact ⟨none, 0, 0, fun _ => { data := #[] }, hcs, Or.inl rfl, fun i hi => absurd hi (Nat.not_lt_zero _), Nat.zero_le _⟩
  · have hlm : len ≤ m := by rw [hmm]; split <;> omega
    have each : ∀ i, i < len → ∃ q : ByteArray, W.cell? (a.add i) = some (.string q) ∧ q.size ≤ maxLen := by
      intro i hi
      obtain ⟨cs', h1, h2⟩ := hx i (by omega)
      rw [show Tryz.prog.cellsOf 9 = 1 by kernel_rfl] at h1
      obtain ⟨_, hlen, hcell⟩ := World.cells?_some h1
      match cs', hlen with
      | [v0], _ =>
        obtain ⟨x0, e1, _, hs⟩ := DataW.trod_string Tryz.underlying9 h2
        simp at e1
        subst e1
        have c0 := hcell 0 (by omega)
        rw [Addr.add_add] at c0
        exact ⟨x0, by simpa using c0, hs⟩
    obtain ⟨q, hq⟩ := choose_lt each
    refine ⟨some a, len, cap, q, hcs, ?_, fun i hi => (hq i hi).2, by omega⟩
    by_cases h0 : len = 0
    · exact Or.inl h0
    · obtain ⟨b, off, spot⟩ := a
      have hs := spotT_of (a := ⟨b, off, spot⟩) (by simpa using (hq 0 (by omega)).1)
      simp at hs
      subst hs
      refine Or.inr ⟨b, off, rfl, fun i hi => ?_⟩
      have k0 := (hq i hi).1
      rw [addT_eq] at k0
      exact k0

set_option maxRecDepth 100000 in
theorem tnodes_of {fuel : Nat} {cs : List Value} {x : DataW H × List MemPlace} (h : DataW.trod enc Tryz.prog W 0 (fun _ => true) true fuel 104 cs = some x) :
    ∃ a n c N, cs = [.slice a n c] ∧ RdTn W a n N ∧ (∀ i, i < n → TnBig (N i)) ∧ n ≤ maxLen := by
  rcases open_slice (P := Tryz.prog) (t := 104) (e := 199) (by kernel_rfl) h with ⟨hcs, _⟩ | ⟨a, len, cap, m, fu, D, Pl, hcs, _, hl, hm, hmm, _, hx⟩
  · exact ⟨none, 0, 0, fun _ => ⟨false, 0, fun _ => { data := #[] }, 0, fun _ => 0, 0⟩, hcs, Or.inl rfl, fun i hi => absurd hi (Nat.not_lt_zero _), Nat.zero_le _⟩
  · have hlm : len ≤ m := by rw [hmm]; split <;> omega
    have each : ∀ i, i < len → ∃ q : Tn × Option Addr × Nat × Option Addr × Nat, W.cell? (a.add (i * 4)) = some (.bool q.1.lf) ∧ W.cell? (a.add (i * 4 + 1)) = some (.slice q.2.1 q.1.kn q.2.2.1) ∧ W.cell? (a.add (i * 4 + 2)) = some (.slice q.2.2.2.1 q.1.dn q.2.2.2.2) ∧ W.cell? (a.add (i * 4 + 3)) = some (.int .i64 q.1.ct) ∧
        RdS W q.2.1 q.1.kn q.1.ks ∧ Rd .i64 W q.2.2.2.1 q.1.dn q.1.kd ∧ TnBig q.1 := by
      intro i hi
      obtain ⟨cs', h1, h2⟩ := hx i (by omega)
      rw [show Tryz.prog.cellsOf 199 = 4 by kernel_rfl] at h1
      obtain ⟨_, hlen, hcell⟩ := World.cells?_some h1
      obtain ⟨xs, k, hk, hxy, _, hxl, hf⟩ := DataW.trod_struct (P := Tryz.prog) Tryz.underlying199 h2
      have g0 := hf 0 _ rfl
      have g1 := hf 1 _ rfl
      have g2 := hf 2 _ rfl
      have g3 := hf 3 _ rfl
      rw [show Tryz.prog.cellsOf _ = 1 by kernel_rfl] at g0 g1 g2 g3
      match xs, hxl, cs', hlen with
      | [y0, y1, y2, y3], _, [v0, v1, v2, v3], _ =>
        simp at g0 g1 g2 g3
        obtain ⟨b0, e0, _⟩ := DataW.trod_bool Tryz.underlying4 g0
        obtain ⟨ka, kn, kc, X, e1, hX, hXs, hkn⟩ := strs_of g1
        obtain ⟨da, dn, dc, f, e2, hf2, hdn, hwf⟩ := i64s_of g2
        obtain ⟨i3, e3, _, _⟩ := DataW.trod_int Tryz.underlying2 g3
        simp at e0 e1 e2 e3
        subst e0 e1 e2 e3
        have c0 := hcell 0 (by omega)
        have c1 := hcell 1 (by omega)
        have c2 := hcell 2 (by omega)
        have c3 := hcell 3 (by omega)
        rw [Addr.add_add] at c0 c1 c2 c3
        exact ⟨(⟨b0, kn, X, dn, f, i3⟩, ka, kc, da, dc), by simpa using c0, by simpa using c1, by simpa using c2, by simpa using c3, hX, hf2, hkn, hdn, hXs⟩
    haveI : Inhabited Tn := ⟨⟨false, 0, fun _ => { data := #[] }, 0, fun _ => 0, 0⟩⟩
    obtain ⟨q, hq⟩ := choose_lt each
    refine ⟨some a, len, cap, fun i => (q i).1, hcs, ?_, fun i hi => (hq i hi).2.2.2.2.2.2, by omega⟩
    by_cases h0 : len = 0
    · exact Or.inl h0
    · obtain ⟨b, off, spot⟩ := a
      have hs := spotT_of (a := ⟨b, off, spot⟩) (by simpa using (hq 0 (by omega)).1)
      simp at hs
      subst hs
      refine Or.inr ⟨b, off, rfl, fun i hi => ?_⟩
      obtain ⟨k0, k1, k2, k3, k4, k5, _⟩ := hq i hi
      rw [addT_eq] at k0 k1 k2 k3
      exact ⟨_, _, _, _, k0, k1, k2, k3, k4, k5⟩

/-- What the walk is told of a tree that came in. -/
def IsTree (w : World) (v : Value) : Prop :=
  ∃ a n c N, v = .agg #[.slice a n c] ∧ RdTn w a n N ∧ (∀ i, i < n → TnBig (N i)) ∧ n ≤ maxLen

set_option maxRecDepth 100000 in
theorem openTree {r : Reach} {b0 : Nat} {v : Value} {d : DataW H} {p : List MemPlace} (hv : Value.okWide Tryz.prog W r b0 106 v) (h : DataW.Trod enc Tryz.prog W 0 (fun _ => true) true 106 v d p) : IsTree W v := by
  obtain ⟨cs, rfl, hsz⟩ := okWide_struct (P := Tryz.prog) Tryz.underlying106 hv
  have h1 : cs.size = 1 := hsz.trans (by kernel_rfl)
  obtain ⟨l⟩ := cs
  match l, h1 with
  | [c0], _ =>
    obtain ⟨fuel, hf⟩ := h
    obtain ⟨xs, k, hk, hxy, _, hxl, hff⟩ := DataW.trod_struct (P := Tryz.prog) Tryz.underlying106 hf
    have g0 := hff 0 _ rfl
    rw [show Tryz.prog.cellsOf _ = 1 by kernel_rfl] at g0
    match xs, hxl with
    | [y0], _ =>
      simp [Value.cells] at g0
      obtain ⟨a, n', c, N, e1, hr, hX, hn⟩ := tnodes_of g0
      simp at e1
      subst e1
      exact ⟨a, n', c, N, rfl, hr, hX, hn⟩
end
end Go.Proofs.YtcnollkkigiobaaGreat
