import Derived.Test.YtocmbnocdjnfpaaIter
import Derived.Test.YtocmbnocdjnfpaaNgc
import Derived.Sort.Walk0
import Derived.Sort.KeysCollected
import Derived.Test.YtocmbnocdjnfpaaNg3
import Derived.Test.YtocmbnocdjnfpaaOpenPath
namespace Go.Proofs.Ytocmbnocdjnfpaa
open Go.RowKit Go.Deep Go.MapKept Go.Maps
set_option linter.unusedVariables false
set_option maxRecDepth 100000
set_option linter.unusedSimpArgs false

theorem lt_less {x y : ByteArray} (h : x.data.toList < y.data.toList) : Op.bytesLess x.toList y.toList = true := by
  rw [Go.Proofs.bytesLess_eq, Lib.toList_data, Lib.toList_data]
  exact decide_eq_true h
/-- The keys of a set, as lists of bytes. -/
theorem keys_set {w : World} {B N : Nat} {D : DataW Unit} (hown : w.ownsMap Try.prog 9 unitElem B N D) : (strKeys D).Nodup ∧ ∀ x : ByteArray, x.data.toList ∈ strKeys D ↔ Maps.has D (kS x) = true := by
  obtain ⟨es, clock, hb, F, hs, hD⟩ := hown
  have hall : ∀ p, p ∈ es.toList.map (WideElems.rg (H := Unit) Try.prog 9 unitElem) → ∃ z : ByteArray, p.1 = kS z := fun p hp => by
    obtain ⟨x, hx, rfl⟩ := List.mem_map.1 hp
    obtain ⟨y, hy⟩ := F.reads x hx
    have hkey := WideElems.rd_key hy
    obtain ⟨z, hz⟩ := key_inv hkey
    rw [hz] at hkey
    exact ⟨z, by rw [WideElems.rg_of hy, (key_str hkey).1]⟩
  have hperm : (strKeys D).Perm ((es.toList.map (WideElems.rg (H := Unit) Try.prog 9 unitElem)).map (fun p => strOf p.1)) := by
    rw [hD]
    show (List.map (fun (p : Lit × DataW Unit) => strOf p.1) _).Perm _
    exact (WideShapes.sorted_perm _).map _
  have hap := fit_apart strK F
  refine ⟨hperm.nodup_iff.2 ?_, fun x => ?_⟩
  · unfold List.Nodup
    rw [List.pairwise_map]
    refine List.Pairwise.imp_of_mem ?_ hap
    intro p q hp hq hne e
    obtain ⟨z1, e1⟩ := hall p hp
    obtain ⟨z2, e2⟩ := hall q hq
    rw [e1, e2] at e hne
    have e' : z1.data.toList = z2.data.toList := e
    exact hne (by unfold kS; rw [e'])
  · rw [hperm.mem_iff, List.mem_map, hD, Maps.has_eq, List.any_eq_true]
    constructor
    · rintro ⟨p, hp, e⟩
      obtain ⟨z, ez⟩ := hall p hp
      refine ⟨p, ((WideShapes.sorted_perm _).mem_iff).2 hp, ?_⟩
      rw [ez] at e ⊢
      have e' : z.data.toList = x.data.toList := e
      rw [kS_same]
      exact kS_inj (by unfold kS; rw [e'])
    · rintro ⟨p, hp, e⟩
      have hp2 := ((WideShapes.sorted_perm _).mem_iff).1 hp
      obtain ⟨z, ez⟩ := hall p hp2
      rw [ez, kS_same] at e
      refine ⟨p, hp2, ?_⟩
      rw [ez, e]
      rfl
/-- slices.Sorted(maps.Keys(s)) at a set. -/
theorem srt_ok : SrtOk := by
  intro B fs P w hs hl w0 hb0
  obtain ⟨⟨D, hown, hP⟩, hU⟩ := hs
  have hle := hown.size_le
  obtain ⟨hnd, hmem⟩ := keys_set hown
  refine (mkeys_set_string__string_struct (some B) w).mono ?_
  rintro e w1 ⟨rfl, rfl⟩
  refine ⟨_, rfl, below_alloc _ _, ?_⟩
  refine (sorted_set_string__string_struct B 600 D unitElem w hown (by unfold maxLen; omega) (by omega)).mono ?_
  rintro e w' ⟨v, ss, rfl, hp, hrow, _, hb⟩
  have tr : ∀ a b c : List UInt8, (fun x y : List UInt8 => decide (x ≤ y)) a b = true → (fun x y : List UInt8 => decide (x ≤ y)) b c = true → (fun x y : List UInt8 => decide (x ≤ y)) a c = true := fun a b c h1 h2 => by simp only [decide_eq_true_eq] at *; exact List.le_trans h1 h2
  have tot : ∀ a b : List UInt8, ((fun x y : List UInt8 => decide (x ≤ y)) a b || (fun x y : List UInt8 => decide (x ≤ y)) b a) = true := fun a b => by simp only [Bool.or_eq_true, decide_eq_true_eq]; exact List.le_total a b
  have hsp := List.pairwise_mergeSort tr tot ss
  have hpm := List.mergeSort_perm ss (fun x y : List UInt8 => decide (x ≤ y))
  have hnds : (ss.mergeSort (fun x y : List UInt8 => decide (x ≤ y))).Nodup := hpm.nodup_iff.2 (hp.nodup_iff.2 hnd)
  obtain ⟨M, hM⟩ : ∃ M, M = ss.mergeSort (fun x y : List UInt8 => decide (x ≤ y)) := ⟨_, rfl⟩
  rw [← hM] at hsp hpm hnds hrow
  have hlen : ss.length = M.length := hpm.length_eq.symm
  have hmk : ∀ l : List UInt8, (ByteArray.mk l.toArray).data.toList = l := fun l => by simp
  refine ⟨v, M.map (fun l => ByteArray.mk l.toArray), rfl, ?_, fun x => ?_, ?_, ?_⟩
  · show List.Pairwise _ _
    rw [List.pairwise_map]
    refine (hsp.and hnds).imp ?_
    rintro a b ⟨h1, h2⟩
    refine lt_less ?_
    rw [hmk, hmk]
    simp only [decide_eq_true_eq] at h1
    by_cases q : a < b
    · exact q
    · exact absurd (List.le_antisymm h1 (List.not_lt.1 q)) h2
  · rw [← hP, ← hmem, ← hp.mem_iff, ← hpm.mem_iff, List.mem_map]
    constructor
    · rintro ⟨l, hl1, rfl⟩
      rw [hmk]
      exact hl1
    · intro q
      exact ⟨_, q, by cases x; simp⟩
  · rw [List.length_map, ← hlen]
    have e2 : strL (M.map (fun l => ByteArray.mk l.toArray)) = M.map encStr := by
      unfold strL
      rw [List.map_map]
      exact List.map_congr_left (fun l _ => by simp [encStr])
    rw [e2]
    obtain ⟨q1, q2⟩ := hrow
    refine ⟨q1, q2.imp id ?_⟩
    rintro ⟨g0, cap, cur, e1, e2, e3⟩
    exact ⟨g0, cap, cur, e1, by simp at e2; omega, e3⟩
  · have hbb : Below w.heap.size w w' := (below_alloc _ _).trans (hb.mono (by simp))
    exact hb0.trans (hbb.mono hb0.size)
end Go.Proofs.Ytocmbnocdjnfpaa

namespace Go.Proofs.Ytocmbnocdjnfpaa
open Go.ChangeShapes Go.WideShapes Go.ChangeAt Go.RowKit Go.Deep Go.Joins
set_option linter.unusedVariables false

section
variable {H : Type} {enc : TypeId × Value → H} {W : World}
set_option maxRecDepth 100000 in
theorem facts_of {fuel : Nat} {cs : List Value} {x : DataW H × List MemPlace} (h : DataW.trod enc Try.prog W 0 (fun _ => true) true fuel 47 cs = some x) :
    ∃ a n c fs, cs = [.slice a n c] ∧ RdF W a fs ∧ n = fs.length ∧ (∀ f, f ∈ fs → FcBig f) ∧ n ≤ maxLen := by
  rcases open_slice (P := Try.prog) (t := 47) (e := 96) (by kernel_rfl) h with ⟨hcs, _⟩ | ⟨a, len, cap, m, fu, D, Pl, hcs, _, hl, hm, hmm, _, hx⟩
  · exact ⟨none, 0, 0, [], hcs, Or.inl rfl, rfl, (fun f hf => by cases hf), Nat.zero_le _⟩
  · have hlm : len ≤ m := by rw [hmm]; split <;> omega
    have each : ∀ i, i < len → ∃ q : Fc, W.cell? (a.add (i * 4)) = some (.string q.s) ∧ W.cell? (a.add (i * 4 + 1)) = some (.string q.p) ∧ W.cell? (a.add (i * 4 + 2)) = some (.string q.o) ∧ W.cell? (a.add (i * 4 + 3)) = some (.string q.g) ∧ FcBig q := by
      intro i hi
      obtain ⟨cs', h1, h2⟩ := hx i (by omega)
      rw [show Try.prog.cellsOf 96 = 4 by kernel_rfl] at h1
      obtain ⟨_, hlen, hcell⟩ := World.cells?_some h1
      obtain ⟨xs, k, hk, hxy, _, hxl, hf⟩ := DataW.trod_struct (P := Try.prog) Try.underlying96 h2
      have g0 := hf 0 _ rfl
      have g1 := hf 1 _ rfl
      have g2 := hf 2 _ rfl
      have g3 := hf 3 _ rfl
      rw [show Try.prog.cellsOf _ = 1 by kernel_rfl] at g0 g1 g2 g3
      match xs, hxl, cs', hlen with
      | [y0, y1, y2, y3], _, [v0, v1, v2, v3], _ =>
        simp at g0 g1 g2 g3
        obtain ⟨x0, e0, _, hs0⟩ := DataW.trod_string Try.underlying9 g0
        obtain ⟨x1, e1, _, hs1⟩ := DataW.trod_string Try.underlying9 g1
        obtain ⟨x2, e2, _, hs2⟩ := DataW.trod_string Try.underlying9 g2
        obtain ⟨x3, e3, _, hs3⟩ := DataW.trod_string Try.underlying9 g3
        simp at e0 e1 e2 e3
        subst e0 e1 e2 e3
        have c0 := hcell 0 (by omega)
        have c1 := hcell 1 (by omega)
        have c2 := hcell 2 (by omega)
        have c3 := hcell 3 (by omega)
        rw [Addr.add_add] at c0 c1 c2 c3
        exact ⟨⟨x0, x1, x2, x3⟩, by simpa using c0, by simpa using c1, by simpa using c2, by simpa using c3, ⟨hs0, hs1⟩, hs2, hs3⟩
    have inh : Inhabited Fc := ⟨emF 0⟩
    obtain ⟨q, hq⟩ := choose_lt each
    refine ⟨some a, len, cap, (List.range len).map q, hcs, ?_, by simp, fun f hf => ?_, by omega⟩
    · by_cases h0 : len = 0
      · subst h0; exact Or.inl rfl
      · obtain ⟨b, off, spot⟩ := a
        have hs := spotN_of (a := ⟨b, off, spot⟩) (by simpa using (hq 0 (by omega)).1)
        simp at hs
        subst hs
        refine Or.inr ⟨b, off, rfl, fun i x hx => ?_⟩
        have hi : i < len := by have := (List.getElem?_eq_some_iff.1 hx).1; simpa using this
        rw [List.getElem?_map, List.getElem?_range hi] at hx
        injection hx with hx
        subst hx
        obtain ⟨k0, k1, k2, k3, _⟩ := hq i hi
        rw [addN_eq] at k0 k1 k2 k3
        exact ⟨k0, k1, k2, k3⟩
    · obtain ⟨i, hi, rfl⟩ := List.mem_map.1 hf
      exact (hq i (List.mem_range.1 hi)).2.2.2.2
/-- What the walk is told of facts that came in. -/
def IsFacts (w : World) (v : Value) : Prop := ∃ a n c fs, v = .slice a n c ∧ RdF w a fs ∧ n = fs.length ∧ (∀ f, f ∈ fs → FcBig f) ∧ n ≤ maxLen
set_option maxRecDepth 100000 in
theorem openFacts {r : Reach} {b0 : Nat} {v : Value} {d : DataW H} {p : List MemPlace} (hv : Value.okWide Try.prog W r b0 47 v) (h : DataW.Trod enc Try.prog W 0 (fun _ => true) true 47 v d p) : IsFacts W v := by
  obtain ⟨a0, len, cap, rfl⟩ := okWide_slice Try.underlying47 hv
  obtain ⟨fuel, hf⟩ := h
  obtain ⟨a, n, c, fs, hcs, h1, h2, h3, h4⟩ := facts_of hf
  simp [Value.cells] at hcs
  obtain ⟨rfl, rfl, rfl⟩ := hcs
  exact ⟨_, _, _, fs, rfl, h1, h2, h3, h4⟩
end

set_option maxRecDepth 100000 in
/-- openPath openFacts. -/
theorem meLaw (v0 v1 : Value) (w : World) (h0 : IsPath w v0) (h1 : IsFacts w v1) : Calls Try.prog 7 #[v0, v1] w fun e w' => e = .returned (.bool true) ∧ Below w.heap.size w w' := by
  obtain ⟨a, n, c, I, X, R, rfl, ha, hX, hn⟩ := h0
  obtain ⟨fa, fn, fc, fs, rfl, hf, hfn, hfb, hfm⟩ := h1
  obtain ⟨L, hL⟩ : ∃ L : List ByteArray, ∀ L', Asc L' → (∀ x, x ∈ L' ↔ MnP n I X R fs x) → L' = L := by
    by_cases h : ∃ L : List ByteArray, Asc L ∧ ∀ x, x ∈ L ↔ MnP n I X R fs x
    · obtain ⟨L, h1, h2⟩ := h
      exact ⟨L, fun L' q1 q2 => asc_ext q1 h1 (fun x => (q2 x).trans (h2 x).symm)⟩
    · exact ⟨[], fun L' q1 q2 => absurd ⟨L', q1, q2⟩ h⟩
  refine meLaw0 L a n c I X R fa fn fc fs w ha hX hn hf hfn hfb hfm (fun hn1 hn2 W a fa hR hF => ?_) (fun hn1 hn2 W a fa hR hF => ?_)
  · subst hfn
    refine (specMe a n n I X R fa fs.length fs W hR hF hn1 (Nat.le_refl _) (by omega) hn2).mono ?_
    rintro e w' ⟨a', c', L', rfl, q1, q2, q3, q4, q5, q6, q7⟩
    have e := hL L' q2 q3
    subst e
    exact ⟨a', c', rfl, q1, q4, q7⟩
  · subst hfn
    refine (implMe srt_ok a n n I X R fa fs.length fs W hR hF (fun f hf => ⟨(hfb f hf).1.1, (hfb f hf).2.1⟩) hn1 (Nat.le_refl _) (by omega) hn2).mono ?_
    rintro e w' ⟨q7, v, L', rfl, q2, q3, q1⟩
    have e := hL L' q2 q3
    subst e
    obtain ⟨a', c', rfl, ho, _, _⟩ := ownS_strL q1 rfl
    refine ⟨a', c', rfl, ?_, q7⟩
    rcases ho with h0 | ⟨g, e, hg, hr⟩
    · exact .inl (List.length_eq_zero_iff.1 h0)
    · exact .inr ⟨g, e, hg, hr⟩
end Go.Proofs.Ytocmbnocdjnfpaa
