import Derived.Test.YthcclkeeekppmaaIter
import Derived.Test.YthcclkeeekppmaaNp13
import Derived.Sort.Walk0
import Derived.Sort.KeysCollected
namespace Go.Proofs.Ythcclkeeekppmaa
open Go.RowKit Go.Deep Go.MapKept Go.Maps
set_option linter.unusedVariables false
set_option maxRecDepth 100000
set_option linter.unusedSimpArgs false

theorem lt_less {x y : ByteArray} (h : x.data.toList < y.data.toList) : Op.bytesLess x.toList y.toList = true := by
  rw [Go.Proofs.bytesLess_eq, Lib.toList_data, Lib.toList_data]
  exact decide_eq_true h
/-- The keys of a set, as lists of bytes. -/
theorem keys_set {w : World} {B N : Nat} {D : DataW Unit} (hown : w.ownsMap Try.prog 9 unitElem B N D) : (strKeys D).Nodup ∧ ∀ x : ByteArray, x.data.toList ∈ strKeys D ↔ Maps.has D (kS x) = true := by
  obtain ⟨es, clock, hb, F, hs, hD⟩ := hown
  have hall : ∀ p, p ∈ es.toList.map (WideElems.rg (H := Unit) Try.prog 9 unitElem) → ∃ z : ByteArray, p.1 = kS z := fun p hp => by
    obtain ⟨x, hx, rfl⟩ := List.mem_map.1 hp
    obtain ⟨y, hy⟩ := F.reads x hx
    have hkey := WideElems.rd_key hy
    obtain ⟨z, hz⟩ := key_inv hkey
    rw [hz] at hkey
    exact ⟨z, by rw [WideElems.rg_of hy, (key_str hkey).1]⟩
  have hperm : (strKeys D).Perm ((es.toList.map (WideElems.rg (H := Unit) Try.prog 9 unitElem)).map (fun p => strOf p.1)) := by
    rw [hD]
    show (List.map (fun (p : Lit × DataW Unit) => strOf p.1) _).Perm _
    exact (WideShapes.sorted_perm _).map _
  have hap := fit_apart strK F
  refine ⟨hperm.nodup_iff.2 ?_, fun x => ?_⟩
  · unfold List.Nodup
    rw [List.pairwise_map]
    refine List.Pairwise.imp_of_mem ?_ hap
    intro p q hp hq hne e
    obtain ⟨z1, e1⟩ := hall p hp
    obtain ⟨z2, e2⟩ := hall q hq
    rw [e1, e2] at e hne
    have e' : z1.data.toList = z2.data.toList := e
    exact hne (by unfold kS; rw [e'])
  · rw [hperm.mem_iff, List.mem_map, hD, Maps.has_eq, List.any_eq_true]
    constructor
    · rintro ⟨p, hp, e⟩
      obtain ⟨z, ez⟩ := hall p hp
      refine ⟨p, ((WideShapes.sorted_perm _).mem_iff).2 hp, ?_⟩
      rw [ez] at e ⊢
      have e' : z.data.toList = x.data.toList := e
      rw [kS_same]
      exact kS_inj (by unfold kS; rw [e'])
    · rintro ⟨p, hp, e⟩
      have hp2 := ((WideShapes.sorted_perm _).mem_iff).1 hp
      obtain ⟨z, ez⟩ := hall p hp2
      rw [ez, kS_same] at e
      refine ⟨p, hp2, ?_⟩
      rw [ez, e]
      rfl
/-- slices.Sorted(maps.Keys(s)) at a set. -/
theorem srt_ok : SrtOk := by
  intro B fs P w hs hl w0 hb0
  obtain ⟨⟨D, hown, hP⟩, hU⟩ := hs
  have hle := hown.size_le
  obtain ⟨hnd, hmem⟩ := keys_set hown
  refine (mkeys_set_string__string_struct (some B) w).mono ?_
  rintro e w1 ⟨rfl, rfl⟩
  refine ⟨_, rfl, below_alloc _ _, ?_⟩
  refine (sorted_set_string__string_struct B 600 D unitElem w hown (by unfold maxLen; omega) (by omega)).mono ?_
  rintro e w' ⟨v, ss, rfl, hp, hrow, _, hb⟩
  have tr : ∀ a b c : List UInt8, (fun x y : List UInt8 => decide (x ≤ y)) a b = true → (fun x y : List UInt8 => decide (x ≤ y)) b c = true → (fun x y : List UInt8 => decide (x ≤ y)) a c = true := fun a b c h1 h2 => by simp only [decide_eq_true_eq] at *; exact List.le_trans h1 h2
  have tot : ∀ a b : List UInt8, ((fun x y : List UInt8 => decide (x ≤ y)) a b || (fun x y : List UInt8 => decide (x ≤ y)) b a) = true := fun a b => by simp only [Bool.or_eq_true, decide_eq_true_eq]; exact List.le_total a b
  have hsp := List.pairwise_mergeSort tr tot ss
  have hpm := List.mergeSort_perm ss (fun x y : List UInt8 => decide (x ≤ y))
  have hnds : (ss.mergeSort (fun x y : List UInt8 => decide (x ≤ y))).Nodup := hpm.nodup_iff.2 (hp.nodup_iff.2 hnd)
  obtain ⟨M, hM⟩ : ∃ M, M = ss.mergeSort (fun x y : List UInt8 => decide (x ≤ y)) := ⟨_, rfl⟩
  rw [← hM] at hsp hpm hnds hrow
  have hlen : ss.length = M.length := hpm.length_eq.symm
  have hmk : ∀ l : List UInt8, (ByteArray.mk l.toArray).data.toList = l := fun l => by simp
  refine ⟨v, M.map (fun l => ByteArray.mk l.toArray), rfl, ?_, fun x => ?_, ?_, ?_⟩
  · show List.Pairwise _ _
    rw [List.pairwise_map]
    refine (hsp.and hnds).imp ?_
    rintro a b ⟨h1, h2⟩
    refine lt_less ?_
    rw [hmk, hmk]
    simp only [decide_eq_true_eq] at h1
    by_cases q : a < b
    · exact q
    · exact absurd (List.le_antisymm h1 (List.not_lt.1 q)) h2
  · rw [← hP, ← hmem, ← hp.mem_iff, ← hpm.mem_iff, List.mem_map]
    constructor
    · rintro ⟨l, hl1, rfl⟩
      rw [hmk]
      exact hl1
    · intro q
      exact ⟨_, q, by cases x; simp⟩
  · rw [List.length_map, ← hlen]
    have e2 : strL (M.map (fun l => ByteArray.mk l.toArray)) = M.map encStr := by
      unfold strL
      rw [List.map_map]
      exact List.map_congr_left (fun l _ => by simp [encStr])
    rw [e2]
    obtain ⟨q1, q2⟩ := hrow
    refine ⟨q1, q2.imp id ?_⟩
    rintro ⟨g0, cap, cur, e1, e2, e3⟩
    exact ⟨g0, cap, cur, e1, by simp at e2; omega, e3⟩
  · have hbb : Below w.heap.size w w' := (below_alloc _ _).trans (hb.mono (by simp))
    exact hb0.trans (hbb.mono hb0.size)
end Go.Proofs.Ythcclkeeekppmaa
