import Derived.Test.YtfecgececffdoaaIter
import Derived.Test.YtfecgececffdoaaMapW
import Derived.Test.YtfecgececffdoaaLess
import Derived.Sort.Walk0
import Derived.Sort.KeysCollected
namespace Go.Proofs.Ytfecgececffdoaa
open Go.RowKit Go.Deep Go.MapKept Go.Maps
set_option linter.unusedVariables false
set_option maxRecDepth 100000

theorem strList_inj {x y : ByteArray} (h : x.data.toList = y.data.toList) : x = y := by
  obtain ⟨⟨x⟩⟩ := x
  obtain ⟨⟨y⟩⟩ := y
  simp at h
  rw [h]

theorem less_lt {x y : ByteArray} (h : Op.bytesLess x.toList y.toList = true) : x.data.toList < y.data.toList := by
  rw [Go.Proofs.bytesLess_eq, Lib.toList_data, Lib.toList_data] at h
  exact of_decide_eq_true h

theorem encStr_of (x : ByteArray) : encStr x.data.toList = .string x := by simp [encStr]

/-- The texts of a row, as lists of bytes. -/
def txts (X : Nat → ByteArray) (k : Nat) : List (List UInt8) := (List.range k).map fun j => (X j).data.toList

theorem txts_asc {X : Nat → ByteArray} {k : Nat} (h : ∀ i j, i < j → j < k → Op.bytesLess (X i).toList (X j).toList = true) : (txts X k).Pairwise (fun a b => a < b) := by
  unfold txts
  rw [List.pairwise_map]
  refine List.Pairwise.imp_of_mem ?_ (List.pairwise_lt_range (n := k))
  intro a b ha hb hab
  exact less_lt (h a b hab (List.mem_range.1 hb))

theorem txts_mem {X : Nat → ByteArray} {k : Nat} {x : List UInt8} : x ∈ txts X k ↔ ∃ j, j < k ∧ (X j).data.toList = x := by
  unfold txts
  simp

theorem txts_nodup {X : Nat → ByteArray} {k : Nat} (h : ∀ i j, i < k → j < k → X i = X j → i = j) : (txts X k).Nodup := by
  unfold txts
  unfold List.Nodup
  rw [List.pairwise_map]
  refine List.Pairwise.imp_of_mem ?_ (List.pairwise_lt_range (n := k))
  intro a b ha hb hab e
  have := h a b (List.mem_range.1 ha) (List.mem_range.1 hb) (strList_inj e)
  omega

/-- Texts that ascend are the sorted form of the same texts in whatever order. -/
theorem sort_txts {X X' : Nat → ByteArray} {k : Nat} {ss : List (List UInt8)} (hp : ss.Perm (txts X k)) (hX : ∀ i j, i < k → j < k → X i = X j → i = j)
    (hasc : ∀ i j, i < j → j < k → Op.bytesLess (X' i).toList (X' j).toList = true) (hmem : ∀ x, (∃ j, j < k ∧ X j = x) ↔ ∃ j, j < k ∧ X' j = x) : ss.mergeSort leB = txts X' k ∧ ss.length = k := by
  have hlen : ss.length = k := by rw [hp.length_eq]; simp [txts]
  have ha := txts_asc hasc
  have nd' : (txts X' k).Nodup := ha.imp (fun {a b} h e => by subst e; exact List.lt_irrefl _ h)
  have p2 : (txts X k).Perm (txts X' k) := by
    refine (List.perm_ext_iff_of_nodup (txts_nodup hX) nd').2 (fun x => ?_)
    rw [txts_mem, txts_mem]
    constructor
    · rintro ⟨j, hj, rfl⟩
      obtain ⟨i, hi, e⟩ := (hmem (X j)).1 ⟨j, hj, rfl⟩
      exact ⟨i, hi, by rw [e]⟩
    · rintro ⟨j, hj, rfl⟩
      obtain ⟨i, hi, e⟩ := (hmem (X' j)).2 ⟨j, hj, rfl⟩
      exact ⟨i, hi, by rw [e]⟩
  refine ⟨?_, hlen⟩
  have tr : ∀ a b c : List UInt8, leB a b = true → leB b c = true → leB a c = true := fun a b c h1 h2 => by simp only [leB, decide_eq_true_eq] at *; exact List.le_trans h1 h2
  have to : ∀ a b : List UInt8, (leB a b || leB b a) = true := fun a b => by simp only [leB, Bool.or_eq_true, decide_eq_true_eq]; exact List.le_total a b
  refine List.Perm.eq_of_pairwise (le := fun a b => leB a b = true) (fun a b _ _ h1 h2 => ?_) (List.pairwise_mergeSort tr to ss) (ha.imp (fun {a b} h => by simp only [leB, decide_eq_true_eq]; exact List.le_of_lt h)) (((List.mergeSort_perm ss leB).trans hp).trans p2)
  simp only [leB, decide_eq_true_eq] at h1 h2
  exact List.le_antisymm h1 h2

/-- How any element reads, for a map whose keys alone matter. -/
def anyR : Value → Option (DataW Unit × List MemPlace) := fun _ => some (.nil, [])

theorem ownsMap_of {w : World} {b k : Nat} {X : Nat → ByteArray} {V : Nat → Value} (h : MapAt w b k (fun j => .string (X j)) V) (hs : ∀ j, j < k → (X j).size ≤ maxLen) (hk : k ≤ 1048576) :
    ∃ D, w.ownsMap Try.prog 9 anyR b k D ∧ (strKeys D).Perm (txts X k) := by
  obtain ⟨es, clock, hb, hst, hsz, he⟩ := h
  have hu : Try.prog.underlying 9 = some .string := by kernel_rfl
  have hrd : ∀ (i : Nat) e, es.toList[i]? = some e → i < k ∧ WideElems.rd (H := Unit) Try.prog 9 anyR e = some (.string (X i).data.toList, .nil) := by
    intro i e h1
    have h1' : es[i]? = some e := by simpa using h1
    have hi := (Array.getElem?_eq_some_iff.1 h1').1
    obtain ⟨e', q1, q2, _⟩ := he i (by omega)
    rw [h1'] at q1
    cases q1
    refine ⟨by omega, ?_⟩
    unfold WideElems.rd
    rw [q2, Go.WideMaps.keyOf_string_mk hu (hs i (by omega))]
    rfl
  refine ⟨_, ⟨es, clock, hb, ⟨by rw [hsz]; unfold maxLen; omega, hst, fun x hx => ?_⟩, by omega, rfl⟩, ?_⟩
  · obtain ⟨i, hi, e⟩ := List.getElem_of_mem hx
    exact ⟨_, (hrd i x (by rw [List.getElem?_eq_getElem hi, e])).2⟩
  · show (List.map (fun (p : Lit × DataW Unit) => strOf p.1) _).Perm _
    refine ((WideShapes.sorted_perm _).map _).trans ?_
    have e : (es.toList.map (WideElems.rg Try.prog 9 anyR)).map (fun p => strOf p.1) = txts X k := by
      apply List.ext_getElem?
      intro i
      rw [List.getElem?_map, List.getElem?_map]
      by_cases hi : i < k
      · have hi' : i < es.toList.length := by simp; omega
        rw [List.getElem?_eq_getElem hi']
        have := (hrd i _ (List.getElem?_eq_getElem hi')).2
        have e1 : WideElems.rg Try.prog 9 anyR es.toList[i] = (.string (X i).data.toList, .nil) := by unfold WideElems.rg; rw [this]; rfl
        rw [Option.map_some, e1]
        simp [strOf, txts, hi]
      · rw [List.getElem?_eq_none (by simp; omega)]
        have : txts X k = txts X k := rfl
        rw [List.getElem?_eq_none (by simp [txts]; omega)]
        rfl
    rw [e]

set_option maxHeartbeats 1000000 in
/-- slices.Sorted(maps.Keys(m)): the map's texts in their order. -/
theorem sortedKeys_at (b k : Nat) (X X' : Nat → ByteArray) (V : Nat → Value) (w : World) (hm : MapAt w b k (fun j => .string (X j)) V) (hs : ∀ j, j < k → (X j).size ≤ maxLen) (hk : k ≤ 1048576) (hX : ∀ i j, i < k → j < k → X i = X j → i = j)
    (hasc : ∀ i j, i < j → j < k → Op.bytesLess (X' i).toList (X' j).toList = true) (hmem : ∀ x, (∃ j, j < k ∧ X j = x) ↔ ∃ j, j < k ∧ X' j = x) :
    Calls Try.prog 50 #[.func (.func 58) #[] #[.pointer (some ⟨w.heap.size, 0, none⟩)]] (w.alloc (.cells #[.map (some b)] 67)) fun e w' =>
      ∃ v, e = .returned v ∧ w'.ownsRow (w.heap.size + 1) 9 1 v k ((List.range k).map fun j => .string (X' j)) ∧ Below (w.heap.size + 1) (w.alloc (.cells #[.map (some b)] 67)) w' := by
  obtain ⟨D, hown, hkeys⟩ := ownsMap_of hm hs hk
  have hle := hown.size_le
  refine (sorted_Mstring_pTerm_string_pTerm b k D anyR w hown (by unfold maxLen; omega) (by omega)).mono ?_
  rintro e w' ⟨v, ss, rfl, hp, hrow, hnil, hb⟩
  rw [World.size_alloc] at hrow hb
  obtain ⟨hsort, hlen⟩ := sort_txts (hp.trans hkeys) hX hasc hmem
  rw [hlen] at hrow
  have e2 : (ss.mergeSort (fun x y => decide (x ≤ y))).map encStr = (List.range k).map fun j => .string (X' j) := by
    rw [show (ss.mergeSort (fun x y => decide (x ≤ y))) = txts X' k from hsort]
    unfold txts
    rw [List.map_map]
    exact List.map_congr_left (fun j _ => encStr_of (X' j))
  rw [e2] at hrow
  exact ⟨v, rfl, hrow, hb⟩
end Go.Proofs.Ytfecgececffdoaa
