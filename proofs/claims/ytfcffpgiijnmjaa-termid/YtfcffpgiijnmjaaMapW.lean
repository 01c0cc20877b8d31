import Derived.Test.YtfcffpgiijnmjaaRows
import Derived.Test.YtfcffpgiijnmjaaOwn
import Derived.WalkKit
import Derived.Maps.Own
import Derived.Handy
namespace Go.Proofs.Ytfcffpgiijnmjaa
open Go.RowKit Go.Deep Go.MapKept Go.ChangeMaps
set_option linter.unusedVariables false
set_option maxRecDepth 100000

/-- Block B is a map of k entries, with keys K and values V, in the order in which they came. -/
def MapAt (w : World) (B k : Nat) (K V : Nat → Value) : Prop :=
  ∃ es clock, w.heap[B]? = some (.map es clock) ∧ Stamped es clock ∧ es.size = k ∧ ∀ i, i < k → ∃ e, es[i]? = some e ∧ e.key = K i ∧ e.val = V i

theorem MapAt.lt {w : World} {B k : Nat} {K V : Nat → Value} (h : MapAt w B k K V) : B < w.heap.size := by
  obtain ⟨es, clock, hb, _⟩ := h
  exact (Array.getElem?_eq_some_iff.1 hb).1

theorem MapAt.kept {w w' : World} {B k : Nat} {K V : Nat → Value} (h : MapAt w B k K V) (hb : w'.heap[B]? = w.heap[B]?) : MapAt w' B k K V := by
  obtain ⟨es, clock, h1, h2⟩ := h
  exact ⟨es, clock, hb.trans h1, h2⟩

theorem MapAt.ne_cells {w : World} {B k b : Nat} {K V : Nat → Value} {cs : Array Value} {t : TypeId} {fr : Nat × Nat} (h : MapAt w B k K V) (hc : w.heap[b]? = some (.cells cs t fr)) : b ≠ B := by
  obtain ⟨es, clock, h1, _⟩ := h
  rintro rfl
  rw [h1] at hc
  cases hc

theorem mapAt_new (w : World) (K V : Nat → Value) : MapAt (w.alloc (.map #[] 0)) w.heap.size 0 K V :=
  ⟨#[], 0, blk_alloc_new _ _, stamped_empty 0, rfl, fun i hi => absurd hi (Nat.not_lt_zero _)⟩

section
variable {w : World} {B k : Nat} {K V : Nat → Value} {t kt et : TypeId} {d : TypeDesc} {key : Value}

theorem MapAt.look_none (h : MapAt w B k K V) (ht : Try.prog.underlying t = some (.map kt et)) (hd : Try.prog.underlying kt = some d) (hk : IsKey d key) (hK : ∀ i, i < k → IsKey d (K i)) (hne : ∀ i, i < k → K i ≠ key) {z : Value} (hz : (zeroValue et).run Try.prog w = .ok z w) :
    (Instr.lookup t (.map (some B)) key false).run Try.prog w = .ok z w := by
  obtain ⟨es, clock, hb, hst, hs, he⟩ := h
  have hall : ∀ x ∈ es.toList, IsKey d x.key ∧ x.key ≠ key := by
    intro x hx
    obtain ⟨i, hi, e⟩ := List.getElem_of_mem hx
    simp at hi
    obtain ⟨e', h1, h2, _⟩ := he i (by omega)
    have : es[i]? = some x := by rw [Array.getElem?_eq_getElem hi]; simpa using e
    rw [this] at h1
    cases h1
    rw [h2]
    exact ⟨hK i (by omega), hne i (by omega)⟩
  rcases findNow_spec hk es.toList 0 (fun x hx => (hall x hx).1) with ⟨h1, _⟩ | ⟨j, e, _, h2, h3⟩
  · simp [Instr.lookup, run_underlying ht, MapKept.run_getObj_map hb, run_checkKey hd hk, run_findKey hd h1, hz, Result.andThen]
  · exact absurd h3 (hall e (List.mem_of_getElem? h2)).2

theorem MapAt.look_some (h : MapAt w B k K V) (ht : Try.prog.underlying t = some (.map kt et)) (hd : Try.prog.underlying kt = some d) (hk : IsKey d key) (hK : ∀ i, i < k → IsKey d (K i)) {i : Nat} (hi : i < k) (hi2 : K i = key) (hun : ∀ j, j < k → K j = key → V j = V i) :
    (Instr.lookup t (.map (some B)) key false).run Try.prog w = .ok (V i) w := by
  obtain ⟨es, clock, hb, hst, hs, he⟩ := h
  have hall : ∀ (j : Nat) x, es.toList[j]? = some x → j < k ∧ x.key = K j ∧ x.val = V j := by
    intro j x hx
    have hx' : es[j]? = some x := by simpa using hx
    have hj := (Array.getElem?_eq_some_iff.1 hx').1
    obtain ⟨e', h1, h2, h3⟩ := he j (by omega)
    rw [hx'] at h1
    cases h1
    exact ⟨by omega, h2, h3⟩
  rcases findNow_spec hk es.toList 0 (fun x hx => by
      obtain ⟨j, hj, e⟩ := List.getElem_of_mem hx
      have q := hall j x (by rw [List.getElem?_eq_getElem hj, e])
      rw [q.2.1]
      exact hK j q.1) with ⟨_, h1⟩ | ⟨j, e, h1, h2, h3⟩
  · obtain ⟨e', h4, h5, _⟩ := he i hi
    exact absurd (h5.trans hi2) (h1 e' (List.mem_of_getElem? (by simpa using h4)))
  · obtain ⟨q1, q2, q3⟩ := hall j e h2
    have hv : e.val = V i := q3.trans (hun j q1 (q2.symm.trans h3))
    simp [Instr.lookup, run_underlying ht, MapKept.run_getObj_map hb, run_checkKey hd hk, run_findKey hd h1, Result.andThen, hv]

theorem MapAt.store_new (h : MapAt w B k K V) (ht : Try.prog.underlying t = some (.map kt et)) (hd : Try.prog.underlying kt = some d) (hk : IsKey d key) (hK : ∀ i, i < k → IsKey d (K i)) (hne : ∀ i, i < k → K i ≠ key) (val : Value) :
    ∃ w', (Instr.mapUpdate t (.map (some B)) key val).run Try.prog w = .ok () w' ∧ MapAt w' B (k + 1) (fun i => if i = k then key else K i) (fun i => if i = k then val else V i) ∧ w.grownBy w' (some B) := by
  obtain ⟨es, clock, hb, hst, hs, he⟩ := h
  have hall : ∀ x ∈ es.toList, IsKey d x.key ∧ x.key ≠ key := by
    intro x hx
    obtain ⟨i, hi, e⟩ := List.getElem_of_mem hx
    simp at hi
    obtain ⟨e', h1, h2, _⟩ := he i (by omega)
    have : es[i]? = some x := by rw [Array.getElem?_eq_getElem hi]; simpa using e
    rw [this] at h1
    cases h1
    rw [h2]
    exact ⟨hK i (by omega), hne i (by omega)⟩
  rcases findNow_spec hk es.toList 0 (fun x hx => (hall x hx).1) with ⟨h1, _⟩ | ⟨j, e, _, h2, h3⟩
  · refine ⟨setBlock w B (.map (es.push { key := key, val := val, born := clock }) (clock + 1)), ?_, ⟨_, _, heap_setBlock_same hb _, stamped_push hst (fun x hx => (hall x hx).2), by simp [hs], fun i hi => ?_⟩, ⟨rfl, rfl, rfl, by simp [setBlock], fun i _ hi => heap_setBlock_other hb _ (fun e => hi (by rw [e]))⟩⟩
    · simp [Instr.mapUpdate, run_underlying ht, MapKept.run_getObj_map hb, run_checkKey hd hk, run_findKey hd h1, MapKept.run_setObj_map _ hb, Result.andThen, setBlock]
    · by_cases e : i = k
      · subst e
        refine ⟨{ key := key, val := val, born := clock }, ?_, by simp, by simp⟩
        rw [← hs]
        simp
      · obtain ⟨e', q1, q2, q3⟩ := he i (by omega)
        refine ⟨e', ?_, by simp [e, q2], by simp [e, q3]⟩
        rw [Array.getElem?_push]
        rw [if_neg (by omega)]
        exact q1
  · exact absurd h3 (hall e (List.mem_of_getElem? h2)).2
/-- 'delete(m, k)' of a key that is there. -/
theorem MapAt.drop (h : MapAt w B k K V) (ht : Try.prog.underlying t = some (.map kt et)) (hd : Try.prog.underlying kt = some d) (hk : IsKey d key) (hK : ∀ i, i < k → IsKey d (K i)) {i : Nat} (hi : i < k) (hi2 : K i = key) (ty : TypeId) :
    ∃ w', (Builtin.delete_ #[t, kt] ty #[.map (some B), key]).run Try.prog w = .ok (.tuple #[]) w' ∧ MapAt w' B (k - 1) (fun j => if j < i then K j else K (j + 1)) (fun j => if j < i then V j else V (j + 1)) ∧ w.grownBy w' (some B) := by
  obtain ⟨es, clock, hb, hst, hs, he⟩ := h
  have hall : ∀ (j : Nat) x, es.toList[j]? = some x → j < k ∧ x.key = K j ∧ x.val = V j := by
    intro j x hx
    have hx' : es[j]? = some x := by simpa using hx
    have hj := (Array.getElem?_eq_some_iff.1 hx').1
    obtain ⟨e', h1, h2, h3⟩ := he j (by omega)
    rw [hx'] at h1
    cases h1
    exact ⟨by omega, h2, h3⟩
  rcases findNow_spec hk es.toList 0 (fun x hx => by
      obtain ⟨j, hj, e⟩ := List.getElem_of_mem hx
      have q := hall j x (by rw [List.getElem?_eq_getElem hj, e])
      rw [q.2.1]
      exact hK j q.1) with ⟨_, h1⟩ | ⟨j, e, h1, h2, h3⟩
  · obtain ⟨e', h4, h5, _⟩ := he i hi
    exact absurd (h5.trans hi2) (h1 e' (List.mem_of_getElem? (by simpa using h4)))
  · obtain ⟨q1, q2, q3⟩ := hall j e h2
    obtain ⟨e', p1, p2, _⟩ := he i hi
    have hji : j = i := by
      have hnd := hst.2.2
      have hjl := (List.getElem?_eq_some_iff.1 h2).1
      have hil : i < es.toList.length := by simp; omega
      have a1 : (es.toList.map (·.key))[j]? = some key := by rw [List.getElem?_map, h2]; simp [h3]
      have a2 : (es.toList.map (·.key))[i]? = some key := by
        have : es.toList[i]? = some e' := by simpa using p1
        rw [List.getElem?_map, this]; simp [p2, hi2]
      exact (List.getElem?_inj (by simpa using hjl) hnd).1 (a1.trans a2.symm)
    subst hji
    have hjs : j < es.size := by omega
    have hsub : (es.eraseIdxIfInBounds j).toList = es.toList.eraseIdx j := by
      unfold Array.eraseIdxIfInBounds
      rw [dif_pos hjs]
      simp
    have hsz : (es.eraseIdxIfInBounds j).size = k - 1 := by
      rw [← Array.length_toList, hsub, List.length_eraseIdx, if_pos (by simpa using hjs), Array.length_toList, hs]
    refine ⟨setBlock w B (.map (es.eraseIdxIfInBounds j) clock), ?_, ⟨_, _, heap_setBlock_same hb _, stamped_erase hst j, hsz, fun m hm => ?_⟩, ⟨rfl, rfl, rfl, by simp [setBlock], fun i _ hi => heap_setBlock_other hb _ (fun e => hi (by rw [e]))⟩⟩
    · have h1' : Instr.findNow d key es.toList 0 = some (some (j, e.val)) := by rw [h1, Nat.zero_add]
      simp [Builtin.delete_, run_underlying ht, MapKept.run_getObj_map hb, run_checkKey hd hk, run_findKey hd h1', MapKept.run_setObj_map _ hb, Result.andThen, setBlock]
    · have hget : (es.eraseIdxIfInBounds j)[m]? = if m < j then es[m]? else es[m + 1]? := by
        rw [← Array.getElem?_toList, hsub, List.getElem?_eraseIdx, Array.getElem?_toList, Array.getElem?_toList]
      by_cases hmj : m < j
      · obtain ⟨e1, r1, r2, r3⟩ := he m (by omega)
        exact ⟨e1, by rw [hget, if_pos hmj]; exact r1, by simp [hmj, r2], by simp [hmj, r3]⟩
      · obtain ⟨e1, r1, r2, r3⟩ := he (m + 1) (by omega)
        exact ⟨e1, by rw [hget, if_neg hmj]; exact r1, by simp [hmj, r2], by simp [hmj, r3]⟩

/-- 'len(m)'. -/
theorem MapAt.len (h : MapAt w B k K V) (ht : Try.prog.underlying t = some (.map kt et)) (ty : TypeId) : (Builtin.len_ #[t] ty #[.map (some B)]).run Try.prog w = .ok (.int .i64 k) w := by
  obtain ⟨es, clock, hb, hst, hs, he⟩ := h
  simp [Builtin.len_, run_underlying ht, MapKept.run_getObj_map hb, Result.andThen, hs, goInt]
end

/-- 'm[k] = v' with a key that is new, at the operation. -/
theorem wpList_store_new {w : World} {ops : Array Oper} {rest : List Oper} {o : Oper} {a : Act} {Q : Exit → Act → World → Prop} {B k : Nat} {K V : Nat → Value} {t kt et : TypeId} {d : TypeDesc} {key val : Value}
    (h : MapAt w B k K V) (hg : o.guard = none) (m x v : Operand) (hop : o.op = Op.mapUpdate t m x v) (hm : a.eval m = .map (some B)) (hx : a.eval x = key) (hv : a.eval v = val)
    (ht : Try.prog.underlying t = some (.map kt et)) (hd : Try.prog.underlying kt = some d) (hk : IsKey d key) (hK : ∀ i, i < k → IsKey d (K i)) (hne : ∀ i, i < k → K i ≠ key)
    (hQ : ∀ w', MapAt w' B (k + 1) (fun i => if i = k then key else K i) (fun i => if i = k then val else V i) → w.grownBy w' (some B) → wpList Try.prog ops Q rest (a.put o.dst undef) w') : wpList Try.prog ops Q (o :: rest) a w := by
  refine wpList_plain hg fun K' hK' => ?_
  obtain ⟨w', hrun, r1, r2⟩ := h.store_new ht hd hk hK hne val
  unfold Oper.wp
  simp [execOp, hop, hm, hx, hv, hrun, Result.andThen]
  exact hK' _ _ (hQ w' r1 r2)
end Go.Proofs.Ytfcffpgiijnmjaa
