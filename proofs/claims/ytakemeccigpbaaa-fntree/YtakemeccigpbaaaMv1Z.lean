import Derived.Test.YtakemeccigpbaaaInsL
import Derived.Test.YtakemeccigpbaaaTkMZ
import Derived.Test.YtakemeccigpbaaaTiPZ
import Derived.Test.YtakemeccigpbaaaTrGZ
import Derived.Test.YtakemeccigpbaaaMu1Z
import Derived.Test.YtakemeccigpbaaaTkIZ
import Derived.Test.YtakemeccigpbaaaTiLZ
import Derived.Test.YtakemeccigpbaaaTiIZ
import Derived.Lib.AppendZerosOnto
import Derived.Laws.NewBlocks
import Derived.Shelf.Spec.SlicesInsert
import Derived.Test.YtakemeccigpbaaaTsTZ
import Derived.Test.YtakemeccigpbaaaTiNZ
namespace Go.Proofs.Ytakemeccigpbaaa
open Go.RowKit Go.Deep
set_option linter.unusedVariables false
set_option maxRecDepth 100000

theorem row_sets {g : Nat} {t : TypeId} : ∀ (vs : List Value) (o : Nat) (w : World) (cur : Array Value), w.heap[g]? = some (.cells cur t (0, 0)) → o + vs.length ≤ cur.size → ∃ cur' : Array Value, (w.setCells g o vs).heap[g]? = some (.cells cur' t (0, 0)) ∧ cur'.size = cur.size ∧ ∀ j, cur'[j]? = if o ≤ j ∧ j < o + vs.length then vs[j - o]? else cur[j]?
  | [], o, w, cur, h, hl => ⟨cur, h, rfl, fun j => by rw [if_neg (by simp)]⟩
  | v :: r, o, w, cur, h, hl => by
    rw [List.length_cons] at hl
    have h1 : (w.setCell ⟨g, o, none⟩ v).heap[g]? = some (.cells (cur.setIfInBounds o v) t (0, 0)) := by
      simp [World.setCell, Array.getElem?_modify, h]
    obtain ⟨cur', e1, e2, e3⟩ := row_sets r (o + 1) (w.setCell ⟨g, o, none⟩ v) (cur.setIfInBounds o v) h1 (by simp; omega)
    refine ⟨cur', e1, by rw [e2]; simp, fun j => ?_⟩
    rw [e3 j, List.length_cons]
    by_cases q : o + 1 ≤ j ∧ j < o + 1 + r.length
    · rw [if_pos q, if_pos (by omega), show j - o = (j - (o + 1)) + 1 by omega, List.getElem?_cons_succ]
    · rw [if_neg q, Array.getElem?_setIfInBounds]
      by_cases e : o = j
      · subst e
        rw [if_pos rfl, if_pos (by omega), if_pos (by omega)]
        simp
      · rw [if_neg e, if_neg (by omega)]

theorem grown_sets (g : Nat) : ∀ (vs : List Value) (o : Nat) (w : World), w.grownBy (w.setCells g o vs) (some g)
  | [], o, w => grown_refl _ _
  | v :: r, o, w => grown_trans (grown_set _ _ _ _) (grown_sets g r (o + 1) _)
theorem grown_drew (w : World) (r : Option Nat) : w.grownBy w.drew r := grown_below (Below.refl _ _).drew

/-- What slices.Insert hands back: the row in its place, grown, or a new one. -/
def RetIns (B : Nat) (w0 w : World) (a : Option Addr) (L : List ByteArray) (e : Ending) (w' : World) : Prop :=
  ∃ a' c', e = .returned (.slice a' L.length c') ∧ w'.ownsRow B 9 1 (.slice a' L.length c') L.length (strL L) ∧ w.grownBy w' (a.map (·.block)) ∧ (a' = a ∨ ∃ g, a' = some ⟨g, 0, none⟩ ∧ w0.heap.size < g)

theorem strL_one (L : List ByteArray) : ∀ v ∈ strL L, v.oneCell' = true := by
  intro v hv
  unfold strL at hv
  obtain ⟨x, _, rfl⟩ := List.mem_map.1 hv
  rfl
theorem strL_take (L : List ByteArray) (i : Nat) : (strL L).take i = strL (L.take i) := by simp [strL]
theorem strL_drop (L : List ByteArray) (i : Nat) : (strL L).drop i = strL (L.drop i) := by simp [strL]

/-- Of a row of strings: the cells of the whole row. -/
theorem row_of (w : World) (g c n : Nat) (cur : Array Value) (L : List ByteArray) (hg : w.heap[g]? = some (.cells cur 9 (0, 0))) (hs : cur.size = c) (hn : n = L.length) (hnc : n ≤ c) (hc : ∀ j, j < n → cur[j]? = some (.string (gt L j))) : cur.toList.take n = strL L := by
  apply List.ext_getElem?
  intro j
  rw [List.getElem?_take]
  by_cases h : j < n
  · rw [if_pos h, Array.getElem?_toList, hc j h, strL_get L j (by omega)]
  · rw [if_neg h]
    symm
    rw [List.getElem?_eq_none_iff, strL_length]
    omega

theorem gt_ins (L : List ByteArray) (key : ByteArray) (i : Nat) (hi : i ≤ L.length) (j : Nat) (hj : j < L.length + 1) : gt (L.take i ++ key :: L.drop i) j = if j < i then gt L j else if j = i then key else gt L (j - 1) := by
  unfold gt
  rw [List.getD_eq_getElem?_getD]
  have hl : (L.take i).length = i := by rw [List.length_take]; omega
  by_cases h1 : j < i
  · rw [if_pos h1, List.getElem?_append_left (by omega), List.getElem?_take, if_pos h1, List.getD_eq_getElem?_getD]
  · rw [if_neg h1, List.getElem?_append_right (by omega), hl]
    by_cases h2 : j = i
    · subst h2; simp
    · rw [if_neg h2, show j - i = (j - i - 1) + 1 by omega, List.getElem?_cons_succ, List.getElem?_drop, List.getD_eq_getElem?_getD, show i + (j - i - 1) = j - 1 by omega]

/-- A row that is there: handed back as it ought to be. -/
theorem retIns_of {B n cap g : Nat} {w0 W w' : World} {a : Option Addr} {L' : List ByteArray} {cur : Array Value} (hl : L'.length = n + 1) (hg : w'.heap[g]? = some (.cells cur 9 (0, 0))) (hs : cur.size = cap) (hn : n + 1 ≤ cap) (hm : cap ≤ maxLen) (hB : B ≤ g) (hc : ∀ j, j < n + 1 → cur[j]? = some (.string (gt L' j))) (hgr : W.grownBy w' (a.map (·.block))) (ha : some ⟨g, 0, none⟩ = a ∨ w0.heap.size < g) :
    RetIns B w0 W a L' (.returned (.slice (some ⟨g, 0, none⟩) (n + 1) cap)) w' := by
  unfold RetIns
  rw [hl]
  refine ⟨_, _, rfl, ⟨by rw [strL_length, hl]; omega, .inr ⟨g, cap, cur, rfl, hB, hg, hn, hm, by omega, ?_⟩⟩, hgr, ?_⟩
  · rw [Nat.mul_one]
    exact row_of w' g cap (n + 1) cur L' hg hs hl.symm hn hc
  · rcases ha with h | h
    · exact .inl h
    · exact .inr ⟨g, rfl, h⟩

set_option maxHeartbeats 2000000 in
theorem insS_any (B n c i : Nat) (a : Option Addr) (L : List ByteArray) (key : ByteArray) (w : World) (h : w.ownsRow B 9 1 (.slice a n c) n (strL L)) (hn : n = L.length) (hi : i ≤ n) (hB : B ≤ w.heap.size) (hn2 : n ≤ 1048576) :
    Calls Try.prog 113 #[.slice a n c, .int .i64 (i : Int), .slice (some ⟨w.heap.size, 0, none⟩) 1 1] (w.alloc (.cells #[.string key] 9)) (RetIns B w (w.alloc (.cells #[.string key] 9)) a (L.take i ++ key :: L.drop i)) := by
  have hlen : (L.take i ++ key :: L.drop i).length = n + 1 := by
    rw [List.length_append, List.length_cons, List.length_take, List.length_drop]
    omega
  have hgt : ∀ j, j < n + 1 → gt (L.take i ++ key :: L.drop i) j = if j < i then gt L j else if j = i then key else gt L (j - 1) := fun j hj => gt_ins L key i (by omega) j (by omega)
  have h1 : (w.alloc (.cells #[.string key] 9)).ownsRow B 9 1 (.slice a n c) n (strL L) := h.alloc _
  have hv : ∀ j v, [Value.string key][j]? = some v → (w.alloc (.cells #[.string key] 9)).cell? ⟨w.heap.size, 0 + j, none⟩ = some v := fun j v hj => by
    have e : j = 0 := by
      rcases j with _ | j
      · rfl
      · simp at hj
    subst e
    simpa using hj
  have hsz : (w.alloc (.cells #[.string key] 9)).heap.size = w.heap.size + 1 := by simp
  have hz0 : (w.alloc (.cells #[.string key] 9)).heap[w.heap.size]? = some (.cells #[.string key] 9 (0, 0)) := heap_alloc_new w _
  have hgl : ∀ g, a = some ⟨g, 0, none⟩ → g < w.heap.size := fun g e => (own_lt h g (by rw [e]; rfl)).2
  obtain ⟨W, hWe⟩ : ∃ W, W = w.alloc (.cells #[.string key] 9) := ⟨_, rfl⟩
  rw [← hWe] at h1 hv hsz hz0 ⊢
  generalize hL' : L.take i ++ key :: L.drop i = L' at hlen hgt ⊢
  have hsl : (strL L).length = n := by rw [strL_length]; exact hn.symm
  have hone1 : ∀ v ∈ [Value.string key], v.oneCell' = true := by intro v hv; simp at hv; subst hv; rfl
  have hmx : ∀ old, grownCap W (n + 1) old 9 ≤ maxLen := fun old => grownCap_le_maxLen W (n + 1) old 9 (by unfold maxLen; omega)
  have hge : ∀ old, n + 1 ≤ grownCap W (n + 1) old 9 := fun old => grownCap_ge W (n + 1) old 9
  have hnew : ∀ (O : Obj) (r : Option Nat), W.grownBy (W.drew.alloc O) r := fun O r => ⟨rfl, rfl, rfl, by simp, fun k hk _ => (below_alloc W.drew O).block k hk⟩
  -- the row at the end, where there is no room
  have hend : ∀ old : Nat, i = n → ∃ cur : Array Value, (W.drew.alloc (.cells ((strL L ++ [Value.string key]).toArray ++ Builtin.zeroCells (Value.string ⟨#[]⟩).cells (grownCap W (n + 1) old 9 - (n + 1))) 9)).heap[W.heap.size]? = some (.cells cur 9 (0, 0)) ∧ cur.size = grownCap W (n + 1) old 9 ∧ ∀ j, j < n + 1 → cur[j]? = some (.string (gt L' j)) := by
    intro old hin
    refine ⟨_, heap_alloc_new W.drew _, ?_, fun j hj => ?_⟩
    · have q := hge old
      rw [Array.size_append, size_zeroCells, List.size_toArray, List.length_append, hsl]
      simp [Value.cells]
      omega
    · rw [Array.getElem?_append_left (by rw [List.size_toArray, List.length_append, hsl]; simp; omega), List.getElem?_toArray, hgt j hj]
      by_cases e : j < n
      · rw [if_pos (by omega), List.getElem?_append_left (by omega), strL_get L j (by omega)]
      · have e2 : j = n := by omega
        rw [if_neg (by omega), if_pos (by omega), List.getElem?_append_right (by omega), hsl, e2]
        simp
  rcases h1.2 with ⟨e, e0⟩ | ⟨g, cap, cur, e, hgB, hg, hnc, hcm, hcs, htk⟩
  · injection e with e1 e2 e3
    subst e1 e3
    have hi0 : i = n := by omega
    subst hi0
    refine (Any2.slices_Insert_string_end_grow lays22 none i 0 w.heap.size 0 1 1 (strL L) [.string key] W (by omega) (by omega) (by omega) (by omega) hsl rfl (fun _ => e0) (fun a h => by cases h) hv hone1).mono ?_
    rintro e w' ⟨rfl, rfl⟩
    obtain ⟨cur, q1, q2, q3⟩ := hend 0 rfl
    exact retIns_of hlen q1 q2 (hge 0) (hmx 0) (by omega) q3 (hnew _ _) (.inr (by omega))
  · injection e with e1 e2 e3
    subst e1 e3
    have hgw := hgl g rfl
    rw [Nat.mul_one] at hcs htk
    have hcc : ∀ j, j < n → cur[j]? = some (.string (gt L j)) := fun j hj => by
      have q := strL_get L j (by omega)
      rw [← htk, List.getElem?_take, if_pos hj] at q
      simpa using q
    have hcs' : ∀ j v, (strL L)[j]? = some v → W.cell? ⟨g, 0 + j, none⟩ = some v := fun j v hj => by
      have hjl : j < n := by
        have := (List.getElem?_eq_some_iff.1 hj).1
        omega
      rw [strL_get L j (by omega)] at hj
      rw [Nat.zero_add]
      simp [World.cell?, hg, hcc j hjl]
      injection hj
    by_cases hin : i = n
    · subst hin
      by_cases hroom : i + 1 ≤ c
      · refine (Any2.slices_Insert_string_end_room lays22 g 0 i c w.heap.size 0 1 1 [.string key] W (by omega) hroom (by unfold maxLen at hcm; omega) rfl (fun j hj => ?_) (fun j hj => ?_) hv hone1).mono ?_
        · have : i + j < cur.size := by omega
          simp [World.cell?, hg, this]
        · simp [World.frozen?, hg]
        rintro e w' ⟨rfl, rfl⟩
        obtain ⟨cur', q1, q2, q3⟩ := row_sets [.string key] (0 + i) W cur hg (by simp; omega)
        refine retIns_of hlen q1 (q2.trans hcs) hroom hcm hgB (fun j hj => ?_) (grown_sets g _ _ _) (.inl rfl)
        rw [q3 j, hgt j hj]
        by_cases e : j < i
        · rw [if_neg (by simp; omega), if_pos e]; exact hcc j e
        · have e2 : j = i := by omega
          subst e2
          rw [if_pos (by simp), if_neg e, if_pos rfl]
          simp
      · refine (Any2.slices_Insert_string_end_grow lays22 (some ⟨g, 0, none⟩) i c w.heap.size 0 1 1 (strL L) [.string key] W (by omega) hnc (by omega) (by omega) hsl rfl (fun h => by cases h) (fun a h j v hj => ?_) hv hone1).mono ?_
        · injection h with h
          subst h
          have q := hcs' j v hj
          rw [Nat.zero_add] at q
          rcases j with _ | j
          · simpa [Addr.add] using q
          · simpa [Addr.add] using q
        rintro e w' ⟨rfl, rfl⟩
        obtain ⟨cur', q1, q2, q3⟩ := hend c rfl
        exact retIns_of hlen q1 q2 (hge c) (hmx c) (by omega) q3 (hnew _ _) (.inr (by omega))
    · by_cases hroom : n + 1 ≤ c
      · refine (Any2.slices_Insert_string_shift lays22 g 0 n c i w.heap.size 0 1 1 (strL L) [.string key] W (by omega) (by omega) hroom (by unfold maxLen at hcm; omega) (by omega) hsl rfl hcs' (fun j hj => ?_) (fun j hj => ?_) hv (strL_one L) hone1 9 9 1 cur.size ?_ ?_ (by omega) ?_ ?_).mono ?_
        · have : j < cur.size := by omega
          simp [World.cell?, hg, this]
        · simp [World.frozen?, hg]
        · simp [World.shape?, hz0]
        · simp [World.shape?, hg]
        · simp [World.frozen?, hz0]
        · simp [World.frozen?, hz0]
        rintro e w' ⟨rfl, rfl⟩
        obtain ⟨cur1, p1, p2, p3⟩ := row_sets ((strL L).drop i) (0 + (i + 1)) W.drew cur (show W.drew.heap[g]? = _ from hg) (by rw [List.length_drop, hsl]; omega)
        obtain ⟨cur', q1, q2, q3⟩ := row_sets [.string key] (0 + i) _ cur1 p1 (by simp; omega)
        refine retIns_of hlen q1 (by omega) hroom hcm hgB (fun j hj => ?_) (grown_trans (grown_trans (grown_drew _ _) (grown_sets g _ _ _)) (grown_sets g _ _ _)) (.inl rfl)
        rw [q3 j, hgt j hj]
        by_cases e : j < i
        · rw [if_neg (by simp; omega), p3 j, if_neg (by omega), if_pos e]
          exact hcc j (by omega)
        · by_cases e2 : j = i
          · subst e2
            rw [if_pos (by simp), if_neg e, if_pos rfl]
            simp
          · rw [if_neg (by simp; omega), p3 j, if_pos (by rw [List.length_drop, hsl]; omega), if_neg e, if_neg e2, List.getElem?_drop, show i + (j - (0 + (i + 1))) = j - 1 by omega, strL_get L (j - 1) (by omega)]
      · refine (Any2.slices_Insert_string_grow lays22 g 0 n c i w.heap.size 0 1 1 (strL L) [.string key] W (by omega) (by omega) hnc (by omega) (by omega) hsl rfl hcs' hv (strL_one L) hone1).mono ?_
        rintro e w' ⟨rfl, rfl⟩
        have q0 := hge c
        have hX : (((strL L).take i).toArray ++ Builtin.zeroCells (Value.string ⟨#[]⟩).cells (n + 1 - i) ++ Builtin.zeroCells (Value.string ⟨#[]⟩).cells (grownCap W (n + 1) c 9 - (n + 1))).size = grownCap W (n + 1) c 9 := by
          rw [Array.size_append, Array.size_append, size_zeroCells, size_zeroCells, List.size_toArray, List.length_take, hsl]
          simp [Value.cells]
          omega
        obtain ⟨cur1, p1, p2, p3⟩ := row_sets [.string key] i (W.alloc (.cells (((strL L).take i).toArray ++ Builtin.zeroCells (Value.string ⟨#[]⟩).cells (n + 1 - i) ++ Builtin.zeroCells (Value.string ⟨#[]⟩).cells (grownCap W (n + 1) c 9 - (n + 1))) 9)).drew _ (heap_alloc_new W _) (by rw [hX]; simp; omega)
        rw [hX] at p2
        obtain ⟨cur', q1, q2, q3⟩ := row_sets ((strL L).drop i) (i + 1) (World.drew ((W.alloc (.cells (((strL L).take i).toArray ++ Builtin.zeroCells (Value.string ⟨#[]⟩).cells (n + 1 - i) ++ Builtin.zeroCells (Value.string ⟨#[]⟩).cells (grownCap W (n + 1) c 9 - (n + 1))) 9)).drew.setCells W.heap.size i [Value.string key])) cur1 p1 (by rw [List.length_drop, hsl]; omega)
        refine retIns_of hlen q1 (q2.trans p2) q0 (hmx c) (by omega) (fun j hj => ?_) ?_ (.inr (by omega))
        · rw [q3 j, hgt j hj]
          by_cases e : j < i
          · rw [if_neg (by omega), p3 j, if_neg (by simp; omega), if_pos e, Array.getElem?_append_left (by rw [Array.size_append, List.size_toArray, List.length_take, hsl]; omega), Array.getElem?_append_left (by rw [List.size_toArray, List.length_take, hsl]; omega), List.getElem?_toArray, List.getElem?_take, if_pos e, strL_get L j (by omega)]
          · by_cases e2 : j = i
            · subst e2
              rw [if_neg (by omega), p3 j, if_pos (by simp), if_neg e, if_pos rfl]
              simp
            · rw [if_pos (by rw [List.length_drop, hsl]; omega), if_neg e, if_neg e2, List.getElem?_drop, show i + (j - (i + 1)) = j - 1 by omega, strL_get L (j - 1) (by omega)]
        · have G1 := grown_sets W.heap.size [Value.string key] i (W.alloc (.cells (((strL L).take i).toArray ++ Builtin.zeroCells (Value.string ⟨#[]⟩).cells (n + 1 - i) ++ Builtin.zeroCells (Value.string ⟨#[]⟩).cells (grownCap W (n + 1) c 9 - (n + 1))) 9)).drew
          have G2 := grown_sets W.heap.size ((strL L).drop i) (i + 1) (World.drew ((W.alloc (.cells (((strL L).take i).toArray ++ Builtin.zeroCells (Value.string ⟨#[]⟩).cells (n + 1 - i) ++ Builtin.zeroCells (Value.string ⟨#[]⟩).cells (grownCap W (n + 1) c 9 - (n + 1))) 9)).drew.setCells W.heap.size i [Value.string key]))
          have z0 : ∀ O, (W.alloc O).drew.heap.size = W.heap.size + 1 := fun O => by simp
          have z1 := G1.size
          have z2 := G2.size
          rw [z0] at z1
          have z3 : W.heap.size + 1 ≤ (World.drew ((W.alloc (.cells (((strL L).take i).toArray ++ Builtin.zeroCells (Value.string ⟨#[]⟩).cells (n + 1 - i) ++ Builtin.zeroCells (Value.string ⟨#[]⟩).cells (grownCap W (n + 1) c 9 - (n + 1))) 9)).drew.setCells W.heap.size i [Value.string key])).heap.size := z1
          refine ⟨G2.os.trans G1.os, G2.tape.trans G1.tape, G2.output.trans G1.output, Nat.le_trans (by omega) (Nat.le_trans z3 z2), fun k hk _ => ?_⟩
          refine (G2.block k (by omega) (fun e => by injection e with e; omega)).trans ?_
          refine (G1.block k (by rw [z0]; omega) (fun e => by injection e with e; omega)).trans ?_
          exact (below_alloc W _).block k hk
end Go.Proofs.Ytakemeccigpbaaa

namespace Go.Proofs.Ytakemeccigpbaaa
open Go.RowKit Go.Deep
set_option linter.unusedVariables false
set_option maxRecDepth 100000

/-- Of what was there only a node's own cells and its row have turned. -/
def Only2 (w w' : World) (b : Nat) (a : Option Addr) : Prop := w'.os = w.os ∧ w'.tape = w.tape ∧ w'.output = w.output ∧ w.heap.size ≤ w'.heap.size ∧ ∀ k, k < w.heap.size → k ≠ b → a.map (·.block) ≠ some k → w'.heap[k]? = w.heap[k]?

/-- What a leaf's insert does. -/
def RetLi (B b : Nat) (ka : Option Addr) (L : List ByteArray) (key : ByteArray) (w : World) (e : Ending) (w' : World) : Prop :=
  (key ∈ L ∧ e = .returned (.bool false) ∧ w' = w) ∨
  (¬ key ∈ L ∧ e = .returned (.bool true) ∧ Only2 w w' b ka ∧ ∃ a' c', Bx w' b 57 #[.int .i64 ((insK key L).length : Int), .slice a' (insK key L).length c'] ∧ w'.ownsRow B 9 1 (.slice a' (insK key L).length c') (insK key L).length (strL (insK key L)) ∧ (a' = ka ∨ ∃ g, a' = some ⟨g, 0, none⟩ ∧ w.heap.size < g))

set_option maxHeartbeats 2000000 in
theorem leafIns_any (B b n kc : Nat) (ka : Option Addr) (L : List ByteArray) (key : ByteArray) (w : World) (hx : Bx w b 57 #[.int .i64 (n : Int), .slice ka n kc]) (ho : w.ownsRow B 9 1 (.slice ka n kc) n (strL L)) (hn : n = L.length) (hn2 : n ≤ 1000000) (ha : Asc L) (hB : B ≤ w.heap.size) :
    Calls Try.prog 106 #[.pointer (some ⟨b, 0, none⟩), .string key] w (RetLi B b ka L key w) := by
  obtain ⟨a6, c6, e6, hrd, hcap6⟩ := ownS_strL ho hn
  injection e6 with e6 e7 e8
  subst e6
  rw [← hn] at hrd
  have HR : Hid (Bx w b 57 #[.int .i64 (n : Int), .slice ka n kc] ∧ w.ownsRow B 9 1 (.slice ka n kc) n (strL L) ∧ n = L.length ∧ Asc L ∧ RdS w ka n (gt L)) := ⟨hx, ho, hn, ha, hrd.rd⟩
  have c0 := hx.cell 0
  have c1 := hx.cell 1
  have f1 := hx.frozen 1
  have hl := hx.lt
  simp at c0 c1
  clear hx ho hn ha hrd hcap6 e7 e8 c6
  go_enter Try.func106, Try.ntmps106
  go_wp2_with fail
  refine (bs_any ka n kc L key w HR.out.2.2.2.2 HR.out.2.2.1 (by omega) HR.out.2.2.2.1).mono ?_
  rintro e w1 ⟨i, ok, rfl, rfl, h1, h2, h3, h4⟩
  have HC : Hid (cntL key L = i) := cntL_at h1 h2 h3
  have hin : i ≤ n := by rw [HR.out.2.2.1]; exact h1
  cases ok with
  | true =>
    have HM : Hid (key ∈ L) := by
      show key ∈ L
      obtain ⟨q1, q2⟩ := h4.1 rfl
      rw [← q2]
      exact gt_mem q1
    clear h1 h2 h3 h4
    go_wp2
    go_ret
    exact .inl ⟨HM.out, rfl, rfl⟩
  | false =>
    have HM : Hid (¬ key ∈ L) := fun hm => by
      obtain ⟨j, hj, e⟩ := List.getElem_of_mem hm
      have eg : gt L j = key := by
        unfold gt
        rw [List.getD_eq_getElem?_getD, List.getElem?_eq_getElem hj]
        exact e
      have hji : ¬ j < i := fun q => by
        have := h2 j q
        rw [eg, less_irrefl] at this
        cases this
      by_cases e2 : j = i
      · subst e2
        have := h4.2 ⟨hj, eg⟩
        cases this
      · have q1 := asc_lt HR.out.2.2.2.1 (show i < j by omega) hj
        rw [eg] at q1
        have q2 := h3 i (Nat.le_refl _) (by omega)
        rw [q1] at q2
        cases q2
    clear h1 h2 h3 h4
    have HL : Hid (L.take i ++ key :: L.drop i = insK key L) := by
      show L.take i ++ key :: L.drop i = insK key L
      unfold insK
      rw [HC.out]
    have HI : Hid (Calls Try.prog 113 #[.slice ka n kc, .int .i64 (i : Int), .slice (some ⟨w1.heap.size, 0, none⟩) 1 1] (w1.alloc (.cells #[.string key] 9)) (RetIns B w1 (w1.alloc (.cells #[.string key] 9)) ka (insK key L))) := by
      have q := insS_any B n kc i ka L key w1 HR.out.2.1 HR.out.2.2.1 hin hB (by omega)
      rw [HL.out] at q
      exact q
    have HNE : Hid (ka.map (·.block) ≠ some b) := fun e => by
      rcases HR.out.2.1.2 with ⟨q, _⟩ | ⟨g, cap, cur, q, _, hg, _⟩
      · injection q with q1 _ _
        rw [q1] at e
        cases e
      · injection q with q1 _ _
        rw [q1] at e
        injection e with e
        have hb := HR.out.1
        unfold Bx at hb
        rw [← e] at hb
        have e2 := hg.symm.trans hb
        injection e2 with e2
        injection e2 with _ e2 _
        exact absurd e2 (by decide)
    go_wp2_with fail
    refine HI.out.mono ?_
    rintro e w2 ⟨a2, c2, rfl, ho2, hg2, ha2⟩
    have hx2 : Bx w2 b 57 #[.int .i64 (n : Int), .slice ka n kc] := (HR.out.1.alloc _).grown hg2 HNE.out
    obtain ⟨M, hM⟩ : ∃ M, M = (insK key L).length := ⟨_, rfl⟩
    rw [← hM] at ho2 ⊢
    have hMb : M ≤ 1048576 := by rw [hM, insK_length, ← HR.out.2.2.1]; omega
    have d0 := hx2.cell 0
    have d1 := hx2.cell 1
    have g1 := hx2.frozen 1
    have l2 := hx2.lt
    simp at d0 d1
    have hx3 : Bx (w2.setCell ⟨b, 1, none⟩ (.slice a2 M c2)) b 57 #[.int .i64 (n : Int), .slice a2 M c2] := by
      have q := hx2.set 1 (.slice a2 M c2)
      simpa using q
    have HX : Hid (Bx (w2.setCell ⟨b, 1, none⟩ (.slice a2 M c2)) b 57 #[.int .i64 (n : Int), .slice a2 M c2]) := hx3
    have H2 : Hid (w2.ownsRow B 9 1 (.slice a2 M c2) M (strL (insK key L)) ∧ (w1.alloc (.cells #[.string key] 9)).grownBy w2 (ka.map (·.block)) ∧ (a2 = ka ∨ ∃ g, a2 = some ⟨g, 0, none⟩ ∧ w1.heap.size < g) ∧ M = (insK key L).length) := ⟨ho2, hg2, ha2, hM⟩
    clear ho2 hg2 ha2 hM hx2 hx3 c0 c1 f1 HI
    go_wp2_with fail
    refine (recountLeaf_any b M c2 a2 (n : Int) _ HX.out).mono ?_
    rintro e w3 ⟨rfl, rfl⟩
    have HF : Hid (RetLi B b ka L key w1 (.returned (.bool true)) ((w2.setCell ⟨b, 1, none⟩ (.slice a2 M c2)).setCell ⟨b, 0, none⟩ (.int .i64 (M : Int)))) := by
      obtain ⟨ho, hg, ha, hM⟩ := H2.out
      refine .inr ⟨HM.out, rfl, ⟨hg.os, hg.tape, hg.output, ?_, fun k hk hkb hka => ?_⟩, a2, c2, ?_, ?_, ha⟩
      · have q := hg.size
        simp at q
        simp [World.setCell]
        omega
      · rw [Below.heap_setCell _ _ _ _ hkb, Below.heap_setCell _ _ _ _ hkb, hg.block k (by simp; omega) (fun e => hka e.symm)]
        exact (below_alloc _ _).block k hk
      · have q := HX.out.set 0 (.int .i64 (M : Int))
        rw [← hM]
        simpa using q
      · rw [← hM]
        have hne : ∀ g, (Value.slice a2 M c2).ownBlock = some g → g ≠ b := fun g e e2 => by
          subst e2
          rcases ho.2 with ⟨q, _⟩ | ⟨g2, cap, cur, q, _, hg2, _⟩
          · rw [q] at e; cases e
          · rw [q] at e
            injection e with e
            have hb := (HR.out.1.alloc (.cells #[.string key] 9)).grown hg HNE.out
            unfold Bx at hb
            simp at e
            rw [← e] at hb
            have e2 := hg2.symm.trans hb
            injection e2 with e2
            injection e2 with _ e2 _
            exact absurd e2 (by decide)
        refine ⟨ho.1, ?_⟩
        rcases ho.2 with q | ⟨g, cap, cur, q1, q2, q3, q4⟩
        · exact .inl q
        · have hgb : g ≠ b := hne g (by rw [q1]; rfl)
          refine .inr ⟨g, cap, cur, q1, q2, ?_, q4⟩
          rw [Below.heap_setCell _ _ _ _ hgb, Below.heap_setCell _ _ _ _ hgb]
          exact q3
    go_wp2
    go_ret
    exact HF.out
end Go.Proofs.Ytakemeccigpbaaa

namespace Go.Proofs.Ytakemeccigpbaaa
open Go.RowKit Go.Deep
set_option linter.unusedVariables false
set_option maxRecDepth 100000

set_option maxHeartbeats 1000000 in
theorem sizeLeaf_any (b n kc : Nat) (ka : Option Addr) (v0 : Value) (w : World) (h : Bx w b 57 #[v0, .slice ka n kc]) :
    Calls Try.prog 140 #[.pointer (some ⟨b, 0, none⟩)] w fun e w' => e = .returned (.int .i64 (n : Int)) ∧ w' = w := by
  have c1 := h.cell 1
  have hl := h.lt
  simp at c1
  clear h
  go_enter Try.func140, Try.ntmps140
  go_wp2
  go_ret
  exact ⟨rfl, rfl⟩

set_option maxHeartbeats 1000000 in
theorem sizeInner_any (b n kc : Nat) (ka : Option Addr) (v0 : Value) (w : World) (h : Bx w b 96 #[v0, .slice ka n kc]) :
    Calls Try.prog 55 #[.pointer (some ⟨b, 0, none⟩)] w fun e w' => e = .returned (.int .i64 (n : Int)) ∧ w' = w := by
  have c1 := h.cell 1
  have hl := h.lt
  simp at c1
  clear h
  go_enter Try.func55, Try.ntmps55
  go_wp2
  go_ret
  exact ⟨rfl, rfl⟩

set_option maxHeartbeats 1000000 in
theorem largeLeaf_any (b n kc : Nat) (ka : Option Addr) (v0 : Value) (w : World) (h : Bx w b 57 #[v0, .slice ka n kc]) :
    Calls Try.prog 111 #[.pointer (some ⟨b, 0, none⟩)] w fun e w' => e = .returned (.bool (decide (4 < n))) ∧ w' = w := by
  have HX : Hid (Bx w b 57 #[v0, .slice ka n kc]) := h
  have c1 := h.cell 1
  have hl := h.lt
  simp at c1
  clear h
  by_cases hb : 4 < n
  · have i1 : (4 : Int) < (n : Int) := by omega
    go_enter Try.func111, Try.ntmps111
    go_wp2
    go_ret
    exact ⟨by simp [hb], rfl⟩
  · have i1 : ¬ (4 : Int) < (n : Int) := by omega
    go_enter Try.func111, Try.ntmps111
    go_wp2
    go_ret
    exact ⟨by simp, rfl⟩

set_option maxHeartbeats 1000000 in
theorem largeInner_any (b n kc : Nat) (ka : Option Addr) (v0 : Value) (w : World) (h : Bx w b 96 #[v0, .slice ka n kc]) :
    Calls Try.prog 128 #[.pointer (some ⟨b, 0, none⟩)] w fun e w' => e = .returned (.bool (decide (4 < n))) ∧ w' = w := by
  have HX : Hid (Bx w b 96 #[v0, .slice ka n kc]) := h
  have c1 := h.cell 1
  have hl := h.lt
  simp at c1
  clear h
  by_cases hb : 4 < n
  · have i1 : (4 : Int) < (n : Int) := by omega
    go_enter Try.func128, Try.ntmps128
    go_wp2
    go_ret
    exact ⟨by simp [hb], rfl⟩
  · have i1 : ¬ (4 : Int) < (n : Int) := by omega
    go_enter Try.func128, Try.ntmps128
    go_wp2
    go_ret
    exact ⟨by simp, rfl⟩
end Go.Proofs.Ytakemeccigpbaaa

namespace Go.Proofs.Ytakemeccigpbaaa
open Go.RowKit Go.Deep
set_option linter.unusedVariables false
set_option maxRecDepth 100000

/-- A slice of one-cell values that can be read. -/
def RdV (w : World) (a : Option Addr) (n : Nat) (xs : List Value) : Prop :=
  xs.length = n ∧ (∀ u ∈ xs, u.oneCell' = true) ∧ (n = 0 ∨ ∃ b o, a = some ⟨b, o, none⟩ ∧ b < w.heap.size ∧ ∀ j u, xs[j]? = some u → w.cell? ⟨b, o + j, none⟩ = some u)
theorem RdV.below {w w' : World} {a : Option Addr} {n : Nat} {xs : List Value} (h : RdV w a n xs) (hb : Below w.heap.size w w') : RdV w' a n xs := by
  refine ⟨h.1, h.2.1, ?_⟩
  rcases h.2.2 with q | ⟨b, o, rfl, hl, hc⟩
  · exact Or.inl q
  · exact Or.inr ⟨b, o, rfl, by have := hb.size; omega, fun j u hj => (hb.cell (p := ⟨b, o + j, none⟩) hl).trans (hc j u hj)⟩

theorem wpList_append_vS {w : World} {ops : Array Oper} {rest : List Oper} {o : Oper} {act : Act} {Q : Exit → Act → World → Prop} (hgd : o.guard = none) (s x : Operand)
    (ho : o.op = .call { callee := .builtin .append, args := #[s, x], argTypes := #[27, 27] })
    (B : Nat) (v : Value) (n : Nat) (xs : List Value) (hs : act.eval s = v) (hown : w.ownsRow B 9 1 v n xs)
    (a : Option Addr) (m c : Nat) (ys : List Value) (hx : act.eval x = .slice a m c) (hrd : RdV w a m ys) (hnm : n + m ≤ 1048576) (hB : B ≤ w.heap.size)
    (h : ∀ v' w', w'.ownsRow B 9 1 v' (n + m) (xs ++ ys) → w.grownBy w' v.ownBlock → wpList Try.prog ops Q rest (act.put o.dst v') w') : wpList Try.prog ops Q (o :: rest) act w := by
  obtain ⟨i0, hi, hz0, hz1, hz2⟩ := info_parts Try.info9
  obtain ⟨hl, h1, hrd⟩ := hrd
  by_cases hm0 : m = 0
  · subst hm0
    have hL : ys = [] := List.length_eq_zero_iff.1 hl
    subst hL
    have hsrc : Src Try.prog i0.size 27 (.slice a 0 c) 0 [] w := by
      cases a with
      | none => exact Src.ofNil w Try.underlying27 c
      | some ad => exact Src.ofSlice w Try.underlying27 ad 0 c [] (by simp) (by simp) (by simp)
    have hsh : ∃ b l cap, v = .slice b l cap ∧ l ≤ cap := by
      rcases hown.2 with ⟨rfl, rfl⟩ | ⟨g, cap, cur, rfl, _, _, h1, _⟩
      · exact ⟨none, 0, 0, rfl, Nat.le_refl _⟩
      · exact ⟨_, n, cap, rfl, h1⟩
    obtain ⟨b, l, cap, hvv, hlc⟩ := hsh
    have hrun := run_append_nothing (P := Try.prog) w 27 27 o.type 9 i0 Try.underlying27 hi b l cap hlc (.slice a 0 c) hsrc
    rw [← hvv] at hrun
    refine wpList_plain hgd fun K hK => ?_
    unfold Oper.wp
    simp [execOp, ho, resolve, invoke, builtin, hs, hx, hrun, Result.andThen]
    exact hK _ _ (h v w (by simpa using hown) ⟨rfl, rfl, rfl, Nat.le_refl _, fun _ _ _ => rfl⟩)
  · rcases hrd with h0 | ⟨b, off, rfl, _, hc⟩
    · exact absurd h0 hm0
    · refine wpList_append_own_at w hgd s x 27 ho B 9 i0 _ 1 16 Try.underlying27 hi hz0 hz1 hz2 rfl (by decide) v n xs hs hown ⟨b, off, none⟩ m c ys hx (by omega) (fun j u hj => ?_) h1 (by unfold maxLen; omega) (by omega) hB (fun v' w' h1 h2 _ _ => h v' w' h1 h2)
      have e : (Addr.add ⟨b, off, none⟩ j) = ⟨b, off + j, none⟩ := by
        unfold Addr.add
        by_cases h : j = 0
        · subst h; simp
        · simp [h]
      rw [e]
      exact hc j u hj

set_option maxHeartbeats 1000000 in
theorem growS_any (n : Nat) (h0 : 0 < n) (hn : n ≤ 1000) (w : World) :
    Calls Try.prog 88 #[.slice none 0 0, .int .i64 (n : Int)] w fun e w' => ∃ c, e = .returned (.slice (some ⟨w.heap.size, 0, none⟩) 0 c) ∧ w'.ownsRow w.heap.size 9 1 (.slice (some ⟨w.heap.size, 0, none⟩) 0 c) 0 [] ∧ Below w.heap.size w w' := by
  obtain ⟨i0, hi0, hz0, hzs, hzb⟩ := info_parts Try.info9
  have hrz : ∀ ty, (Builtin.append_ #[27, 3] ty #[.slice none 0 0, .int .i64 (n : Int)]).run Try.prog w = .ok (.slice (some ⟨w.heap.size, 0, none⟩) n (grownCap w n 0 9)) (w.drew.alloc (.cells (#[] ++ Builtin.zeroCells (Value.string { data := #[] }).cells n ++ Builtin.zeroCells (Value.string { data := #[] }).cells (grownCap w n 0 9 - n)) 9)) := fun ty => by
    have h := Lib.run_append_grow_zeros w 27 3 ty 9 i0 _ .i64 .i64 Try.underlying27 Try.underlying3 hi0 hz0 none 0 0 [] (by simp [run_firstCells_none]) n (by omega) (by omega) (by omega) (by omega) (by rw [hzb]; omega) (by rw [hzb]; exact growslice_fits (by omega) (by omega))
    simpa using h
  obtain ⟨G, hG⟩ : ∃ G, G = grownCap w n 0 9 := ⟨_, rfl⟩
  have hGn : n ≤ G := by rw [hG]; exact grownCap_ge w _ _ _
  have hG63 : G ≤ 9223372036854775807 := by
    have := grownCap_le_maxLen w n 0 9 (by unfold maxLen; omega)
    rw [← hG] at this
    unfold maxLen at this
    omega
  rw [← hG] at hrz
  obtain ⟨ROW, hROW⟩ : ∃ ROW : Array Value, ROW = #[] ++ Builtin.zeroCells (Value.string { data := #[] }).cells n ++ Builtin.zeroCells (Value.string { data := #[] }).cells (G - n) := ⟨_, rfl⟩
  rw [← hROW] at hrz
  have HO : Hid ((w.drew.alloc (.cells ROW 9)).ownsRow w.heap.size 9 1 (.slice (some ⟨w.heap.size, 0, none⟩) 0 G) 0 []) := by
    refine ⟨rfl, Or.inr ⟨w.heap.size, G, ROW, rfl, Nat.le_refl _, blk_alloc_new w.drew _, Nat.zero_le _, by unfold maxLen; omega, ?_, by simp⟩⟩
    rw [hROW]
    simp [Builtin.zeroCells, Value.cells]
    omega
  have HBl : Hid (Below w.heap.size w (w.drew.alloc (.cells ROW 9))) := (Below.refl w.heap.size w).drew.trans (show Below w.heap.size w.drew _ from below_alloc w.drew _)
  have i1 : ¬ (n : Int) < 0 := by omega
  have i2 : (0 : Int) < (n : Int) := by omega
  have i1d : decide ((n : Int) < 0) = false := decide_eq_false i1
  have i2d : decide ((0 : Int) < (n : Int)) = true := decide_eq_true i2
  clear hROW hG hi0 hz0 hzs hzb
  go_enter Try.func88, Try.ntmps88
  go_wp2_with (at_builtin; refine Lib.wpList_append_run _ rfl _ _ _ _ rfl _ _ rfl rfl _ _ (hrz _) ?_)
  go_ret
  exact ⟨G, rfl, HO.out, HBl.out⟩

set_option maxHeartbeats 4000000 in
theorem concatS_any (g c n1 n2 c1 c2 : Nat) (a1 a2 : Option Addr) (xs ys : List Value) (w : World) (hg0 : w.cell? ⟨g, 0, none⟩ = some (.slice a1 n1 c1)) (hg1 : w.cell? ⟨g, 1, none⟩ = some (.slice a2 n2 c2)) (h1 : RdV w a1 n1 xs) (h2 : RdV w a2 n2 ys) (h0 : 0 < n1 + n2) (hn : n1 + n2 ≤ 1000) :
    Calls Try.prog 85 #[.slice (some ⟨g, 0, none⟩) 2 c] w fun e w' => ∃ gg cc, e = .returned (.slice (some ⟨gg, 0, none⟩) (n1 + n2) cc) ∧ w'.ownsRow w.heap.size 9 1 (.slice (some ⟨gg, 0, none⟩) (n1 + n2) cc) (n1 + n2) (xs ++ ys) ∧ Below w.heap.size w w' := by
  have HC : Hid (∀ W, Below w.heap.size w W → W.cell? ⟨g, 0, none⟩ = some (.slice a1 n1 c1) ∧ W.cell? ⟨g, 1, none⟩ = some (.slice a2 n2 c2) ∧ RdV W a1 n1 xs ∧ RdV W a2 n2 ys) := by
    intro W hW
    have hl := World.block_lt_of_cell? _ _ hg0
    exact ⟨(hW.cell (p := ⟨g, 0, none⟩) hl).trans hg0, (hW.cell (p := ⟨g, 1, none⟩) hl).trans hg1, h1.below hW, h2.below hW⟩
  clear h1 h2
  go_enter Try.func85, Try.ntmps85
  go_wp2
  go_loopw [3, 11] (fun q i wr => ∃ k : Nat, k ≤ 2 ∧ i = .int .i64 k ∧ q = .int .i64 (((if k = 0 then 0 else if k = 1 then n1 else n1 + n2 : Nat)) : Int) ∧ wr = w) (fun _ i _ => 2 - (intOf i).toNat)
  case atStart => exact ⟨0, by omega, rfl, rfl, rfl⟩
  case round =>
    obtain ⟨k, hk, rfl, rfl, hw⟩ := hrel
    have hw' := hw.symm
    clear hw
    subst hw'
    by_cases k0 : k = 0
    · subst k0
      go_wp2
      go_roundw
      case rel => exact ⟨1, by omega, by go_num, by first | go_num | simp, by simp⟩
      case measure => simp [intOf]
    · by_cases k1 : k = 1
      · subst k1
        have i1 : ¬ ((n1 : Int) + (n2 : Int)) < 0 := by omega
        have i1d : decide (((n1 : Int) + (n2 : Int)) < 0) = false := decide_eq_false i1
        go_wp2
        go_roundw
        case rel => exact ⟨2, by omega, by go_num, by first | go_num | simp, by simp⟩
        case measure => simp [intOf]
      · have k2 : k = 2 := by omega
        subst k2
        have HGr : Hid (Calls Try.prog 88 #[.slice none 0 0, .int .i64 ((n1 : Int) + (n2 : Int))] w fun e w' => ∃ c, e = .returned (.slice (some ⟨w.heap.size, 0, none⟩) 0 c) ∧ w'.ownsRow w.heap.size 9 1 (.slice (some ⟨w.heap.size, 0, none⟩) 0 c) 0 [] ∧ Below w.heap.size w w') := by
          have := growS_any (n1 + n2) h0 hn w
          rw [show (((n1 + n2 : Nat)) : Int) = (n1 : Int) + (n2 : Int) by omega] at this
          exact this
        clear hg0 hg1
        go_wp2_with fail
        (with_reducible refine HGr.out.mono ?_)
        rintro e w1 ⟨gc, rfl, ho1, hb1⟩
        have H1 : Hid (w1.ownsRow w.heap.size 9 1 (.slice (some ⟨w.heap.size, 0, none⟩) 0 gc) 0 [] ∧ Below w.heap.size w w1) := ⟨ho1, hb1⟩
        clear ho1 hb1 HGr
        go_wp2
        go_loopw [6, 27] (fun q i wx => ∃ (k nv cv : Nat) (av : Option Addr), k ≤ 2 ∧ i = .int .i64 k ∧ q = .slice av nv cv ∧ nv = (if k = 0 then 0 else if k = 1 then n1 else n1 + n2) ∧ wx.ownsRow w.heap.size 9 1 (.slice av nv cv) nv (if k = 0 then [] else if k = 1 then xs else xs ++ ys) ∧ Below w.heap.size w wx) (fun _ i _ => 2 - (intOf i).toNat)
        case atStart => exact ⟨0, 0, _, _, by omega, rfl, rfl, rfl, H1.out.1, H1.out.2⟩
        case round =>
          obtain ⟨k, nv, cv, av, hk, rfl, rfl, hnv, ho, hb⟩ := hrel
          have HS : Hid (wr.ownsRow w.heap.size 9 1 (.slice av nv cv) nv (if k = 0 then [] else if k = 1 then xs else xs ++ ys) ∧ Below w.heap.size w wr) := ⟨ho, hb⟩
          obtain ⟨y0, y1, r1, r2⟩ := HC.out wr hb
          have HR : Hid (RdV wr a1 n1 xs ∧ RdV wr a2 n2 ys) := ⟨r1, r2⟩
          have hbs := hb.size
          clear ho hb r1 r2
          by_cases k0 : k = 0
          · subst k0
            have e0 : nv = 0 := by simpa using hnv
            subst e0
            clear hnv
            go_wp2_with (at_builtin; refine wpList_append_vS rfl _ _ rfl w.heap.size (.slice av 0 cv) 0 [] rfl HS.out.1 a1 n1 c1 xs rfl HR.out.1 (by omega) hbs ?_)
            intro v' w' ho' hg'
            obtain ⟨av', cv', ev, _⟩ := own_form ho'
            subst ev
            have HX : Hid (w'.ownsRow w.heap.size 9 1 (.slice av' (0 + n1) cv') (0 + n1) xs ∧ Below w.heap.size w w') := ⟨by simpa using ho', HS.out.2.grown hg' hbs (fun g e => (own_lt HS.out.1 g e).1)⟩
            clear ho' hg'
            go_wp2
            go_roundw
            case rel => exact ⟨1, 0 + n1, cv', av', by omega, by go_num, by simp, by simp, HX.out⟩
            case measure => simp [intOf]
          · by_cases k1 : k = 1
            · subst k1
              have e1 : nv = n1 := by simpa using hnv
              subst e1
              clear hnv
              go_wp2_with (at_builtin; refine wpList_append_vS rfl _ _ rfl w.heap.size (.slice av nv cv) nv xs rfl HS.out.1 a2 n2 c2 ys rfl HR.out.2 (by omega) hbs ?_)
              intro v' w' ho' hg'
              obtain ⟨av', cv', ev, _⟩ := own_form ho'
              subst ev
              have HX : Hid (w'.ownsRow w.heap.size 9 1 (.slice av' (nv + n2) cv') (nv + n2) (xs ++ ys) ∧ Below w.heap.size w w') := ⟨ho', HS.out.2.grown hg' hbs (fun g e => (own_lt HS.out.1 g e).1)⟩
              clear ho' hg'
              go_wp2
              go_roundw
              case rel => exact ⟨2, nv + n2, cv', av', by omega, by go_num, rfl, by simp, HX.out⟩
              case measure => simp [intOf]
            · have k2 : k = 2 := by omega
              subst k2
              have e2 : nv = n1 + n2 := by simpa using hnv
              subst e2
              clear hnv
              obtain ⟨av', cv', e, hf⟩ := own_form HS.out.1
              injection e with e1 _ e3
              subst e1 e3
              obtain ⟨gg, rfl, _⟩ := hf (by omega)
              go_wp2
              go_ret
              exact ⟨gg, cv, rfl, by simpa using HS.out.1, HS.out.2⟩

set_option maxHeartbeats 1000000 in
theorem cutS_any (g n c k : Nat) (w : World) (hk : k ≤ n) (hn : n ≤ c) (hkn : k < n) :
    Calls Try.prog 84 #[.slice (some ⟨g, 0, none⟩) n c, .int .i64 (k : Int)] w fun e w' => e = .returned (.tuple #[.slice (some ⟨g, 0, none⟩) k k, .slice (some ⟨g, k, none⟩) (n - k) (c - k)]) ∧ w' = w.drew := by
  have s1 : ∀ W : World, (Instr.sliceAt 27 (.slice (some ⟨g, 0, none⟩) n c) none (some (.int .i64 (k : Int))) (some (.int .i64 (k : Int)))).run Try.prog W = .ok (.slice (some ⟨g, 0, none⟩) k k) W := by
    intro W
    have hkc : k ≤ c := by omega
    simp [Instr.sliceAt, Instr.slice, go_sem, hkc]
  have s2 : ∀ W : World, (Instr.sliceAt 27 (.slice (some ⟨g, 0, none⟩) n c) (some (.int .i64 (k : Int))) none none).run Try.prog W = .ok (.slice (some ⟨g, k, none⟩) (n - k) (c - k)) W := by
    intro W
    have hkc : ¬ c = k := by omega
    simp [Instr.sliceAt, Instr.slice, go_sem, hkc, hk]
  go_enter Try.func84, Try.ntmps84
  go_wp2
  go_region_held3 (fun _ => True) (go_keep) (fail)
  go_wp2
  refine bodyPost_ret (v := .tuple #[.slice (some ⟨g, 0, none⟩) k k, .slice (some ⟨g, k, none⟩) (n - k) (c - k)]) (by simp [results, Try.results84, go_sem]) rfl ⟨rfl, rfl⟩

theorem wpList_append_vN {w : World} {ops : Array Oper} {rest : List Oper} {o : Oper} {act : Act} {Q : Exit → Act → World → Prop} (hgd : o.guard = none) (s x : Operand)
    (ho : o.op = .call { callee := .builtin .append, args := #[s, x], argTypes := #[94, 94] })
    (B : Nat) (v : Value) (n : Nat) (xs : List Value) (hs : act.eval s = v) (hown : w.ownsRow B 59 1 v n xs)
    (a : Option Addr) (m c : Nat) (ys : List Value) (hx : act.eval x = .slice a m c) (hrd : RdV w a m ys) (hnm : n + m ≤ 1048576) (hB : B ≤ w.heap.size)
    (h : ∀ v' w', w'.ownsRow B 59 1 v' (n + m) (xs ++ ys) → w.grownBy w' v.ownBlock → wpList Try.prog ops Q rest (act.put o.dst v') w') : wpList Try.prog ops Q (o :: rest) act w := by
  obtain ⟨i0, hi, hz0, hz1, hz2⟩ := info_parts Try.info59
  obtain ⟨hl, h1, hrd⟩ := hrd
  by_cases hm0 : m = 0
  · subst hm0
    have hL : ys = [] := List.length_eq_zero_iff.1 hl
    subst hL
    have hsrc : Src Try.prog i0.size 94 (.slice a 0 c) 0 [] w := by
      cases a with
      | none => exact Src.ofNil w Try.underlying94 c
      | some ad => exact Src.ofSlice w Try.underlying94 ad 0 c [] (by simp) (by simp) (by simp)
    have hsh : ∃ b l cap, v = .slice b l cap ∧ l ≤ cap := by
      rcases hown.2 with ⟨rfl, rfl⟩ | ⟨g, cap, cur, rfl, _, _, h1, _⟩
      · exact ⟨none, 0, 0, rfl, Nat.le_refl _⟩
      · exact ⟨_, n, cap, rfl, h1⟩
    obtain ⟨b, l, cap, hvv, hlc⟩ := hsh
    have hrun := run_append_nothing (P := Try.prog) w 94 94 o.type 59 i0 Try.underlying94 hi b l cap hlc (.slice a 0 c) hsrc
    rw [← hvv] at hrun
    refine wpList_plain hgd fun K hK => ?_
    unfold Oper.wp
    simp [execOp, ho, resolve, invoke, builtin, hs, hx, hrun, Result.andThen]
    exact hK _ _ (h v w (by simpa using hown) ⟨rfl, rfl, rfl, Nat.le_refl _, fun _ _ _ => rfl⟩)
  · rcases hrd with h0 | ⟨b, off, rfl, _, hc⟩
    · exact absurd h0 hm0
    · refine wpList_append_own_at w hgd s x 94 ho B 59 i0 _ 1 16 Try.underlying94 hi hz0 hz1 hz2 rfl (by decide) v n xs hs hown ⟨b, off, none⟩ m c ys hx (by omega) (fun j u hj => ?_) h1 (by unfold maxLen; omega) (by omega) hB (fun v' w' h1 h2 _ _ => h v' w' h1 h2)
      have e : (Addr.add ⟨b, off, none⟩ j) = ⟨b, off + j, none⟩ := by
        unfold Addr.add
        by_cases h : j = 0
        · subst h; simp
        · simp [h]
      rw [e]
      exact hc j u hj

set_option maxHeartbeats 1000000 in
theorem growN_any (n : Nat) (h0 : 0 < n) (hn : n ≤ 1000) (w : World) :
    Calls Try.prog 89 #[.slice none 0 0, .int .i64 (n : Int)] w fun e w' => ∃ c, e = .returned (.slice (some ⟨w.heap.size, 0, none⟩) 0 c) ∧ w'.ownsRow w.heap.size 59 1 (.slice (some ⟨w.heap.size, 0, none⟩) 0 c) 0 [] ∧ Below w.heap.size w w' := by
  obtain ⟨i0, hi0, hz0, hzs, hzb⟩ := info_parts Try.info59
  have hrz : ∀ ty, (Builtin.append_ #[94, 3] ty #[.slice none 0 0, .int .i64 (n : Int)]).run Try.prog w = .ok (.slice (some ⟨w.heap.size, 0, none⟩) n (grownCap w n 0 59)) (w.drew.alloc (.cells (#[] ++ Builtin.zeroCells Value.nilIface.cells n ++ Builtin.zeroCells Value.nilIface.cells (grownCap w n 0 59 - n)) 59)) := fun ty => by
    have h := Lib.run_append_grow_zeros w 94 3 ty 59 i0 _ .i64 .i64 Try.underlying94 Try.underlying3 hi0 hz0 none 0 0 [] (by simp [run_firstCells_none]) n (by omega) (by omega) (by omega) (by omega) (by rw [hzb]; omega) (by rw [hzb]; exact growslice_fits (by omega) (by omega))
    simpa using h
  obtain ⟨G, hG⟩ : ∃ G, G = grownCap w n 0 59 := ⟨_, rfl⟩
  have hGn : n ≤ G := by rw [hG]; exact grownCap_ge w _ _ _
  have hG63 : G ≤ 9223372036854775807 := by
    have := grownCap_le_maxLen w n 0 59 (by unfold maxLen; omega)
    rw [← hG] at this
    unfold maxLen at this
    omega
  rw [← hG] at hrz
  obtain ⟨ROW, hROW⟩ : ∃ ROW : Array Value, ROW = #[] ++ Builtin.zeroCells Value.nilIface.cells n ++ Builtin.zeroCells Value.nilIface.cells (G - n) := ⟨_, rfl⟩
  rw [← hROW] at hrz
  have HO : Hid ((w.drew.alloc (.cells ROW 59)).ownsRow w.heap.size 59 1 (.slice (some ⟨w.heap.size, 0, none⟩) 0 G) 0 []) := by
    refine ⟨rfl, Or.inr ⟨w.heap.size, G, ROW, rfl, Nat.le_refl _, blk_alloc_new w.drew _, Nat.zero_le _, by unfold maxLen; omega, ?_, by simp⟩⟩
    rw [hROW]
    simp [Builtin.zeroCells, Value.cells]
    omega
  have HBl : Hid (Below w.heap.size w (w.drew.alloc (.cells ROW 59))) := (Below.refl w.heap.size w).drew.trans (show Below w.heap.size w.drew _ from below_alloc w.drew _)
  have i1 : ¬ (n : Int) < 0 := by omega
  have i2 : (0 : Int) < (n : Int) := by omega
  have i1d : decide ((n : Int) < 0) = false := decide_eq_false i1
  have i2d : decide ((0 : Int) < (n : Int)) = true := decide_eq_true i2
  clear hROW hG hi0 hz0 hzs hzb
  go_enter Try.func89, Try.ntmps89
  go_wp2_with (at_builtin; refine Lib.wpList_append_run _ rfl _ _ _ _ rfl _ _ rfl rfl _ _ (hrz _) ?_)
  go_ret
  exact ⟨G, rfl, HO.out, HBl.out⟩

set_option maxHeartbeats 4000000 in
theorem concatN_any (g c n1 n2 c1 c2 : Nat) (a1 a2 : Option Addr) (xs ys : List Value) (w : World) (hg0 : w.cell? ⟨g, 0, none⟩ = some (.slice a1 n1 c1)) (hg1 : w.cell? ⟨g, 1, none⟩ = some (.slice a2 n2 c2)) (h1 : RdV w a1 n1 xs) (h2 : RdV w a2 n2 ys) (h0 : 0 < n1 + n2) (hn : n1 + n2 ≤ 1000) :
    Calls Try.prog 87 #[.slice (some ⟨g, 0, none⟩) 2 c] w fun e w' => ∃ gg cc, e = .returned (.slice (some ⟨gg, 0, none⟩) (n1 + n2) cc) ∧ w'.ownsRow w.heap.size 59 1 (.slice (some ⟨gg, 0, none⟩) (n1 + n2) cc) (n1 + n2) (xs ++ ys) ∧ Below w.heap.size w w' := by
  have HC : Hid (∀ W, Below w.heap.size w W → W.cell? ⟨g, 0, none⟩ = some (.slice a1 n1 c1) ∧ W.cell? ⟨g, 1, none⟩ = some (.slice a2 n2 c2) ∧ RdV W a1 n1 xs ∧ RdV W a2 n2 ys) := by
    intro W hW
    have hl := World.block_lt_of_cell? _ _ hg0
    exact ⟨(hW.cell (p := ⟨g, 0, none⟩) hl).trans hg0, (hW.cell (p := ⟨g, 1, none⟩) hl).trans hg1, h1.below hW, h2.below hW⟩
  clear h1 h2
  go_enter Try.func87, Try.ntmps87
  go_wp2
  go_loopw [3, 11] (fun q i wr => ∃ k : Nat, k ≤ 2 ∧ i = .int .i64 k ∧ q = .int .i64 (((if k = 0 then 0 else if k = 1 then n1 else n1 + n2 : Nat)) : Int) ∧ wr = w) (fun _ i _ => 2 - (intOf i).toNat)
  case atStart => exact ⟨0, by omega, rfl, rfl, rfl⟩
  case round =>
    obtain ⟨k, hk, rfl, rfl, hw⟩ := hrel
    have hw' := hw.symm
    clear hw
    subst hw'
    by_cases k0 : k = 0
    · subst k0
      go_wp2
      go_roundw
      case rel => exact ⟨1, by omega, by go_num, by first | go_num | simp, by simp⟩
      case measure => simp [intOf]
    · by_cases k1 : k = 1
      · subst k1
        have i1 : ¬ ((n1 : Int) + (n2 : Int)) < 0 := by omega
        have i1d : decide (((n1 : Int) + (n2 : Int)) < 0) = false := decide_eq_false i1
        go_wp2
        go_roundw
        case rel => exact ⟨2, by omega, by go_num, by first | go_num | simp, by simp⟩
        case measure => simp [intOf]
      · have k2 : k = 2 := by omega
        subst k2
        have HGr : Hid (Calls Try.prog 89 #[.slice none 0 0, .int .i64 ((n1 : Int) + (n2 : Int))] w fun e w' => ∃ c, e = .returned (.slice (some ⟨w.heap.size, 0, none⟩) 0 c) ∧ w'.ownsRow w.heap.size 59 1 (.slice (some ⟨w.heap.size, 0, none⟩) 0 c) 0 [] ∧ Below w.heap.size w w') := by
          have := growN_any (n1 + n2) h0 hn w
          rw [show (((n1 + n2 : Nat)) : Int) = (n1 : Int) + (n2 : Int) by omega] at this
          exact this
        clear hg0 hg1
        go_wp2_with fail
        (with_reducible refine HGr.out.mono ?_)
        rintro e w1 ⟨gc, rfl, ho1, hb1⟩
        have H1 : Hid (w1.ownsRow w.heap.size 59 1 (.slice (some ⟨w.heap.size, 0, none⟩) 0 gc) 0 [] ∧ Below w.heap.size w w1) := ⟨ho1, hb1⟩
        clear ho1 hb1 HGr
        go_wp2
        go_loopw [6, 27] (fun q i wx => ∃ (k nv cv : Nat) (av : Option Addr), k ≤ 2 ∧ i = .int .i64 k ∧ q = .slice av nv cv ∧ nv = (if k = 0 then 0 else if k = 1 then n1 else n1 + n2) ∧ wx.ownsRow w.heap.size 59 1 (.slice av nv cv) nv (if k = 0 then [] else if k = 1 then xs else xs ++ ys) ∧ Below w.heap.size w wx) (fun _ i _ => 2 - (intOf i).toNat)
        case atStart => exact ⟨0, 0, _, _, by omega, rfl, rfl, rfl, H1.out.1, H1.out.2⟩
        case round =>
          obtain ⟨k, nv, cv, av, hk, rfl, rfl, hnv, ho, hb⟩ := hrel
          have HS : Hid (wr.ownsRow w.heap.size 59 1 (.slice av nv cv) nv (if k = 0 then [] else if k = 1 then xs else xs ++ ys) ∧ Below w.heap.size w wr) := ⟨ho, hb⟩
          obtain ⟨y0, y1, r1, r2⟩ := HC.out wr hb
          have HR : Hid (RdV wr a1 n1 xs ∧ RdV wr a2 n2 ys) := ⟨r1, r2⟩
          have hbs := hb.size
          clear ho hb r1 r2
          by_cases k0 : k = 0
          · subst k0
            have e0 : nv = 0 := by simpa using hnv
            subst e0
            clear hnv
            go_wp2_with (at_builtin; refine wpList_append_vN rfl _ _ rfl w.heap.size (.slice av 0 cv) 0 [] rfl HS.out.1 a1 n1 c1 xs rfl HR.out.1 (by omega) hbs ?_)
            intro v' w' ho' hg'
            obtain ⟨av', cv', ev, _⟩ := own_form ho'
            subst ev
            have HX : Hid (w'.ownsRow w.heap.size 59 1 (.slice av' (0 + n1) cv') (0 + n1) xs ∧ Below w.heap.size w w') := ⟨by simpa using ho', HS.out.2.grown hg' hbs (fun g e => (own_lt HS.out.1 g e).1)⟩
            clear ho' hg'
            go_wp2
            go_roundw
            case rel => exact ⟨1, 0 + n1, cv', av', by omega, by go_num, by simp, by simp, HX.out⟩
            case measure => simp [intOf]
          · by_cases k1 : k = 1
            · subst k1
              have e1 : nv = n1 := by simpa using hnv
              subst e1
              clear hnv
              go_wp2_with (at_builtin; refine wpList_append_vN rfl _ _ rfl w.heap.size (.slice av nv cv) nv xs rfl HS.out.1 a2 n2 c2 ys rfl HR.out.2 (by omega) hbs ?_)
              intro v' w' ho' hg'
              obtain ⟨av', cv', ev, _⟩ := own_form ho'
              subst ev
              have HX : Hid (w'.ownsRow w.heap.size 59 1 (.slice av' (nv + n2) cv') (nv + n2) (xs ++ ys) ∧ Below w.heap.size w w') := ⟨ho', HS.out.2.grown hg' hbs (fun g e => (own_lt HS.out.1 g e).1)⟩
              clear ho' hg'
              go_wp2
              go_roundw
              case rel => exact ⟨2, nv + n2, cv', av', by omega, by go_num, rfl, by simp, HX.out⟩
              case measure => simp [intOf]
            · have k2 : k = 2 := by omega
              subst k2
              have e2 : nv = n1 + n2 := by simpa using hnv
              subst e2
              clear hnv
              obtain ⟨av', cv', e, hf⟩ := own_form HS.out.1
              injection e with e1 _ e3
              subst e1 e3
              obtain ⟨gg, rfl, _⟩ := hf (by omega)
              go_wp2
              go_ret
              exact ⟨gg, cv, rfl, by simpa using HS.out.1, HS.out.2⟩

set_option maxHeartbeats 1000000 in
theorem cutN_any (g n c k : Nat) (w : World) (hk : k ≤ n) (hn : n ≤ c) (hkn : k < n) :
    Calls Try.prog 86 #[.slice (some ⟨g, 0, none⟩) n c, .int .i64 (k : Int)] w fun e w' => e = .returned (.tuple #[.slice (some ⟨g, 0, none⟩) k k, .slice (some ⟨g, k, none⟩) (n - k) (c - k)]) ∧ w' = w.drew := by
  have s1 : ∀ W : World, (Instr.sliceAt 94 (.slice (some ⟨g, 0, none⟩) n c) none (some (.int .i64 (k : Int))) (some (.int .i64 (k : Int)))).run Try.prog W = .ok (.slice (some ⟨g, 0, none⟩) k k) W := by
    intro W
    have hkc : k ≤ c := by omega
    simp [Instr.sliceAt, Instr.slice, go_sem, hkc]
  have s2 : ∀ W : World, (Instr.sliceAt 94 (.slice (some ⟨g, 0, none⟩) n c) (some (.int .i64 (k : Int))) none none).run Try.prog W = .ok (.slice (some ⟨g, k, none⟩) (n - k) (c - k)) W := by
    intro W
    have hkc : ¬ c = k := by omega
    simp [Instr.sliceAt, Instr.slice, go_sem, hkc, hk]
  go_enter Try.func86, Try.ntmps86
  go_wp2
  go_region_held3 (fun _ => True) (go_keep) (fail)
  go_wp2
  refine bodyPost_ret (v := .tuple #[.slice (some ⟨g, 0, none⟩) k k, .slice (some ⟨g, k, none⟩) (n - k) (c - k)]) (by simp [results, Try.results86, go_sem]) rfl ⟨rfl, rfl⟩
end Go.Proofs.Ytakemeccigpbaaa

namespace Go.Proofs.Ytakemeccigpbaaa
open Go.RowKit Go.Deep Go.Shelf Go.Lib
set_option linter.unusedVariables false
set_option linter.unusedSimpArgs false
set_option maxRecDepth 100000

/-- What slices.Insert leaves of one more node in a row. -/
def RetIn (w : World) (b n : Nat) (L : List Value) (e : Ending) (w' : World) : Prop :=
  ∃ g c, e = .returned (.slice (some ⟨g, 0, none⟩) (n + 1) c) ∧ (n + 1 ≤ c ∧ c ≤ 9223372036854775807) ∧ g < w'.heap.size ∧ (g = b ∨ w.heap.size ≤ g) ∧ (∀ j v, L[j]? = some v → w'.cell? ⟨g, j, none⟩ = some v) ∧ w.grownBy w' (some b)

theorem info1 : (Try.prog.info? 59).map (·.size) = some 1 := by
  obtain ⟨i0, hi0, h0, h1, h2⟩ := info_parts Try.info59
  rw [hi0]; simp [h1]

/-- At the end of the row. -/
theorem insN_end (B b n c vb : Nat) (xs : List Value) (u : Value) (w : World) (h : w.ownsRow B 59 1 (.slice (some ⟨b, 0, none⟩) n c) n xs) (hvb : w.heap[vb]? = some (.cells #[u] 59 (0, 0))) (hu : u.oneCell' = true) (hn : n ≤ 1000) (hB : B ≤ w.heap.size) :
    Calls Try.prog 130 #[.slice (some ⟨b, 0, none⟩) n c, .int .i64 (n : Int), .slice (some ⟨vb, 0, none⟩) 1 1] w (RetIn w b n (xs ++ [u])) := by
  obtain ⟨i0, hi0, hz0, hz1, hz2⟩ := info_parts Try.info59
  have HI : Hid (Try.prog.info? 59 = some i0 ∧ i0.zero = some .nilIface ∧ i0.size = 1 ∧ i0.bytes = 16) := ⟨hi0, hz0, hz1, hz2⟩
  have hcap := own_cap h
  have HO : Hid (w.ownsRow B 59 1 (.slice (some ⟨b, 0, none⟩) n c) n xs) := h
  have hsl : ∀ W : World, ∃ a', (Instr.sliceAt 94 (.slice (some ⟨b, 0, none⟩) n c) (some (.int .i64 (n : Int))) none none).run Try.prog W = .ok (.slice a' (n - n) (c - n)) W := fun W => ⟨if c = n then some ⟨b, 0, none⟩ else some ⟨b, n, none⟩, by
    have h1 : n ≤ c := hcap.1
    simp [Instr.sliceAt, Instr.slice, go_sem, h1]⟩
  obtain ⟨a', hsl⟩ : ∃ a', ∀ W : World, (Instr.sliceAt 94 (.slice (some ⟨b, 0, none⟩) n c) (some (.int .i64 (n : Int))) none none).run Try.prog W = .ok (.slice a' (n - n) (c - n)) W := ⟨if c = n then some ⟨b, 0, none⟩ else some ⟨b, n, none⟩, fun W => by
    have h1 : n ≤ c := hcap.1
    simp [Instr.sliceAt, Instr.slice, go_sem, h1]⟩
  have HV : Hid (∀ j u', [u][j]? = some u' → w.cell? ⟨vb, 0 + j, none⟩ = some u') := by
    intro j u' hj
    have := Bx.cell (show Bx w vb 59 #[u] from hvb) j
    rw [Nat.zero_add, this]
    simpa using hj
  clear h hi0 hz0 hz1 hz2
  go_enter Try.func130, Try.ntmps130
  go_wp2_with (at_builtin; refine wpList_append_own_at _ rfl _ _ 94 rfl B 59 i0 _ 1 16 Try.underlying94 HI.out.1 HI.out.2.1 HI.out.2.2.1 HI.out.2.2.2 rfl (by decide) (.slice (some ⟨b, 0, none⟩) n c) n xs rfl HO.out ⟨vb, 0, none⟩ 1 1 [u] rfl rfl (fun j u' hj => by rw [Addr.add_lit]; exact HV.out j u' hj) (by intro v hv; simp at hv; subst hv; exact hu) (by unfold maxLen; omega) (by omega) hB ?_)
  intro v' w' ho' hg' _ hat'
  obtain ⟨av, cv, e, hf⟩ := own_form ho'
  subst e
  obtain ⟨g, rfl, hg1, hg2, hg3⟩ := hf (by omega)
  have HX : Hid (RetIn w b n (xs ++ [u]) (.returned (.slice (some ⟨g, 0, none⟩) (n + 1) cv)) w') := by
    refine ⟨g, cv, rfl, own_cap ho', hg2, ?_, hg3, hg'⟩
    rcases hat' with h | h
    · injection h with h
      exact .inl h
    · injection h with h
      exact .inr (by have : g = w.heap.size := h; omega)
  clear ho' hg' hat' hg3
  go_wp2
  go_ret
  exact HX.out

set_option maxHeartbeats 4000000 in
/-- In place: there is room. -/
theorem insN_room (b n c i vb : Nat) (cur : Array Value) (xs : List Value) (u : Value) (w : World) (hb : w.heap[b]? = some (.cells cur 59 (0, 0))) (hcs : cur.size = c) (hx : ∀ j v, xs[j]? = some v → w.cell? ⟨b, j, none⟩ = some v) (hxl : xs.length = n) (h1 : ∀ v ∈ xs, v.oneCell' = true) (hvb : w.heap[vb]? = some (.cells #[u] 59 (0, 0))) (hu : u.oneCell' = true) (hne : vb ≠ b) (hi : i < n) (hroom : n + 1 ≤ c) (hc63 : c ≤ 9223372036854775807) :
    Calls Try.prog 130 #[.slice (some ⟨b, 0, none⟩) n c, .int .i64 (i : Int), .slice (some ⟨vb, 0, none⟩) 1 1] w (RetIn w b n (xs.take i ++ u :: xs.drop i)) := by
  have bx : Bx w b 59 cur := hb
  have vx : Bx w vb 59 #[u] := hvb
  have some_b : ∀ j, j < c → (w.cell? ⟨b, j, none⟩).isSome = true := fun j hj => by rw [bx.cell j, Array.getElem?_eq_getElem (by omega)]; rfl
  have hdl : (xs.drop i).length = n - i := by rw [List.length_drop, hxl]
  have hov : ∀ lb cb, (callFunc 132 #[.slice (some ⟨vb, 0, none⟩) 1 1, .slice (some ⟨b, i + 1, none⟩) lb cb]).run Try.prog w = .ok (.value (.bool false)) w := fun lb cb => by
    rw [run_callFunc_extern Try.func132 (by kernel_rfl) (by kernel_rfl) (by kernel_rfl) (e := Extern.SlicesOverlaps.overlaps #[94, 94] #[4]) (by kernel_rfl),
      Lib.run_overlaps_apart w 94 4 59 Try.underlying94 1 (fun W => by kernel_rfl) ⟨vb, 0, none⟩ ⟨b, i + 1, none⟩ 1 1 lb cb hne 59 59 1 c (by simp [World.shape?, hvb]) (by simp [World.shape?, hb, hcs]) (by omega) (vx.frozen 0) (vx.frozen 1)]
    rfl
  have hcp1 : ∀ ty dc sc, (Builtin.copy_ #[94, 94] ty #[.slice (some ⟨b, i + 1, none⟩) (n - i) dc, .slice (some ⟨b, i, none⟩) (n + 1 - i) sc]).run Try.prog w.drew = .ok (goInt (xs.drop i).length) (w.drew.setCells b (i + 1) (xs.drop i)) := fun ty dc sc =>
    run_copy_cells w.drew _ _ ty 59 b (i + 1) (n - i) dc ⟨b, i, none⟩ (n + 1 - i) sc (xs.drop i) Try.underlying94 info1 (by rw [hdl]; simp only [Nat.min_def]; split <;> omega)
      (fun j v hj => by rw [Addr.add_lit]; exact hx (i + j) v (by rwa [List.getElem?_drop] at hj)) (fun j hj => some_b _ (by omega)) (fun j hj => bx.frozen _) (fun v hv => h1 v (List.mem_of_mem_drop hv))
  obtain ⟨W1, hW1⟩ : ∃ W1, W1 = w.drew.setCells b (i + 1) (xs.drop i) := ⟨_, rfl⟩
  obtain ⟨cur1, e1, e2, e3⟩ := row_sets (xs.drop i) (i + 1) w.drew cur hb (by rw [hdl]; omega)
  rw [← hW1] at e1 hcp1
  have g1 : w.grownBy W1 (some b) := by rw [hW1]; exact grown_trans (⟨rfl, rfl, rfl, Nat.le_refl _, fun _ _ _ => rfl⟩ : w.grownBy w.drew (some b)) (grown_sets b (xs.drop i) (i + 1) w.drew)
  have bx1 : Bx W1 b 59 cur1 := e1
  have vx1 : Bx W1 vb 59 #[u] := vx.grown g1 (fun e => by injection e with e; exact hne e.symm)
  have hcp2 : ∀ (W : World), (∀ x, W.cell? x = W1.cell? x) → (∀ x, W.frozen? x = W1.frozen? x) → ∀ ty dc, (Builtin.copy_ #[94, 94] ty #[.slice (some ⟨b, i, none⟩) (n + 1 - i) dc, .slice (some ⟨vb, 0, none⟩) 1 1]).run Try.prog W = .ok (goInt [u].length) (W.setCells b i [u]) := fun W hWc hWf ty dc =>
    run_copy_cells W _ _ ty 59 b i (n + 1 - i) dc ⟨vb, 0, none⟩ 1 1 [u] Try.underlying94 info1 (by simp only [Nat.min_def, List.length_cons, List.length_nil]; split <;> omega)
      (fun j v hj => by rw [Addr.add_lit, hWc, Nat.zero_add, vx1.cell j]; simpa using hj) (fun j hj => by simp at hj; subst hj; rw [hWc, bx1.cell, Array.getElem?_eq_getElem (by omega)]; rfl) (fun j hj => by rw [hWf]; exact bx1.frozen _) (fun v hv => by simp at hv; subst hv; exact hu)
  have HF : Hid (∀ W : World, W.heap = W1.heap → W.os = W1.os → W.tape = W1.tape → W.output = W1.output → RetIn w b n (xs.take i ++ u :: xs.drop i) (.returned (.slice (some ⟨b, 0, none⟩) (n + 1) c)) (W.setCells b i [u])) := by
    intro W hW w1 w2 w3
    have gW : w.grownBy W (some b) := ⟨w1.trans g1.os, w2.trans g1.tape, w3.trans g1.output, by rw [hW]; exact g1.size, fun k hk hn => by rw [hW]; exact g1.block k hk hn⟩
    obtain ⟨cur2, f1, f2, f3⟩ := row_sets [u] i W cur1 (by rw [hW]; exact e1) (by simp; omega)
    refine ⟨b, c, rfl, ⟨hroom, hc63⟩, (Array.getElem?_eq_some_iff.1 f1).1, .inl rfl, fun j v hj => ?_, grown_trans gW (grown_sets b [u] i W)⟩
    rw [Bx.cell (show Bx _ b 59 cur2 from f1) j, f3 j]
    have hl : (xs.take i).length = i := by rw [List.length_take]; omega
    have hjl := (List.getElem?_eq_some_iff.1 hj).1
    rw [List.length_append, List.length_cons, hl, hdl] at hjl
    by_cases q1 : j < i
    · rw [if_neg (by omega), e3 j, if_neg (by omega)]
      rw [List.getElem?_append_left (by omega), List.getElem?_take, if_pos q1] at hj
      rw [← bx.cell j]
      exact hx j v hj
    · rw [List.getElem?_append_right (by omega), hl] at hj
      by_cases q2 : j = i
      · subst q2
        rw [if_pos (by simp)]
        simpa using hj
      · rw [if_neg (by simp; omega), e3 j, if_pos (by rw [hdl]; omega)]
        rw [show j - i = (j - (i + 1)) + 1 by omega, List.getElem?_cons_succ] at hj
        exact hj
  have z2 : ¬ ((i : Int) = (n : Int)) := by omega
  have y1 : IntKind.i64.wrap ((i : Int) + 1) = (i : Int) + 1 := by rw [IntKind.wrap_i64]; omega
  have y2 : (0 : Int) ≤ (i : Int) + 1 := by omega
  have y3 : i ≤ n := by omega
  have y4 : ((i : Int) + 1).toNat = i + 1 := by omega
  have y5 : ¬ (c = i + 1) := by omega
  have y6 : (i : Int) ≤ (n : Int) + 1 := by omega
  have y7 : ¬ (c = i) := by omega
  have y8 : ¬ (c : Int) < (n : Int) + 1 := by omega
  have y8d : decide ((c : Int) < (n : Int) + 1) = false := decide_eq_false y8
  have mixed : Try.prog.follows .mixedOrders = true := by kernel_rfl
  clear hx h1 some_b e3 bx1 vx1 g1 vx bx
  go_enter Try.func130, Try.ntmps130
  go_wp2_with (simp only [hov])
  go_region_law_o (refine step_copy_runI rfl _ _ 94 94 rfl _ _ (by simp [Act.eval, Act.put]) (by simp [Act.eval, Act.put]) (hcp1 _ _ _) ?_)
  go_wp2_with (at_builtin; refine wpList_copy_runI _ rfl _ _ 94 94 rfl _ _ rfl rfl (hcp2 _ (fun _ => rfl) (fun _ => rfl) _ _) ?_)
  go_ret
  exact HF.out _ (by rw [hW1]) (by rw [hW1]) (by rw [hW1]) (by rw [hW1])

set_option maxHeartbeats 4000000 in
/-- A new row: there is no room. -/
theorem insN_grow (b n c i vb : Nat) (xs : List Value) (u : Value) (w : World) (hb : b < w.heap.size) (hx : ∀ j v, xs[j]? = some v → w.cell? ⟨b, j, none⟩ = some v) (hxl : xs.length = n) (h1 : ∀ v ∈ xs, v.oneCell' = true) (hvb : w.heap[vb]? = some (.cells #[u] 59 (0, 0))) (hu : u.oneCell' = true) (hi : i < n) (hnc : n ≤ c) (hroom : c < n + 1) (hn : n ≤ 1000) :
    Calls Try.prog 130 #[.slice (some ⟨b, 0, none⟩) n c, .int .i64 (i : Int), .slice (some ⟨vb, 0, none⟩) 1 1] w (RetIn w b n (xs.take i ++ u :: xs.drop i)) := by
  have vx : Bx w vb 59 #[u] := hvb
  obtain ⟨i0, hi0, hz0, hzs, hzb⟩ := info_parts Try.info59
  have hdl : (xs.drop i).length = n - i := by rw [List.length_drop, hxl]
  have hold : (Builtin.firstCells i0.size i (.slice (some ⟨b, 0, none⟩) i c)).run Try.prog w.drew = .ok (xs.take i).toArray w.drew := by
    rw [hzs]
    refine run_firstCells_some w.drew 1 i ⟨b, 0, none⟩ i c (xs.take i) (by rw [List.length_take]; omega) (fun j v hj => ?_)
    rw [Addr.add_lit, Nat.zero_add]
    rw [List.getElem?_take] at hj
    split at hj
    · exact hx j v hj
    · cases hj
  obtain ⟨G, hG⟩ : ∃ G, G = grownCap w (n + 1) c 59 := ⟨_, rfl⟩
  obtain ⟨ROW, hROW⟩ : ∃ ROW : Array Value, ROW = (xs.take i).toArray ++ Builtin.zeroCells Value.nilIface.cells (n + 1 - i) ++ Builtin.zeroCells Value.nilIface.cells (G - (n + 1)) := ⟨_, rfl⟩
  have hrz : ∀ ty, (Builtin.append_ #[94, 3] ty #[.slice (some ⟨b, 0, none⟩) i c, .int .i64 ((n : Int) + 1 - (i : Int))]).run Try.prog w = .ok (.slice (some ⟨w.heap.size, 0, none⟩) (n + 1) G) (w.drew.alloc (.cells ROW 59)) := fun ty => by
    have h := Lib.run_append_grow_zeros w 94 3 ty 59 i0 _ .i64 .i64 Try.underlying94 Try.underlying3 hi0 hz0 (some ⟨b, 0, none⟩) i c (xs.take i) hold (n + 1 - i) (by omega) (by omega) (by omega) (by omega) (by rw [hzb]; omega) (by rw [hzb, show i + (n + 1 - i) = n + 1 by omega]; exact growslice_fits hroom (by omega))
    rw [show i + (n + 1 - i) = n + 1 by omega, ← hG, ← hROW, show (((n + 1 - i : Nat)) : Int) = (n : Int) + 1 - (i : Int) by omega] at h
    exact h
  have hGn : n + 1 ≤ G := by rw [hG]; exact grownCap_ge w _ _ _
  have hG63 : G ≤ 9223372036854775807 := by
    have := grownCap_le_maxLen w (n + 1) c 59 (by unfold maxLen; omega)
    rw [← hG] at this
    unfold maxLen at this
    omega
  have hRl : n + 1 ≤ ROW.size := by
    rw [hROW]
    simp [Builtin.zeroCells, Value.cells]
    omega
  have hR0 : ∀ j, j < i → ROW[j]? = xs[j]? := fun j hj => by
    have hl : (xs.take i).toArray.size = i := by simp; omega
    rw [hROW, Array.append_assoc, Array.getElem?_append_left (by omega)]
    simp [List.getElem?_take, hj]
  have nx : Bx (w.drew.alloc (.cells ROW 59)) w.heap.size 59 ROW := blk_alloc_new w.drew _
  have hbA : Below w.heap.size w (w.drew.alloc (.cells ROW 59)) := (Below.refl w.heap.size w).drew.trans (show Below w.heap.size w.drew _ from below_alloc w.drew _)
  generalize w.drew.alloc (.cells ROW 59) = A at hrz nx hbA
  have vA : Bx A vb 59 #[u] := vx.below hbA
  have hcpA : ∀ (W : World), (∀ x, W.cell? x = A.cell? x) → (∀ x, W.frozen? x = A.frozen? x) → ∀ ty dc, (Builtin.copy_ #[94, 94] ty #[.slice (some ⟨w.heap.size, i, none⟩) (n + 1 - i) dc, .slice (some ⟨vb, 0, none⟩) 1 1]).run Try.prog W = .ok (goInt [u].length) (W.setCells w.heap.size i [u]) := fun W hWc hWf ty dc =>
    run_copy_cells W _ _ ty 59 w.heap.size i (n + 1 - i) dc ⟨vb, 0, none⟩ 1 1 [u] Try.underlying94 info1 (by simp only [Nat.min_def, List.length_cons, List.length_nil]; split <;> omega)
      (fun j v hj => by rw [Addr.add_lit, hWc, Nat.zero_add, vA.cell j]; simpa using hj) (fun j hj => by simp at hj; subst hj; rw [hWc, nx.cell, Array.getElem?_eq_getElem (by omega)]; rfl) (fun j hj => by rw [hWf]; exact nx.frozen _) (fun v hv => by simp at hv; subst hv; exact hu)
  obtain ⟨cur1, e1, e2, e3⟩ := row_sets [u] i A ROW nx (by simp; omega)
  obtain ⟨A1, hA1⟩ : ∃ A1, A1 = A.setCells w.heap.size i [u] := ⟨_, rfl⟩
  rw [← hA1] at e1
  have gA1 : Below w.heap.size w A1 := by
    have q := grown_sets w.heap.size [u] i A
    rw [hA1]
    exact hbA.grown q (by have := hbA.size; omega) (fun g e => by injection e with e; omega)
  have bx1 : Bx A1 w.heap.size 59 cur1 := e1
  have hcpB : ∀ (W : World), (∀ x, W.cell? x = A1.cell? x) → (∀ x, W.frozen? x = A1.frozen? x) → ∀ ty dc sc, (Builtin.copy_ #[94, 94] ty #[.slice (some ⟨w.heap.size, i + 1, none⟩) (n - i) dc, .slice (some ⟨b, i, none⟩) (n - i) sc]).run Try.prog W = .ok (goInt (xs.drop i).length) (W.setCells w.heap.size (i + 1) (xs.drop i)) := fun W hWc hWf ty dc sc =>
    run_copy_cells W _ _ ty 59 w.heap.size (i + 1) (n - i) dc ⟨b, i, none⟩ (n - i) sc (xs.drop i) Try.underlying94 info1 (by rw [hdl]; simp only [Nat.min_def]; split <;> omega)
      (fun j v hj => by rw [Addr.add_lit, hWc, gA1.cell (p := ⟨b, i + j, none⟩) hb]; exact hx (i + j) v (by rwa [List.getElem?_drop] at hj))
      (fun j hj => by rw [hWc, bx1.cell, Array.getElem?_eq_getElem (by omega)]; rfl) (fun j hj => by rw [hWf]; exact bx1.frozen _) (fun v hv => h1 v (List.mem_of_mem_drop hv))
  have HF : Hid (∀ W : World, W.heap = A1.heap → W.os = A1.os → W.tape = A1.tape → W.output = A1.output → RetIn w b n (xs.take i ++ u :: xs.drop i) (.returned (.slice (some ⟨w.heap.size, 0, none⟩) (n + 1) G)) (W.setCells w.heap.size (i + 1) (xs.drop i))) := by
    intro W hW w1 w2 w3
    have gW : Below w.heap.size w W := ⟨w1.trans gA1.os, w2.trans gA1.tape, w3.trans gA1.output, by rw [hW]; exact gA1.size, fun k hk => by rw [hW]; exact gA1.block k hk⟩
    obtain ⟨cur2, f1, f2, f3⟩ := row_sets (xs.drop i) (i + 1) W cur1 (by rw [hW]; exact e1) (by rw [hdl]; omega)
    have gF := gW.grown (grown_sets w.heap.size (xs.drop i) (i + 1) W) (by have := gW.size; omega) (fun g e => by injection e with e; omega)
    refine ⟨w.heap.size, G, rfl, ⟨hGn, hG63⟩, (Array.getElem?_eq_some_iff.1 f1).1, .inr (Nat.le_refl _), fun j v hj => ?_, ⟨gF.os, gF.tape, gF.output, gF.size, fun k hk _ => gF.block k hk⟩⟩
    rw [Bx.cell (show Bx _ w.heap.size 59 cur2 from f1) j, f3 j]
    have hl : (xs.take i).length = i := by rw [List.length_take]; omega
    have hjl := (List.getElem?_eq_some_iff.1 hj).1
    rw [List.length_append, List.length_cons, hl, hdl] at hjl
    by_cases q1 : j < i
    · rw [if_neg (by omega), e3 j, if_neg (by omega), hR0 j q1]
      rw [List.getElem?_append_left (by omega), List.getElem?_take, if_pos q1] at hj
      exact hj
    · rw [List.getElem?_append_right (by omega), hl] at hj
      by_cases q2 : j = i
      · subst q2
        rw [if_neg (by omega), e3 j, if_pos (by simp)]
        simpa using hj
      · rw [if_pos (by rw [hdl]; omega)]
        rw [show j - i = (j - (i + 1)) + 1 by omega, List.getElem?_cons_succ] at hj
        exact hj
  have z2 : ¬ ((i : Int) = (n : Int)) := by omega
  have y1 : IntKind.i64.wrap ((i : Int) + 1) = (i : Int) + 1 := by rw [IntKind.wrap_i64]; omega
  have y2 : (0 : Int) ≤ (i : Int) + 1 := by omega
  have y3 : i ≤ n := by omega
  have y3b : i ≤ n + 1 := by omega
  have y4 : ((i : Int) + 1).toNat = i + 1 := by omega
  have y6 : (i : Int) ≤ (n : Int) := by omega
  have y6b : (i : Int) ≤ (n : Int) + 1 := by omega
  have y7 : ¬ (c = i) := by omega
  have yG : ¬ (G = i) := by omega
  have yG1 : ¬ (G = i + 1) := by omega
  have y8 : (c : Int) < (n : Int) + 1 := by omega
  have y8d : decide ((c : Int) < (n : Int) + 1) = true := decide_eq_true y8
  have mixed : Try.prog.follows .mixedOrders = true := by kernel_rfl
  rw [hA1] at hcpB HF
  have hcpB' := hcpB (A.setCells w.heap.size i [u]).drew (fun _ => rfl) (fun _ => rfl)
  clear hx h1 e3 bx1 gA1 vA vx nx hbA hR0 hold hROW hRl hA1 e1 hi0 hz0 hzs hzb hG
  go_enter Try.func130, Try.ntmps130
  go_wp2_with (first
    | (at_builtin; refine Lib.wpList_append_run _ rfl _ _ _ _ rfl _ _ rfl rfl _ _ (hrz _) ?_)
    | (at_builtin; refine wpList_copy_runI _ rfl _ _ 94 94 rfl _ _ rfl rfl (hcpA _ (fun _ => rfl) (fun _ => rfl) _ _) ?_))
  go_region_law_o (refine step_copy_runI rfl _ _ 94 94 rfl (.slice (some ⟨w.heap.size, i + 1, none⟩) (n - i) (G - (i + 1))) (.slice (some ⟨b, i, none⟩) (n - i) (c - i)) (by simp [Act.eval, Act.put]) (by simp [Act.eval, Act.put]) (hcpB' 3 (G - (i + 1)) (c - i)) ?_)
  go_wp2
  go_ret
  exact HF.out _ rfl rfl rfl rfl

theorem insN_any (B b n c i vb : Nat) (xs : List Value) (u : Value) (w : World) (h : w.ownsRow B 59 1 (.slice (some ⟨b, 0, none⟩) n c) n xs) (h1 : ∀ v ∈ xs, v.oneCell' = true) (hvb : w.heap[vb]? = some (.cells #[u] 59 (0, 0))) (hu : u.oneCell' = true) (hne : vb ≠ b) (hi : i ≤ n) (hn : n ≤ 1000) (hB : B ≤ w.heap.size) :
    Calls Try.prog 130 #[.slice (some ⟨b, 0, none⟩) n c, .int .i64 (i : Int), .slice (some ⟨vb, 0, none⟩) 1 1] w (RetIn w b n (xs.take i ++ u :: xs.drop i)) := by
  have hxl : xs.length = n := by have := h.1; omega
  by_cases e : i = n
  · subst e
    rw [List.take_of_length_le (by omega), List.drop_of_length_le (by omega)]
    exact insN_end B b i c vb xs u w h hvb hu hn hB
  · have hcap := own_cap h
    have hx : ∀ j v, xs[j]? = some v → w.cell? ⟨b, j, none⟩ = some v := by
      intro j v hj
      have hjl := (List.getElem?_eq_some_iff.1 hj).1
      rw [h.cellAt j (by omega)]
      exact hj
    by_cases hr : n + 1 ≤ c
    · rcases h.2 with ⟨q, q0⟩ | ⟨g, cap, cur, q1, q2, q3, q4, q5, q6, q7⟩
      · omega
      · injection q1 with q1 _ q8
        injection q1 with q1
        injection q1 with q1
        subst q1 q8
        exact insN_room b n c i vb cur xs u w q3 (by omega) hx hxl h1 hvb hu hne (by omega) hr hcap.2
    · exact insN_grow b n c i vb xs u w (own_lt h b rfl).2 hx hxl h1 hvb hu (by omega) hcap.1 (by omega) hn
end Go.Proofs.Ytakemeccigpbaaa

namespace Go.Proofs.Ytakemeccigpbaaa
open Go.RowKit Go.Deep
set_option linter.unusedVariables false
set_option maxRecDepth 100000

/-- Cells that can be read, in a block of which S holds. -/
def RdO (S : Nat → Prop) (w : World) (a : Option Addr) (n : Nat) (f : Nat → Value) : Prop :=
  n = 0 ∨ ∃ b o, a = some ⟨b, o, none⟩ ∧ S b ∧ b < w.heap.size ∧ ∀ i, i < n → w.cell? ⟨b, o + i, none⟩ = some (f i)
theorem RdO.keep {S S' : Nat → Prop} {w w' : World} {a : Option Addr} {n : Nat} {f : Nat → Value} (h : RdO S w a n f) (hz : w.heap.size ≤ w'.heap.size) (hS : ∀ b, S b → b < w.heap.size → S' b ∧ w'.heap[b]? = w.heap[b]?) : RdO S' w' a n f := by
  rcases h with h | ⟨b, o, rfl, hs, hb, hc⟩
  · exact Or.inl h
  · obtain ⟨q1, q2⟩ := hS b hs hb
    exact Or.inr ⟨b, o, rfl, q1, by omega, fun i hi => by rw [World.cell?_of_block (a := ⟨b, o + i, none⟩) q2]; exact hc i hi⟩
theorem RdO.rdS {S : Nat → Prop} {w : World} {a : Option Addr} {n : Nat} {X : Nat → ByteArray} (h : RdO S w a n (fun i => .string (X i))) : RdS w a n X := by
  rcases h with h | ⟨b, o, rfl, _, _, hc⟩
  · exact Or.inl h
  · exact Or.inr ⟨b, o, rfl, hc⟩

/-- The program's node v is the tree t; its rows may begin anywhere in their blocks, of which S holds. -/
def TAo (S : Nat → Prop) (w : World) : (d : Nat) → Ro d → Value → Prop
  | 0, _, _ => False
  | d + 1, .inl t, v => ∃ b ka kc, v = .iface 53 (.pointer (some ⟨b, 0, none⟩)) ∧ S b ∧ Bx w b 57 #[.int .i64 (t.length : Int), .slice ka t.length kc] ∧ (t.length ≤ kc ∧ kc ≤ 9223372036854775807) ∧ RdO S w ka t.length (fun i => .string (gt t i))
  | d + 1, .inr l, v => ∃ (b g o kc : Nat) (xs : List Value), v = .iface 91 (.pointer (some ⟨b, 0, none⟩)) ∧ S b ∧ Bx w b 96 #[.int .i64 ((l.flatMap (keysR d)).length : Int), .slice (some ⟨g, o, none⟩) l.length kc] ∧ (S g ∧ g ≠ b) ∧ (g < w.heap.size ∧ l.length ≤ kc ∧ kc ≤ 9223372036854775807) ∧ 0 < l.length ∧ (∀ j u, xs[j]? = some u → w.cell? ⟨g, o + j, none⟩ = some u) ∧
      ∀ k (h : k < l.length), ∃ u, xs[k]? = some u ∧ TAo S w d l[k] u

theorem TAo.keep {S S' : Nat → Prop} {w w' : World} (hz : w.heap.size ≤ w'.heap.size) (hS : ∀ b, S b → b < w.heap.size → S' b ∧ w'.heap[b]? = w.heap[b]?) : ∀ {d : Nat} {t : Ro d} {v : Value}, TAo S w d t v → TAo S' w' d t v
  | 0, _, _, h => h
  | d + 1, .inl t, v, h => by
    obtain ⟨b, ka, kc, rfl, hs, hx, hc, hr⟩ := h
    obtain ⟨q1, q2⟩ := hS b hs hx.lt
    exact ⟨b, ka, kc, rfl, q1, hx.of_block q2, hc, hr.keep hz hS⟩
  | d + 1, .inr l, v, h => by
    obtain ⟨b, g, o, kc, xs, rfl, hs, hx, ⟨hg, hgb⟩, hl, h0, hc, hk⟩ := h
    obtain ⟨q1, q2⟩ := hS b hs hx.lt
    obtain ⟨q3, q4⟩ := hS g hg hl.1
    refine ⟨b, g, o, kc, xs, rfl, q1, hx.of_block q2, ⟨q3, hgb⟩, ⟨by omega, hl.2⟩, h0, fun j u hj => (World.cell?_of_block (a := ⟨g, o + j, none⟩) q4).trans (hc j u hj), fun k h => ?_⟩
    obtain ⟨u, e, ht⟩ := hk k h
    exact ⟨u, e, TAo.keep hz hS ht⟩

theorem TAo.below {S : Nat → Prop} {w w' : World} {d : Nat} {t : Ro d} {v : Value} (h : TAo S w d t v) (hb : Below w.heap.size w w') : TAo S w' d t v :=
  TAo.keep hb.size (fun b hs hl => ⟨hs, hb.block b hl⟩) h
theorem TAo.wide {S S' : Nat → Prop} {w : World} {d : Nat} {t : Ro d} {v : Value} (h : TAo S w d t v) (hS : ∀ b, S b → b < w.heap.size → S' b) : TAo S' w d t v :=
  TAo.keep (Nat.le_refl _) (fun b hs hl => ⟨hS b hs hl, rfl⟩) h

theorem TOw.tao {B : Nat} {w : World} : ∀ {d : Nat} {t : Ro d} {v : Value} {bs : List Nat}, TOw B w d t v bs → bs.Nodup → TAo (fun b => b ∈ bs) w d t v
  | 0, _, _, _, h, _ => h.elim
  | d + 1, .inl t, v, bs, h, hd => by
    obtain ⟨b, ka, kc, rfl, hB, hx, ho, rfl⟩ := h
    refine ⟨b, ka, kc, rfl, by simp, hx, own_cap ho, ?_⟩
    rcases ho.2 with ⟨q, q0⟩ | ⟨g, cap, cur, q1, q2, q3, q4⟩
    · exact .inl q0
    · injection q1 with q1 _ q5
      subst q1 q5
      refine .inr ⟨g, 0, rfl, by simp, (own_lt ho g rfl).2, fun i hi => ?_⟩
      rw [Nat.zero_add, ho.cellAt i (by omega), strL_get t i hi]
  | d + 1, .inr l, v, bs, h, hd => by
    obtain ⟨b, g, kc, xs, bss, rfl, hB, hx, ho, hl, hbl, rfl, hall⟩ := h
    have hc := own_cap ho
    rw [List.nodup_cons, List.nodup_cons] at hd
    refine ⟨b, g, 0, kc, xs, rfl, by simp, hx, ⟨by simp, fun e => hd.1 (by rw [e]; simp)⟩, ⟨(own_lt ho g rfl).2, hc.1, hc.2⟩, hl, fun j u hj => ?_, fun k h => ?_⟩
    · have hjl := (List.getElem?_eq_some_iff.1 hj).1
      rw [ho.1] at hjl
      rw [Nat.zero_add, ho.cellAt j hjl]
      exact hj
    · obtain ⟨u, us, e1, e2, e3⟩ := hall k h
      have hm : us ∈ bss := List.mem_of_getElem? e2
      refine ⟨u, e1, TAo.wide (TOw.tao e3 ?_) (fun b' hb' _ => ?_)⟩
      · exact (List.pairwise_flatten.1 hd.2.2).1 us hm
      · simp only [List.mem_cons, List.mem_flatten]
        exact .inr (.inr ⟨us, hm, hb'⟩)

theorem TAo.count {S : Nat → Prop} {w : World} : ∀ {d : Nat} {t : Ro d} {v : Value}, TAo S w d t v → ∃ b, S b ∧ b < w.heap.size ∧ w.cell? ⟨b, 0, none⟩ = some (.int .i64 ((keysR d t).length : Int)) ∧ (v = .iface 53 (.pointer (some ⟨b, 0, none⟩)) ∨ v = .iface 91 (.pointer (some ⟨b, 0, none⟩)))
  | 0, _, _, h => h.elim
  | d + 1, .inl t, v, h => by
    obtain ⟨b, ka, kc, rfl, hb, hx, hr⟩ := h
    exact ⟨b, hb, hx.lt, by rw [hx.cell 0]; rfl, Or.inl rfl⟩
  | d + 1, .inr l, v, h => by
    obtain ⟨b, g, o, kc, xs, rfl, hb, hx, _⟩ := h
    exact ⟨b, hb, hx.lt, by rw [hx.cell 0]; rfl, Or.inr rfl⟩

set_option maxHeartbeats 1000000 in
theorem leastO_any : ∀ (d : Nat) (l : List (Ro d)) (S : Nat → Prop) (b : Nat) (h : Nat) (w : World), TAo S w (d + 1) (.inr l) (.iface 91 (.pointer (some ⟨b, 0, none⟩))) → (∀ t, t ∈ l → BalR d false t h) →
    Calls Try.prog 124 #[.pointer (some ⟨b, 0, none⟩)] w fun e w' => e = .returned (.string (gt (l.flatMap (keysR d)) 0)) ∧ w' = w := by
  intro d
  induction d with
  | zero =>
    intro l S b h w ht hb
    obtain ⟨b', g, o, kc, xs, e, _, _, _, _, hl, _, hk⟩ := ht
    obtain ⟨u, _, q⟩ := hk 0 hl
    exact q.elim
  | succ d ih =>
    intro l S b h w ht hb
    obtain ⟨b', g, o, kc, xs, e, _, hx, _, _, hl, hc, hk⟩ := ht
    injection e with _ e
    injection e with e
    injection e with e
    injection e with e
    subst e
    obtain ⟨u, hu, hut⟩ := hk 0 hl
    have hpos := bal_pos (hb l[0] (List.getElem_mem hl))
    rw [head_flat hl hpos]
    have c1 := hx.cell 1
    simp at c1
    have c2 := hc 0 u hu
    rw [Nat.add_zero] at c2
    have hb0 := hb l[0] (List.getElem_mem hl)
    have hlI : (0 : Int) < (l.length : Int) := by omega
    clear hx hc hk hu
    generalize l[0] = t0 at *
    generalize l.length = ln at c1 hlI
    clear hl
    rcases t0 with t0 | l0
    · obtain ⟨b0, ka0, kc0, rfl, _, hx0, _, hr0⟩ := hut
      have HL : Hid (Calls Try.prog 107 #[.pointer (some ⟨b0, 0, none⟩)] w fun e w' => e = .returned (.string (gt t0 0)) ∧ w' = w) := leastLeaf_any b0 t0.length kc0 ka0 _ (gt t0) w hx0 hr0.rdS hpos
      clear hx0 hr0 ih hb hb0 hpos
      go_enter Try.func124, Try.ntmps124
      go_wp2_with fail
      refine HL.out.mono ?_
      rintro e w1 ⟨rfl, rfl⟩
      go_wp2
      go_ret
      exact ⟨rfl, rfl⟩
    · obtain ⟨h2, h4, h', _, hall⟩ := hb0
      have hut2 := hut
      obtain ⟨b0, g0, o0, kc0, xs0, rfl, _⟩ := hut2
      have HL : Hid (Calls Try.prog 124 #[.pointer (some ⟨b0, 0, none⟩)] w fun e w' => e = .returned (.string (gt (l0.flatMap (keysR d)) 0)) ∧ w' = w) := ih l0 S b0 h' w hut hall
      clear ih hut hall hpos hb
      go_enter Try.func124, Try.ntmps124
      go_wp2_with fail
      refine HL.out.mono ?_
      rintro e w1 ⟨rfl, rfl⟩
      go_wp2
      go_ret
      exact ⟨rfl, rfl⟩

set_option maxHeartbeats 1000000 in
theorem recountO_any (d b g o ln kc : Nat) (l : List (Ro d)) (x : Int) (xs : List Value) (w : World) (h : Bx w b 96 #[.int .i64 x, .slice (some ⟨g, o, none⟩) ln kc]) (hln : ln = l.length) (hl5 : ln ≤ 5000) (hlen : (l.flatMap (keysR d)).length ≤ 1099511627776)
    (hc : ∀ j u, xs[j]? = some u → w.cell? ⟨g, o + j, none⟩ = some u) (hg : g ≠ b) (hk : ∀ k (h : k < l.length), ∃ u bb, xs[k]? = some u ∧ bb ≠ b ∧ w.cell? ⟨bb, 0, none⟩ = some (.int .i64 ((keysR d l[k]).length : Int)) ∧ (u = .iface 53 (.pointer (some ⟨bb, 0, none⟩)) ∨ u = .iface 91 (.pointer (some ⟨bb, 0, none⟩)))) :
    Calls Try.prog 57 #[.pointer (some ⟨b, 0, none⟩)] w fun e w' => e = .returned (.tuple #[]) ∧ w.grownBy w' (some b) ∧ w'.heap.size = w.heap.size ∧ Bx w' b 96 #[.int .i64 ((l.flatMap (keysR d)).length : Int), .slice (some ⟨g, o, none⟩) ln kc] := by
  have HK : Hid (∀ W : World, w.grownBy W (some b) → ∀ k (h : k < l.length), ∃ u bb, W.cell? ⟨g, o + k, none⟩ = some u ∧ bb ≠ b ∧ W.cell? ⟨bb, 0, none⟩ = some (.int .i64 ((keysR d l[k]).length : Int)) ∧ (u = .iface 53 (.pointer (some ⟨bb, 0, none⟩)) ∨ u = .iface 91 (.pointer (some ⟨bb, 0, none⟩)))) := by
    intro W hW k hkl
    obtain ⟨u, bb, hu, hne, hb3, hb4⟩ := hk k hkl
    exact ⟨u, bb, hW.cell (hc k u hu) (fun e => by injection e with e; exact hg e), hne, hW.cell hb3 (fun e => by injection e with e; exact hne e), hb4⟩
  have HLn : Hid (ln = l.length ∧ (l.flatMap (keysR d)).length ≤ 1099511627776) := ⟨hln, hlen⟩
  have c1 := h.cell 1
  have c0 := h.cell 0
  have f0 := h.frozen 0
  have hlt := h.lt
  simp at c0 c1
  have H0 : Hid (w.grownBy (w.setCell ⟨b, 0, none⟩ (.int .i64 0)) (some b) ∧ Bx (w.setCell ⟨b, 0, none⟩ (.int .i64 0)) b 96 #[.int .i64 0, .slice (some ⟨g, o, none⟩) ln kc]) := by
    refine ⟨⟨rfl, rfl, rfl, by simp [World.setCell], fun k hk hne => Below.heap_setCell _ _ _ _ (fun e => hne (by rw [e]))⟩, h.set 0 _⟩
  clear h hc hk hln hlen
  go_enter Try.func57, Try.ntmps57
  go_wp2
  go_loopw [13] (fun i wr => ∃ k : Nat, k ≤ ln ∧ i = .int .i64 k ∧ w.grownBy wr (some b) ∧ wr.heap.size = w.heap.size ∧ Bx wr b 96 #[.int .i64 (((l.take k).flatMap (keysR d)).length : Int), .slice (some ⟨g, o, none⟩) ln kc]) (fun i _ => ln - (intOf i).toNat)
  case atStart => exact ⟨0, Nat.zero_le _, rfl, H0.out.1, by simp [World.setCell], by simpa using H0.out.2⟩
  case round =>
    obtain ⟨k, hkl, rfl, hgr, hsz, hbx⟩ := hrel
    clear H0 c0 c1 f0
    have HG : Hid (w.grownBy wr (some b) ∧ wr.heap.size = w.heap.size ∧ Bx wr b 96 #[.int .i64 (((l.take k).flatMap (keysR d)).length : Int), .slice (some ⟨g, o, none⟩) ln kc]) := ⟨hgr, hsz, hbx⟩
    obtain ⟨A, hA⟩ : ∃ A : Int, A = (((l.take k).flatMap (keysR d)).length : Int) := ⟨_, rfl⟩
    rw [← hA] at hbx
    have c0 := hbx.cell 0
    have f0 := hbx.frozen 0
    have hlt2 := hbx.lt
    simp at c0
    clear hgr hsz hbx
    by_cases hlt : k < ln
    · have hlk : k < l.length := by rw [← HLn.out.1]; exact hlt
      obtain ⟨u, bb, hu, hne, hcc, hform⟩ := HK.out wr HG.out.1 k hlk
      have e12 := flat_len_take l k hlk
      have hle := flat_take_le (keysR d) l (k + 1)
      have hL := HLn.out.2
      obtain ⟨C, hC⟩ : ∃ C : Int, C = ((keysR d l[k]).length : Int) := ⟨_, rfl⟩
      have hA0 : 0 ≤ A ∧ A ≤ 1099511627776 := by omega
      have hC0 : 0 ≤ C ∧ C ≤ 1099511627776 := by omega
      rw [← hC] at hcc
      have HS : Hid ((((l.take (k + 1)).flatMap (keysR d)).length : Int) = A + C) := by
        show (((l.take (k + 1)).flatMap (keysR d)).length : Int) = A + C
        rw [e12, hA, hC]
        omega
      have HX : Hid (w.grownBy (wr.drew.setCell ⟨b, 0, none⟩ (.int .i64 (A + C))) (some b) ∧ (wr.drew.setCell ⟨b, 0, none⟩ (.int .i64 (A + C))).heap.size = w.heap.size ∧ Bx (wr.drew.setCell ⟨b, 0, none⟩ (.int .i64 (A + C))) b 96 #[.int .i64 (((l.take (k + 1)).flatMap (keysR d)).length : Int), .slice (some ⟨g, o, none⟩) ln kc]) := by
        obtain ⟨q1, q2, q3⟩ := HG.out
        have hs : (wr.drew.setCell ⟨b, 0, none⟩ (.int .i64 (A + C))).heap.size = wr.heap.size := Eq.trans (show (wr.drew.setCell ⟨b, 0, none⟩ (.int .i64 (A + C))).heap.size = wr.drew.heap.size by simp [World.setCell]) rfl
        refine ⟨⟨q1.os, q1.tape, q1.output, by rw [hs]; exact q1.size, fun k hk hne => ?_⟩, by rw [hs]; exact q2, ?_⟩
        · rw [Below.heap_setCell _ _ _ _ (fun e => hne (by rw [e]))]
          exact q1.block k hk hne
        · rw [HS.out]
          exact q3.drew.set 0 _
      clear hA hC e12 hle hL
      rcases hform with rfl | rfl
      · have HB : Hid (∀ W : World, W.cell? ⟨bb, 0, none⟩ = some (.int .i64 C) → Calls Try.prog 83 #[.pointer (some ⟨bb, 0, none⟩)] W fun e w' => e = .returned (.int .i64 C) ∧ w' = W) := fun W hW => below_any bb C W hW
        go_wp2
        go_region_with (go_at_call 83; refine (HB.out _ (by simpa using hcc)).mono ?_; rintro e w2 ⟨rfl, rfl⟩)
        all_goals
          go_wp2
          go_roundw
          case rel => exact ⟨k + 1, by omega, by go_num, HX.out⟩
          case measure => simp [intOf]; omega
      · have HB : Hid (∀ W : World, W.cell? ⟨bb, 0, none⟩ = some (.int .i64 C) → Calls Try.prog 83 #[.pointer (some ⟨bb, 0, none⟩)] W fun e w' => e = .returned (.int .i64 C) ∧ w' = W) := fun W hW => below_any bb C W hW
        go_wp2
        go_region_with (go_at_call 83; refine (HB.out _ (by simpa using hcc)).mono ?_; rintro e w2 ⟨rfl, rfl⟩)
        all_goals
          go_wp2
          go_roundw
          case rel => exact ⟨k + 1, by omega, by go_num, HX.out⟩
          case measure => simp [intOf]; omega
    · have e : k = ln := by omega
      subst e
      have HE : Hid ((l.take k).flatMap (keysR d) = l.flatMap (keysR d)) := by
        show (l.take k).flatMap (keysR d) = l.flatMap (keysR d)
        rw [HLn.out.1, List.take_length]
      go_wp2
      go_end0
      refine ⟨rfl, HG.out.1, HG.out.2.1, ?_⟩
      have q := HG.out.2.2
      rw [HE.out] at q
      exact q
end Go.Proofs.Ytakemeccigpbaaa

namespace Go.Proofs.Ytakemeccigpbaaa
open Go.RowKit Go.Deep
set_option linter.unusedVariables false
set_option maxRecDepth 100000

theorem step_t2 {ops : Array Oper} {o : Oper} {a : Act} {w : World} {K : Act → World → Prop} {Q : Exit → Act → World → Prop} {E : Prop} (hgd : o.guard = none) (k : Nat) (i j : Nat) (tys : Array TypeId)
    (ho : o.op = .call { callee := .value (.func k), args := #[.tmp i, .tmp j], argTypes := tys }) (u v : Value) (hx : a.tmps[i]?.getD undef = u) (hy : a.tmps[j]?.getD undef = v) (heg : ∀ args w, (callFunc k args).run Try.prog w = .ok (.enter k args) w)
    (h : Calls Try.prog k #[u, v] w fun e w' => ∃ r, e = .returned r ∧ K (a.put o.dst r) w') :
    if Region.wanted o (yielded ops a.tmps) = true then Oper.wp Try.prog o a w K Q else E := by
  have hw : Region.wanted o (yielded ops a.tmps) = true := by simp [Region.wanted, hgd]
  rw [if_pos hw]
  unfold Oper.wp
  simp [execOp, ho, resolve, invoke, hx, hy, go_sem, heg]
  refine h.mono ?_
  rintro e w' ⟨u, rfl, hk⟩
  exact hk

theorem ta1 (p : Value) (W : World) : (Instr.typeAssert (.iface 53 p) 59 53 true).run Try.prog W = .ok (.tuple #[p, .bool true]) W := by kernel_rfl
theorem ta2 (p : Value) (W : World) : (Instr.typeAssert (.iface 53 p) 59 53 false).run Try.prog W = .ok p W := by kernel_rfl
theorem ta3 (p : Value) (W : World) : (Instr.typeAssert (.iface 91 p) 59 53 true).run Try.prog W = .ok (.tuple #[.pointer none, .bool false]) W := by kernel_rfl
theorem ta4 (p : Value) (W : World) : (Instr.typeAssert (.iface 91 p) 59 91 true).run Try.prog W = .ok (.tuple #[p, .bool true]) W := by kernel_rfl
theorem ta5 (p : Value) (W : World) : (Instr.typeAssert (.iface 91 p) 59 91 false).run Try.prog W = .ok p W := by kernel_rfl

/-- Nothing but these two of the old blocks has turned. -/
def Fr2 (w w' : World) (b r : Nat) : Prop := w'.os = w.os ∧ w'.tape = w.tape ∧ w'.output = w.output ∧ w.heap.size ≤ w'.heap.size ∧ ∀ k, k < w.heap.size → k ≠ b → k ≠ r → w'.heap[k]? = w.heap[k]?

theorem fr2_set2 (w : World) (b r i j : Nat) (v u : Value) : Fr2 w ((w.setCell ⟨b, i, none⟩ v).setCell ⟨r, j, none⟩ u) b r :=
  ⟨rfl, rfl, rfl, by simp [World.setCell], fun k _ h1 h2 => by rw [Below.heap_setCell _ _ _ _ (show k ≠ r from h2), Below.heap_setCell _ _ _ _ (show k ≠ b from h1)]⟩
theorem Fr2.trans {w w1 w2 : World} {b r : Nat} (h : Fr2 w w1 b r) (k : Fr2 w1 w2 b r) : Fr2 w w2 b r :=
  ⟨k.1.trans h.1, k.2.1.trans h.2.1, k.2.2.1.trans h.2.2.1, Nat.le_trans h.2.2.2.1 k.2.2.2.1, fun i hi h1 h2 => (k.2.2.2.2 i (Nat.lt_of_lt_of_le hi h.2.2.2.1) h1 h2).trans (h.2.2.2.2 i hi h1 h2)⟩
theorem fr2_of {w w' : World} (b r : Nat) (h : Below w.heap.size w w') : Fr2 w w' b r := ⟨h.os, h.tape, h.output, h.size, fun k hk _ _ => h.block k hk⟩

theorem dealLeaf_end (d : Nat) {b r n1 n2 st gg cc : Nat} {L : List ByteArray} {zs : List Value} {W w3 W4 : World} {x0 y0 : Int} (hz : zs = strL L) (hn : n1 + n2 = L.length) (hbr : b ≠ r) (hbW : b < W.heap.size) (hrW : r < W.heap.size) (hst : st < n1 + n2) (hb3 : Below W.heap.size W w3) (ho : w3.ownsRow (W.heap.size + 1) 9 1 (.slice (some ⟨gg, 0, none⟩) (n1 + n2) cc) (n1 + n2) zs) (hf : Fr2 w3 W4 b r) (x1 : Bx W4 b 57 #[.int .i64 x0, .slice (some ⟨gg, 0, none⟩) st st]) (x2 : Bx W4 r 57 #[.int .i64 y0, .slice (some ⟨gg, st, none⟩) (n1 + n2 - st) (cc - st)]) :
    Ending.returned (.tuple #[]) = .returned (.tuple #[]) ∧ Fr2 W ((W4.setCell ⟨b, 0, none⟩ (.int .i64 (st : Int))).setCell ⟨r, 0, none⟩ (.int .i64 ((n1 + n2 - st : Nat) : Int))) b r ∧ TAo (fun x => x = b ∨ W.heap.size ≤ x) ((W4.setCell ⟨b, 0, none⟩ (.int .i64 (st : Int))).setCell ⟨r, 0, none⟩ (.int .i64 ((n1 + n2 - st : Nat) : Int))) (d + 1) (.inl (L.take st)) (.iface 53 (.pointer (some ⟨b, 0, none⟩))) ∧ TAo (fun x => x = r ∨ W.heap.size ≤ x) ((W4.setCell ⟨b, 0, none⟩ (.int .i64 (st : Int))).setCell ⟨r, 0, none⟩ (.int .i64 ((n1 + n2 - st : Nat) : Int))) (d + 1) (.inl (L.drop st)) (.iface 53 (.pointer (some ⟨r, 0, none⟩))) := by
  have hcap := own_cap ho
  have hgl := own_lt ho gg rfl
  have f2 := fr2_set2 W4 b r 0 0 (.int .i64 (st : Int)) (.int .i64 ((n1 + n2 - st : Nat) : Int))
  have ft := hf.trans f2
  have y1 : Bx ((W4.setCell ⟨b, 0, none⟩ (.int .i64 (st : Int))).setCell ⟨r, 0, none⟩ (.int .i64 ((n1 + n2 - st : Nat) : Int))) b 57 #[.int .i64 (st : Int), .slice (some ⟨gg, 0, none⟩) st st] := by
    have q := (x1.set 0 (.int .i64 (st : Int))).other (p := ⟨r, 0, none⟩) hbr (.int .i64 ((n1 + n2 - st : Nat) : Int))
    simpa using q
  have y2 : Bx ((W4.setCell ⟨b, 0, none⟩ (.int .i64 (st : Int))).setCell ⟨r, 0, none⟩ (.int .i64 ((n1 + n2 - st : Nat) : Int))) r 57 #[.int .i64 ((n1 + n2 - st : Nat) : Int), .slice (some ⟨gg, st, none⟩) (n1 + n2 - st) (cc - st)] := by
    have q := (x2.other (p := ⟨b, 0, none⟩) hbr.symm (.int .i64 (st : Int))).set 0 (.int .i64 ((n1 + n2 - st : Nat) : Int))
    simpa using q
  generalize (W4.setCell ⟨b, 0, none⟩ (.int .i64 (st : Int))).setCell ⟨r, 0, none⟩ (.int .i64 ((n1 + n2 - st : Nat) : Int)) = W6 at *
  have hs3 := hb3.size
  have hs6 := ft.2.2.2.1
  have gne : ∀ x, x = b ∨ x = r → gg ≠ x := by
    rintro x (rfl | rfl) <;> omega
  have cell : ∀ j, j < n1 + n2 → W6.cell? ⟨gg, j, none⟩ = some (.string (gt L j)) := by
    intro j hj
    rw [World.cell?_of_block (a := ⟨gg, j, none⟩) (ft.2.2.2.2 gg hgl.2 (gne b (.inl rfl)) (gne r (.inr rfl))), ho.cellAt j (by omega), hz, strL_get L j (by omega)]
  have l1 : (L.take st).length = st := by rw [List.length_take]; omega
  have l2 : (L.drop st).length = n1 + n2 - st := by rw [List.length_drop]; omega
  refine ⟨rfl, (fr2_of b r hb3).trans ft, ⟨b, some ⟨gg, 0, none⟩, st, rfl, .inl rfl, by rw [l1]; exact y1, by omega, ?_⟩, ⟨r, some ⟨gg, st, none⟩, cc - st, rfl, .inl rfl, by rw [l2]; exact y2, by omega, ?_⟩⟩
  · refine .inr ⟨gg, 0, rfl, .inr (by omega), by omega, fun i hi => ?_⟩
    rw [Nat.zero_add, cell i (by omega)]
    congr 2
    unfold gt
    rw [List.getD_eq_getElem?_getD, List.getD_eq_getElem?_getD, List.getElem?_take, if_pos (by omega)]
  · refine .inr ⟨gg, st, rfl, .inr (by omega), by omega, fun i hi => ?_⟩
    rw [cell (st + i) (by omega)]
    congr 2
    unfold gt
    rw [List.getD_eq_getElem?_getD, List.getD_eq_getElem?_getD, List.getElem?_drop]

set_option maxHeartbeats 8000000 in
theorem dealLeaf_any (d b r n1 n2 c1 c2 st : Nat) (a1 a2 : Option Addr) (x0 y0 : Int) (L1 L2 : List ByteArray) (W : World) (hb : Bx W b 57 #[.int .i64 x0, .slice a1 n1 c1]) (hr : Bx W r 57 #[.int .i64 y0, .slice a2 n2 c2]) (hbr : b ≠ r) (h1 : RdV W a1 n1 (strL L1)) (h2 : RdV W a2 n2 (strL L2)) (hst : st < n1 + n2) (hst0 : 0 < st) (hn : n1 + n2 ≤ 1000) :
    Calls Try.prog 73 #[.iface 53 (.pointer (some ⟨b, 0, none⟩)), .iface 53 (.pointer (some ⟨r, 0, none⟩)), .int .i64 (st : Int)] W fun e w' => e = .returned (.tuple #[]) ∧ Fr2 W w' b r ∧ TAo (fun x => x = b ∨ W.heap.size ≤ x) w' (d + 1) (.inl ((L1 ++ L2).take st)) (.iface 53 (.pointer (some ⟨b, 0, none⟩))) ∧ TAo (fun x => x = r ∨ W.heap.size ≤ x) w' (d + 1) (.inl ((L1 ++ L2).drop st)) (.iface 53 (.pointer (some ⟨r, 0, none⟩))) := by
  obtain ⟨xs, hxs⟩ : ∃ xs, xs = strL L1 := ⟨_, rfl⟩
  obtain ⟨ys, hys⟩ : ∃ ys, ys = strL L2 := ⟨_, rfl⟩
  rw [← hxs] at h1
  rw [← hys] at h2
  have HXY : Hid (xs ++ ys = strL (L1 ++ L2) ∧ n1 + n2 = (L1 ++ L2).length) := ⟨by rw [hxs, hys, strL_app], by have q1 := h1.1; have q2 := h2.1; rw [hxs, strL_length] at q1; rw [hys, strL_length] at q2; rw [List.length_append]; omega⟩
  have HRD : Hid (RdV W a1 n1 xs ∧ RdV W a2 n2 ys) := ⟨h1, h2⟩
  obtain ⟨X0, hX0⟩ : ∃ X0 : Value, X0 = .int .i64 x0 := ⟨_, rfl⟩
  have HX : Hid (Bx W b 57 #[.int .i64 x0, .slice a1 n1 c1] ∧ Bx W r 57 #[.int .i64 y0, .slice a2 n2 c2]) := ⟨hb, hr⟩
  have p1 := hb.cell 1
  have p2 := hr.cell 1
  simp at p1 p2
  have pz1 := hb.lt
  have pz2 := hr.lt
  clear h1 h2 hb hr hxs hys hX0 X0
  have t1 := ta1 (.pointer (some ⟨b, 0, none⟩))
  have t2 := ta2 (.pointer (some ⟨r, 0, none⟩))
  go_enter Try.func73, Try.ntmps73
  go_upto_region 4 with fail
  have HConc : Hid (Calls Try.prog 85 #[.slice (some ⟨W.heap.size, 0, none⟩) 2 2] (W.alloc (.cells #[.slice a1 n1 c1, .slice a2 n2 c2] 27)).drew fun e w' => ∃ gg cc, e = .returned (.slice (some ⟨gg, 0, none⟩) (n1 + n2) cc) ∧ w'.ownsRow (W.alloc (.cells #[.slice a1 n1 c1, .slice a2 n2 c2] 27)).drew.heap.size 9 1 (.slice (some ⟨gg, 0, none⟩) (n1 + n2) cc) (n1 + n2) (xs ++ ys) ∧ Below (W.alloc (.cells #[.slice a1 n1 c1, .slice a2 n2 c2] 27)).drew.heap.size (W.alloc (.cells #[.slice a1 n1 c1, .slice a2 n2 c2] 27)).drew w') := by
    have nb := (Bx.new W #[.slice a1 n1 c1, .slice a2 n2 c2] 27).drew
    have hbl : Below W.heap.size W (W.alloc (.cells #[.slice a1 n1 c1, .slice a2 n2 c2] 27)).drew := (below_alloc W _).drew
    exact concatS_any W.heap.size 2 n1 n2 c1 c2 a1 a2 xs ys _ ((nb.cell 0).trans (by simp)) ((nb.cell 1).trans (by simp)) (HRD.out.1.below hbl) (HRD.out.2.below hbl) (by omega) hn
  have HB0 : Hid (∀ w2, Below (W.alloc (.cells #[.slice a1 n1 c1, .slice a2 n2 c2] 27)).drew.heap.size (W.alloc (.cells #[.slice a1 n1 c1, .slice a2 n2 c2] 27)).drew w2 → Below W.heap.size W w2) := fun w2 h => (below_alloc W _).drew.trans (h.mono (by show W.heap.size ≤ (W.alloc _).heap.size; simp))
  refine wp_region_late (S := fun _ => True) 22 (by kernel_rfl) trivial (fun hHeld => ?_)
  refine late_take 0 .zero (v := ?_) (by kernel_rfl) (by kernel_rfl) (by kernel_rfl) (by kernel_rfl) (fun _ _ _ h => h) (by rfl) ?_ (by assumption) ?_
  rotate_left
  · (intro w hSw; go_simp) <;> with_reducible rfl
  simp only [Act.put, List.setIfInBounds_toArray, List.set_cons_zero, List.set_cons_succ]
  refine late_take 1 (.succ .zero) (v := ?_) (by kernel_rfl) (by kernel_rfl) (by kernel_rfl) (by kernel_rfl) (fun _ _ _ h => h) (by rfl) ?_ (by assumption) ?_
  rotate_left
  · (intro w hSw; go_simp) <;> with_reducible rfl
  simp only [Act.put, List.setIfInBounds_toArray, List.set_cons_zero, List.set_cons_succ]
  refine late_take 2 (.succ (.succ .zero)) (v := ?_) (by kernel_rfl) (by kernel_rfl) (by kernel_rfl) (by kernel_rfl) (fun _ _ _ h => h) (by rfl) ?_ (by assumption) ?_
  rotate_left
  · (intro w hSw; go_simp) <;> with_reducible rfl
  simp only [Act.put, List.setIfInBounds_toArray, List.set_cons_zero, List.set_cons_succ]
  refine late_take 3 (.succ (.succ (.succ .zero))) (v := ?_) (by kernel_rfl) (by kernel_rfl) (by kernel_rfl) (by kernel_rfl) (fun _ _ _ h => h) (by rfl) ?_ (by assumption) ?_
  rotate_left
  · (intro w hSw; go_simp) <;> with_reducible rfl
  simp only [Act.put, List.setIfInBounds_toArray, List.set_cons_zero, List.set_cons_succ]
  refine late_take 4 (.succ (.succ (.succ (.succ .zero)))) (v := ?_) (by kernel_rfl) (by kernel_rfl) (by kernel_rfl) (by kernel_rfl) (fun _ _ _ h => h) (by rfl) ?_ (by assumption) ?_
  rotate_left
  · (intro w hSw; go_simp) <;> with_reducible rfl
  simp only [Act.put, List.setIfInBounds_toArray, List.set_cons_zero, List.set_cons_succ]
  refine late_take 6 (.succ (.succ (.succ (.succ (.succ (.succ .zero)))))) (v := ?_) (by kernel_rfl) (by kernel_rfl) (by kernel_rfl) (by kernel_rfl) (fun _ _ _ h => h) (by rfl) ?_ (by assumption) ?_
  rotate_left
  · (intro w hSw; go_simp) <;> with_reducible rfl
  simp only [Act.put, List.setIfInBounds_toArray, List.set_cons_zero, List.set_cons_succ]
  refine late_take 7 (.succ (.succ (.succ (.succ (.succ (.succ (.succ .zero))))))) (v := ?_) (by kernel_rfl) (by kernel_rfl) (by kernel_rfl) (by kernel_rfl) (fun _ _ _ h => h) (by rfl) ?_ (by assumption) ?_
  rotate_left
  · (intro w hSw; go_simp) <;> with_reducible rfl
  simp only [Act.put, List.setIfInBounds_toArray, List.set_cons_zero, List.set_cons_succ]
  refine late_take 8 (.succ (.succ (.succ (.succ (.succ (.succ (.succ (.succ .zero)))))))) (v := ?_) (by kernel_rfl) (by kernel_rfl) (by kernel_rfl) (by kernel_rfl) (fun _ _ _ h => h) (by rfl) ?_ (by assumption) ?_
  rotate_left
  · (intro w hSw; go_simp) <;> with_reducible rfl
  simp only [Act.put, List.setIfInBounds_toArray, List.set_cons_zero, List.set_cons_succ]
  refine late_take 12 (.succ (.succ (.succ (.succ (.succ (.succ (.succ (.succ (.succ (.succ (.succ (.succ .zero)))))))))))) (v := ?_) (by kernel_rfl) (by kernel_rfl) (by kernel_rfl) (by kernel_rfl) (fun _ _ _ h => h) (by rfl) ?_ (by assumption) ?_
  rotate_left
  · (intro w hSw; go_simp) <;> with_reducible rfl
  simp only [Act.put, List.setIfInBounds_toArray, List.set_cons_zero, List.set_cons_succ]
  refine late_two 5 9 (.succ (.succ (.succ (.succ (.succ .zero))))) (.succ (.succ (.succ (.succ (.succ (.succ (.succ (.succ (.succ .zero))))))))) (by kernel_rfl) (fun K hK => ?_) (fun K hK => ?_)
  · skip
    go_simp
    refine hK.out _ _ ?_ (fun hHeld2 => ?_)
    · (intro _; trivial)
    clear hK K
    replace hHeld := hHeld2 (by decide)
    clear hHeld2
    try simp only [Act.put, List.setIfInBounds_toArray, List.set_cons_zero, List.set_cons_succ]
    refine late_one 9 (.succ (.succ (.succ (.succ (.succ (.succ (.succ (.succ (.succ .zero))))))))) (by kernel_rfl) (fun K hK => ?_)
    go_simp
    refine hK.out _ _ ?_ (fun hHeld2 => ?_)
    · (intro _; trivial)
    clear hK K
    replace hHeld := hHeld2 (by decide)
    clear hHeld2
    try simp only [Act.put, List.setIfInBounds_toArray, List.set_cons_zero, List.set_cons_succ]
    refine late_one 10 (.succ (.succ (.succ (.succ (.succ (.succ (.succ (.succ (.succ (.succ .zero)))))))))) (by kernel_rfl) (fun K hK => ?_)
    go_simp
    refine hK.out _ _ ?_ (fun hHeld2 => ?_)
    · (intro _; trivial)
    clear hK K
    replace hHeld := hHeld2 (by decide)
    clear hHeld2
    try simp only [Act.put, List.setIfInBounds_toArray, List.set_cons_zero, List.set_cons_succ]
    refine late_one 11 (.succ (.succ (.succ (.succ (.succ (.succ (.succ (.succ (.succ (.succ (.succ .zero))))))))))) (by kernel_rfl) (fun K hK => ?_)
    refine step_t1 (by rfl) 85 27 _ (by rfl) (.slice (some ⟨W.heap.size, 0, none⟩) 2 2) (by rfl) (fun _ _ => by rfl) ?_
    (with_reducible refine HConc.out.mono ?_)
    rintro e w2 ⟨gg, cc, rfl, ho2, hb2⟩
    refine ⟨_, rfl, ?_⟩
    have H2 : Hid (w2.ownsRow (W.heap.size + 1) 9 1 (.slice (some ⟨gg, 0, none⟩) (n1 + n2) cc) (n1 + n2) (xs ++ ys) ∧ Below W.heap.size W w2) := ⟨by have q : (W.alloc (.cells #[.slice a1 n1 c1, .slice a2 n2 c2] 27)).drew.heap.size = W.heap.size + 1 := (show (W.alloc (.cells #[.slice a1 n1 c1, .slice a2 n2 c2] 27)).heap.size = W.heap.size + 1 by simp); rw [q] at ho2; exact ho2, HB0.out w2 hb2⟩
    have hcc := own_cap H2.out.1
    clear ho2 hb2
    refine hK.out _ _ ?_ (fun hHeld2 => ?_)
    · (intro _; trivial)
    clear hK K
    replace hHeld := hHeld2 (by decide)
    clear hHeld2
    try simp only [Act.put, List.setIfInBounds_toArray, List.set_cons_zero, List.set_cons_succ]
    refine late_one 13 (.succ (.succ (.succ (.succ (.succ (.succ (.succ (.succ (.succ (.succ (.succ (.succ (.succ .zero))))))))))))) (by kernel_rfl) (fun K hK => ?_)
    have HCut : Hid (Calls Try.prog 84 #[.slice (some ⟨gg, 0, none⟩) (n1 + n2) cc, .int .i64 (st : Int)] w2 fun e w' => e = .returned (.tuple #[.slice (some ⟨gg, 0, none⟩) st st, .slice (some ⟨gg, st, none⟩) (n1 + n2 - st) (cc - st)]) ∧ w' = w2.drew) := cutS_any gg (n1 + n2) cc st w2 (by omega) hcc.1 hst
    refine step_t2 (by rfl) 84 28 29 _ (by rfl) (.slice (some ⟨gg, 0, none⟩) (n1 + n2) cc) (.int .i64 (st : Int)) (by rfl) (by rfl) (fun _ _ => by rfl) ?_
    (with_reducible refine HCut.out.mono ?_)
    rintro e w3 ⟨rfl, hw3⟩
    refine ⟨_, rfl, ?_⟩
    have H3 : Hid (Bx w3 b 57 #[.int .i64 x0, .slice a1 n1 c1] ∧ Bx w3 r 57 #[.int .i64 y0, .slice a2 n2 c2] ∧ w3.ownsRow (W.heap.size + 1) 9 1 (.slice (some ⟨gg, 0, none⟩) (n1 + n2) cc) (n1 + n2) (xs ++ ys) ∧ Below W.heap.size W w3) := by
      subst hw3
      exact ⟨(HX.out.1.below H2.out.2).drew, (HX.out.2.below H2.out.2).drew, own_below H2.out.1 (Below.refl _ _).drew, H2.out.2.drew⟩
    have l1 := H3.out.1.cell 1
    have l2 := H3.out.2.1.cell 1
    simp at l1 l2
    have lf1 := H3.out.1.frozen 1
    have lf2 := H3.out.2.1.frozen 1
    have lz1 := H3.out.1.lt
    have lz2 := H3.out.2.1.lt
    clear hw3 HCut
    refine hK.out _ _ ?_ (fun hHeld2 => ?_)
    · (intro _; trivial)
    clear hK K
    replace hHeld := hHeld2 (by decide)
    clear hHeld2
    try simp only [Act.put, List.setIfInBounds_toArray, List.set_cons_zero, List.set_cons_succ]
    refine late_one 14 (.succ (.succ (.succ (.succ (.succ (.succ (.succ (.succ (.succ (.succ (.succ (.succ (.succ (.succ .zero)))))))))))))) (by kernel_rfl) (fun K hK => ?_)
    go_simp
    refine hK.out _ _ ?_ (fun hHeld2 => ?_)
    · (intro _; trivial)
    clear hK K
    replace hHeld := hHeld2 (by decide)
    clear hHeld2
    try simp only [Act.put, List.setIfInBounds_toArray, List.set_cons_zero, List.set_cons_succ]
    refine late_take 15 (.succ (.succ (.succ (.succ (.succ (.succ (.succ (.succ (.succ (.succ (.succ (.succ (.succ (.succ (.succ .zero))))))))))))))) (v := ?_) (by kernel_rfl) (by kernel_rfl) (by kernel_rfl) (by kernel_rfl) (fun _ _ _ h => h) (by rfl) ?_ (by assumption) ?_
    rotate_left
    · (intro w hSw; go_simp) <;> with_reducible rfl
    simp only [Act.put, List.setIfInBounds_toArray, List.set_cons_zero, List.set_cons_succ]
    refine late_take 16 (.succ (.succ (.succ (.succ (.succ (.succ (.succ (.succ (.succ (.succ (.succ (.succ (.succ (.succ (.succ (.succ .zero)))))))))))))))) (v := ?_) (by kernel_rfl) (by kernel_rfl) (by kernel_rfl) (by kernel_rfl) (fun _ _ _ h => h) (by rfl) ?_ (by assumption) ?_
    rotate_left
    · (intro w hSw; go_simp) <;> with_reducible rfl
    simp only [Act.put, List.setIfInBounds_toArray, List.set_cons_zero, List.set_cons_succ]
    refine late_take 17 (.succ (.succ (.succ (.succ (.succ (.succ (.succ (.succ (.succ (.succ (.succ (.succ (.succ (.succ (.succ (.succ (.succ .zero))))))))))))))))) (v := ?_) (by kernel_rfl) (by kernel_rfl) (by kernel_rfl) (by kernel_rfl) (fun _ _ _ h => h) (by rfl) ?_ (by assumption) ?_
    rotate_left
    · (intro w hSw; go_simp) <;> with_reducible rfl
    simp only [Act.put, List.setIfInBounds_toArray, List.set_cons_zero, List.set_cons_succ]
    refine late_take 18 (.succ (.succ (.succ (.succ (.succ (.succ (.succ (.succ (.succ (.succ (.succ (.succ (.succ (.succ (.succ (.succ (.succ (.succ .zero)))))))))))))))))) (v := ?_) (by kernel_rfl) (by kernel_rfl) (by kernel_rfl) (by kernel_rfl) (fun _ _ _ h => h) (by rfl) ?_ (by assumption) ?_
    rotate_left
    · (intro w hSw; go_simp) <;> with_reducible rfl
    simp only [Act.put, List.setIfInBounds_toArray, List.set_cons_zero, List.set_cons_succ]
    refine late_one 19 (.succ (.succ (.succ (.succ (.succ (.succ (.succ (.succ (.succ (.succ (.succ (.succ (.succ (.succ (.succ (.succ (.succ (.succ (.succ .zero))))))))))))))))))) (by kernel_rfl) (fun K hK => ?_)
    go_simp
    refine hK.out _ _ ?_ (fun hHeld2 => ?_)
    · (intro _; trivial)
    clear hK K
    replace hHeld := hHeld2 (by decide)
    clear hHeld2
    try simp only [Act.put, List.setIfInBounds_toArray, List.set_cons_zero, List.set_cons_succ]
    refine late_one 20 (.succ (.succ (.succ (.succ (.succ (.succ (.succ (.succ (.succ (.succ (.succ (.succ (.succ (.succ (.succ (.succ (.succ (.succ (.succ (.succ .zero)))))))))))))))))))) (by kernel_rfl) (fun K hK => ?_)
    go_simp
    refine hK.out _ _ ?_ (fun hHeld2 => ?_)
    · (intro _; trivial)
    clear hK K
    replace hHeld := hHeld2 (by decide)
    clear hHeld2
    try simp only [Act.put, List.setIfInBounds_toArray, List.set_cons_zero, List.set_cons_succ]
    refine late_one 21 (.succ (.succ (.succ (.succ (.succ (.succ (.succ (.succ (.succ (.succ (.succ (.succ (.succ (.succ (.succ (.succ (.succ (.succ (.succ (.succ (.succ .zero))))))))))))))))))))) (by kernel_rfl) (fun K hK => ?_)
    go_simp
    refine hK.out _ _ ?_ (fun hHeld2 => ?_)
    · (intro _; trivial)
    clear hK K
    replace hHeld := hHeld2 (by decide)
    clear hHeld2
    try simp only [Act.put, List.setIfInBounds_toArray, List.set_cons_zero, List.set_cons_succ]
    refine late_one 22 (.succ (.succ (.succ (.succ (.succ (.succ (.succ (.succ (.succ (.succ (.succ (.succ (.succ (.succ (.succ (.succ (.succ (.succ (.succ (.succ (.succ (.succ .zero)))))))))))))))))))))) (by kernel_rfl) (fun K hK => ?_)
    go_simp
    refine hK.out _ _ ?_ (fun hHeld2 => ?_)
    · (intro hne; exact absurd rfl hne)
    clear hK K hHeld2
    refine wpLate_done (by kernel_rfl) ?_ _
    have HW : Hid (Bx ((w3.setCell ⟨b, 1, none⟩ (.slice (some ⟨gg, 0, none⟩) st st)).setCell ⟨r, 1, none⟩ (.slice (some ⟨gg, st, none⟩) (n1 + n2 - st) (cc - st))) b 57 #[.int .i64 x0, .slice (some ⟨gg, 0, none⟩) st st] ∧ Bx ((w3.setCell ⟨b, 1, none⟩ (.slice (some ⟨gg, 0, none⟩) st st)).setCell ⟨r, 1, none⟩ (.slice (some ⟨gg, st, none⟩) (n1 + n2 - st) (cc - st))) r 57 #[.int .i64 y0, .slice (some ⟨gg, st, none⟩) (n1 + n2 - st) (cc - st)] ∧ Fr2 w3 ((w3.setCell ⟨b, 1, none⟩ (.slice (some ⟨gg, 0, none⟩) st st)).setCell ⟨r, 1, none⟩ (.slice (some ⟨gg, st, none⟩) (n1 + n2 - st) (cc - st))) b r) := by
      refine ⟨?_, ?_, fr2_set2 _ _ _ _ _ _ _⟩
      · have q := (H3.out.1.set 1 (.slice (some ⟨gg, 0, none⟩) st st)).other (p := ⟨r, 1, none⟩) hbr (.slice (some ⟨gg, st, none⟩) (n1 + n2 - st) (cc - st))
        simpa using q
      · have q := (H3.out.2.1.other (p := ⟨b, 1, none⟩) hbr.symm (.slice (some ⟨gg, 0, none⟩) st st)).set 1 (.slice (some ⟨gg, st, none⟩) (n1 + n2 - st) (cc - st))
        simpa using q
    generalize (w3.setCell ⟨b, 1, none⟩ (.slice (some ⟨gg, 0, none⟩) st st)).setCell ⟨r, 1, none⟩ (.slice (some ⟨gg, st, none⟩) (n1 + n2 - st) (cc - st)) = W4 at HW ⊢
    clear l1 l2 lf1 lf2 lz1 lz2 hHeld
    have HR1 : Hid (Calls Try.prog 82 #[.pointer (some ⟨b, 0, none⟩)] W4 fun e w' => e = .returned (.tuple #[]) ∧ w' = W4.setCell ⟨b, 0, none⟩ (.int .i64 (st : Int))) := recountLeaf_any b st st _ x0 W4 HW.out.1
    go_wp2_with fail
    (with_reducible refine HR1.out.mono ?_)
    rintro e w5 ⟨rfl, rfl⟩
    have HX5 : Hid (Bx (W4.setCell ⟨b, 0, none⟩ (.int .i64 (st : Int))) b 57 #[.int .i64 (st : Int), .slice (some ⟨gg, 0, none⟩) st st] ∧ Bx (W4.setCell ⟨b, 0, none⟩ (.int .i64 (st : Int))) r 57 #[.int .i64 y0, .slice (some ⟨gg, st, none⟩) (n1 + n2 - st) (cc - st)]) := ⟨by simpa using HW.out.1.set 0 (.int .i64 (st : Int)), HW.out.2.1.other (p := ⟨b, 0, none⟩) hbr.symm _⟩
    have HR2 : Hid (Calls Try.prog 82 #[.pointer (some ⟨r, 0, none⟩)] (W4.setCell ⟨b, 0, none⟩ (.int .i64 (st : Int))) fun e w' => e = .returned (.tuple #[]) ∧ w' = (W4.setCell ⟨b, 0, none⟩ (.int .i64 (st : Int))).setCell ⟨r, 0, none⟩ (.int .i64 ((n1 + n2 - st : Nat) : Int))) := recountLeaf_any r (n1 + n2 - st) (cc - st) _ y0 _ HX5.out.2
    go_wp2_with fail
    (with_reducible refine HR2.out.mono ?_)
    rintro e w6 ⟨rfl, rfl⟩
    go_wp2
    go_end0
    exact dealLeaf_end d HXY.out.1 HXY.out.2 hbr pz1 pz2 hst H3.out.2.2.2 H3.out.2.2.1 HW.out.2.2 HW.out.1 HW.out.2.1
  · skip
    go_simp
    refine hK.out _ _ ?_ (fun hHeld2 => ?_)
    · (intro _; trivial)
    clear hK K
    replace hHeld := hHeld2 (by decide)
    clear hHeld2
    try simp only [Act.put, List.setIfInBounds_toArray, List.set_cons_zero, List.set_cons_succ]
    refine late_one 5 (.succ (.succ (.succ (.succ (.succ .zero))))) (by kernel_rfl) (fun K hK => ?_)
    go_simp
    refine hK.out _ _ ?_ (fun hHeld2 => ?_)
    · (intro _; trivial)
    clear hK K
    replace hHeld := hHeld2 (by decide)
    clear hHeld2
    try simp only [Act.put, List.setIfInBounds_toArray, List.set_cons_zero, List.set_cons_succ]
    refine late_one 10 (.succ (.succ (.succ (.succ (.succ (.succ (.succ (.succ (.succ (.succ .zero)))))))))) (by kernel_rfl) (fun K hK => ?_)
    go_simp
    refine hK.out _ _ ?_ (fun hHeld2 => ?_)
    · (intro _; trivial)
    clear hK K
    replace hHeld := hHeld2 (by decide)
    clear hHeld2
    try simp only [Act.put, List.setIfInBounds_toArray, List.set_cons_zero, List.set_cons_succ]
    refine late_one 11 (.succ (.succ (.succ (.succ (.succ (.succ (.succ (.succ (.succ (.succ (.succ .zero))))))))))) (by kernel_rfl) (fun K hK => ?_)
    refine step_t1 (by rfl) 85 27 _ (by rfl) (.slice (some ⟨W.heap.size, 0, none⟩) 2 2) (by rfl) (fun _ _ => by rfl) ?_
    (with_reducible refine HConc.out.mono ?_)
    rintro e w2 ⟨gg, cc, rfl, ho2, hb2⟩
    refine ⟨_, rfl, ?_⟩
    have H2 : Hid (w2.ownsRow (W.heap.size + 1) 9 1 (.slice (some ⟨gg, 0, none⟩) (n1 + n2) cc) (n1 + n2) (xs ++ ys) ∧ Below W.heap.size W w2) := ⟨by have q : (W.alloc (.cells #[.slice a1 n1 c1, .slice a2 n2 c2] 27)).drew.heap.size = W.heap.size + 1 := (show (W.alloc (.cells #[.slice a1 n1 c1, .slice a2 n2 c2] 27)).heap.size = W.heap.size + 1 by simp); rw [q] at ho2; exact ho2, HB0.out w2 hb2⟩
    have hcc := own_cap H2.out.1
    clear ho2 hb2
    refine hK.out _ _ ?_ (fun hHeld2 => ?_)
    · (intro _; trivial)
    clear hK K
    replace hHeld := hHeld2 (by decide)
    clear hHeld2
    try simp only [Act.put, List.setIfInBounds_toArray, List.set_cons_zero, List.set_cons_succ]
    refine late_one 13 (.succ (.succ (.succ (.succ (.succ (.succ (.succ (.succ (.succ (.succ (.succ (.succ (.succ .zero))))))))))))) (by kernel_rfl) (fun K hK => ?_)
    have HCut : Hid (Calls Try.prog 84 #[.slice (some ⟨gg, 0, none⟩) (n1 + n2) cc, .int .i64 (st : Int)] w2 fun e w' => e = .returned (.tuple #[.slice (some ⟨gg, 0, none⟩) st st, .slice (some ⟨gg, st, none⟩) (n1 + n2 - st) (cc - st)]) ∧ w' = w2.drew) := cutS_any gg (n1 + n2) cc st w2 (by omega) hcc.1 hst
    refine step_t2 (by rfl) 84 28 29 _ (by rfl) (.slice (some ⟨gg, 0, none⟩) (n1 + n2) cc) (.int .i64 (st : Int)) (by rfl) (by rfl) (fun _ _ => by rfl) ?_
    (with_reducible refine HCut.out.mono ?_)
    rintro e w3 ⟨rfl, hw3⟩
    refine ⟨_, rfl, ?_⟩
    have H3 : Hid (Bx w3 b 57 #[.int .i64 x0, .slice a1 n1 c1] ∧ Bx w3 r 57 #[.int .i64 y0, .slice a2 n2 c2] ∧ w3.ownsRow (W.heap.size + 1) 9 1 (.slice (some ⟨gg, 0, none⟩) (n1 + n2) cc) (n1 + n2) (xs ++ ys) ∧ Below W.heap.size W w3) := by
      subst hw3
      exact ⟨(HX.out.1.below H2.out.2).drew, (HX.out.2.below H2.out.2).drew, own_below H2.out.1 (Below.refl _ _).drew, H2.out.2.drew⟩
    have l1 := H3.out.1.cell 1
    have l2 := H3.out.2.1.cell 1
    simp at l1 l2
    have lf1 := H3.out.1.frozen 1
    have lf2 := H3.out.2.1.frozen 1
    have lz1 := H3.out.1.lt
    have lz2 := H3.out.2.1.lt
    clear hw3 HCut
    refine hK.out _ _ ?_ (fun hHeld2 => ?_)
    · (intro _; trivial)
    clear hK K
    replace hHeld := hHeld2 (by decide)
    clear hHeld2
    try simp only [Act.put, List.setIfInBounds_toArray, List.set_cons_zero, List.set_cons_succ]
    refine late_one 14 (.succ (.succ (.succ (.succ (.succ (.succ (.succ (.succ (.succ (.succ (.succ (.succ (.succ (.succ .zero)))))))))))))) (by kernel_rfl) (fun K hK => ?_)
    go_simp
    refine hK.out _ _ ?_ (fun hHeld2 => ?_)
    · (intro _; trivial)
    clear hK K
    replace hHeld := hHeld2 (by decide)
    clear hHeld2
    try simp only [Act.put, List.setIfInBounds_toArray, List.set_cons_zero, List.set_cons_succ]
    refine late_take 15 (.succ (.succ (.succ (.succ (.succ (.succ (.succ (.succ (.succ (.succ (.succ (.succ (.succ (.succ (.succ .zero))))))))))))))) (v := ?_) (by kernel_rfl) (by kernel_rfl) (by kernel_rfl) (by kernel_rfl) (fun _ _ _ h => h) (by rfl) ?_ (by assumption) ?_
    rotate_left
    · (intro w hSw; go_simp) <;> with_reducible rfl
    simp only [Act.put, List.setIfInBounds_toArray, List.set_cons_zero, List.set_cons_succ]
    refine late_take 16 (.succ (.succ (.succ (.succ (.succ (.succ (.succ (.succ (.succ (.succ (.succ (.succ (.succ (.succ (.succ (.succ .zero)))))))))))))))) (v := ?_) (by kernel_rfl) (by kernel_rfl) (by kernel_rfl) (by kernel_rfl) (fun _ _ _ h => h) (by rfl) ?_ (by assumption) ?_
    rotate_left
    · (intro w hSw; go_simp) <;> with_reducible rfl
    simp only [Act.put, List.setIfInBounds_toArray, List.set_cons_zero, List.set_cons_succ]
    refine late_take 17 (.succ (.succ (.succ (.succ (.succ (.succ (.succ (.succ (.succ (.succ (.succ (.succ (.succ (.succ (.succ (.succ (.succ .zero))))))))))))))))) (v := ?_) (by kernel_rfl) (by kernel_rfl) (by kernel_rfl) (by kernel_rfl) (fun _ _ _ h => h) (by rfl) ?_ (by assumption) ?_
    rotate_left
    · (intro w hSw; go_simp) <;> with_reducible rfl
    simp only [Act.put, List.setIfInBounds_toArray, List.set_cons_zero, List.set_cons_succ]
    refine late_take 18 (.succ (.succ (.succ (.succ (.succ (.succ (.succ (.succ (.succ (.succ (.succ (.succ (.succ (.succ (.succ (.succ (.succ (.succ .zero)))))))))))))))))) (v := ?_) (by kernel_rfl) (by kernel_rfl) (by kernel_rfl) (by kernel_rfl) (fun _ _ _ h => h) (by rfl) ?_ (by assumption) ?_
    rotate_left
    · (intro w hSw; go_simp) <;> with_reducible rfl
    simp only [Act.put, List.setIfInBounds_toArray, List.set_cons_zero, List.set_cons_succ]
    refine late_one 19 (.succ (.succ (.succ (.succ (.succ (.succ (.succ (.succ (.succ (.succ (.succ (.succ (.succ (.succ (.succ (.succ (.succ (.succ (.succ .zero))))))))))))))))))) (by kernel_rfl) (fun K hK => ?_)
    go_simp
    refine hK.out _ _ ?_ (fun hHeld2 => ?_)
    · (intro _; trivial)
    clear hK K
    replace hHeld := hHeld2 (by decide)
    clear hHeld2
    try simp only [Act.put, List.setIfInBounds_toArray, List.set_cons_zero, List.set_cons_succ]
    refine late_one 20 (.succ (.succ (.succ (.succ (.succ (.succ (.succ (.succ (.succ (.succ (.succ (.succ (.succ (.succ (.succ (.succ (.succ (.succ (.succ (.succ .zero)))))))))))))))))))) (by kernel_rfl) (fun K hK => ?_)
    go_simp
    refine hK.out _ _ ?_ (fun hHeld2 => ?_)
    · (intro _; trivial)
    clear hK K
    replace hHeld := hHeld2 (by decide)
    clear hHeld2
    try simp only [Act.put, List.setIfInBounds_toArray, List.set_cons_zero, List.set_cons_succ]
    refine late_one 21 (.succ (.succ (.succ (.succ (.succ (.succ (.succ (.succ (.succ (.succ (.succ (.succ (.succ (.succ (.succ (.succ (.succ (.succ (.succ (.succ (.succ .zero))))))))))))))))))))) (by kernel_rfl) (fun K hK => ?_)
    go_simp
    refine hK.out _ _ ?_ (fun hHeld2 => ?_)
    · (intro _; trivial)
    clear hK K
    replace hHeld := hHeld2 (by decide)
    clear hHeld2
    try simp only [Act.put, List.setIfInBounds_toArray, List.set_cons_zero, List.set_cons_succ]
    refine late_one 22 (.succ (.succ (.succ (.succ (.succ (.succ (.succ (.succ (.succ (.succ (.succ (.succ (.succ (.succ (.succ (.succ (.succ (.succ (.succ (.succ (.succ (.succ .zero)))))))))))))))))))))) (by kernel_rfl) (fun K hK => ?_)
    go_simp
    refine hK.out _ _ ?_ (fun hHeld2 => ?_)
    · (intro hne; exact absurd rfl hne)
    clear hK K hHeld2
    refine wpLate_done (by kernel_rfl) ?_ _
    have HW : Hid (Bx ((w3.setCell ⟨b, 1, none⟩ (.slice (some ⟨gg, 0, none⟩) st st)).setCell ⟨r, 1, none⟩ (.slice (some ⟨gg, st, none⟩) (n1 + n2 - st) (cc - st))) b 57 #[.int .i64 x0, .slice (some ⟨gg, 0, none⟩) st st] ∧ Bx ((w3.setCell ⟨b, 1, none⟩ (.slice (some ⟨gg, 0, none⟩) st st)).setCell ⟨r, 1, none⟩ (.slice (some ⟨gg, st, none⟩) (n1 + n2 - st) (cc - st))) r 57 #[.int .i64 y0, .slice (some ⟨gg, st, none⟩) (n1 + n2 - st) (cc - st)] ∧ Fr2 w3 ((w3.setCell ⟨b, 1, none⟩ (.slice (some ⟨gg, 0, none⟩) st st)).setCell ⟨r, 1, none⟩ (.slice (some ⟨gg, st, none⟩) (n1 + n2 - st) (cc - st))) b r) := by
      refine ⟨?_, ?_, fr2_set2 _ _ _ _ _ _ _⟩
      · have q := (H3.out.1.set 1 (.slice (some ⟨gg, 0, none⟩) st st)).other (p := ⟨r, 1, none⟩) hbr (.slice (some ⟨gg, st, none⟩) (n1 + n2 - st) (cc - st))
        simpa using q
      · have q := (H3.out.2.1.other (p := ⟨b, 1, none⟩) hbr.symm (.slice (some ⟨gg, 0, none⟩) st st)).set 1 (.slice (some ⟨gg, st, none⟩) (n1 + n2 - st) (cc - st))
        simpa using q
    generalize (w3.setCell ⟨b, 1, none⟩ (.slice (some ⟨gg, 0, none⟩) st st)).setCell ⟨r, 1, none⟩ (.slice (some ⟨gg, st, none⟩) (n1 + n2 - st) (cc - st)) = W4 at HW ⊢
    clear l1 l2 lf1 lf2 lz1 lz2 hHeld
    have HR1 : Hid (Calls Try.prog 82 #[.pointer (some ⟨b, 0, none⟩)] W4 fun e w' => e = .returned (.tuple #[]) ∧ w' = W4.setCell ⟨b, 0, none⟩ (.int .i64 (st : Int))) := recountLeaf_any b st st _ x0 W4 HW.out.1
    go_wp2_with fail
    (with_reducible refine HR1.out.mono ?_)
    rintro e w5 ⟨rfl, rfl⟩
    have HX5 : Hid (Bx (W4.setCell ⟨b, 0, none⟩ (.int .i64 (st : Int))) b 57 #[.int .i64 (st : Int), .slice (some ⟨gg, 0, none⟩) st st] ∧ Bx (W4.setCell ⟨b, 0, none⟩ (.int .i64 (st : Int))) r 57 #[.int .i64 y0, .slice (some ⟨gg, st, none⟩) (n1 + n2 - st) (cc - st)]) := ⟨by simpa using HW.out.1.set 0 (.int .i64 (st : Int)), HW.out.2.1.other (p := ⟨b, 0, none⟩) hbr.symm _⟩
    have HR2 : Hid (Calls Try.prog 82 #[.pointer (some ⟨r, 0, none⟩)] (W4.setCell ⟨b, 0, none⟩ (.int .i64 (st : Int))) fun e w' => e = .returned (.tuple #[]) ∧ w' = (W4.setCell ⟨b, 0, none⟩ (.int .i64 (st : Int))).setCell ⟨r, 0, none⟩ (.int .i64 ((n1 + n2 - st : Nat) : Int))) := recountLeaf_any r (n1 + n2 - st) (cc - st) _ y0 _ HX5.out.2
    go_wp2_with fail
    (with_reducible refine HR2.out.mono ?_)
    rintro e w6 ⟨rfl, rfl⟩
    go_wp2
    go_end0
    exact dealLeaf_end d HXY.out.1 HXY.out.2 hbr pz1 pz2 hst H3.out.2.2.2 H3.out.2.2.1 HW.out.2.2 HW.out.1 HW.out.2.1

theorem dealIn_kid {d b r : Nat} {S : Nat → Prop} {W W4 : World} {l : List (Ro d)} {zs : List Value} (hk : ∀ k (h : k < l.length), ∃ u, zs[k]? = some u ∧ TAo S W d l[k] u) (hSb : ¬ S b) (hSr : ¬ S r) (hf : Fr2 W W4 b r) (k : Nat) (h : k < l.length) : ∃ u bb, zs[k]? = some u ∧ (bb ≠ b ∧ bb ≠ r) ∧ W4.cell? ⟨bb, 0, none⟩ = some (.int .i64 ((keysR d l[k]).length : Int)) ∧ (u = .iface 53 (.pointer (some ⟨bb, 0, none⟩)) ∨ u = .iface 91 (.pointer (some ⟨bb, 0, none⟩))) := by
  obtain ⟨u, hu, ht⟩ := hk k h
  obtain ⟨bb, q1, q2, q3, q4⟩ := ht.count
  have n1 : bb ≠ b := fun e => hSb (e ▸ q1)
  have n2 : bb ≠ r := fun e => hSr (e ▸ q1)
  exact ⟨u, bb, hu, ⟨n1, n2⟩, (World.cell?_of_block (a := ⟨bb, 0, none⟩) (hf.2.2.2.2 bb q2 n1 n2)).trans q3, q4⟩

theorem fr2_grown {w w' : World} {b r : Nat} (h : w.grownBy w' (some b)) : Fr2 w w' b r := ⟨h.os, h.tape, h.output, h.size, fun k hk h1 _ => h.block k hk (fun e => h1 (by injection e))⟩
theorem fr2_grown' {w w' : World} {b r : Nat} (h : w.grownBy w' (some r)) : Fr2 w w' b r := ⟨h.os, h.tape, h.output, h.size, fun k hk _ h1 => h.block k hk (fun e => h1 (by injection e))⟩

theorem dealIn_side {d : Nat} {b r x gg o cc : Nat} {S : Nat → Prop} {W W6 : World} {l : List (Ro d)} {zs : List Value} {k0 m : Nat} (hk : ∀ k (h : k < l.length), ∃ u, zs[k]? = some u ∧ TAo S W d l[k] u) (hSb : ¬ S b) (hSr : ¬ S r) (hf : Fr2 W W6 b r) (hx : Bx W6 x 96 #[.int .i64 ((((l.drop k0).take m).flatMap (keysR d)).length : Int), .slice (some ⟨gg, o, none⟩) m cc]) (hgW : W.heap.size ≤ gg) (hg6 : gg < W6.heap.size) (hxg : gg ≠ x) (hm : k0 + m ≤ l.length) (hm0 : 0 < m) (hcap : m ≤ cc ∧ cc ≤ 9223372036854775807) (hc : ∀ j u, ((zs.drop k0).take m)[j]? = some u → W6.cell? ⟨gg, o + j, none⟩ = some u) :
    TAo (fun y => S y ∨ y = x ∨ W.heap.size ≤ y) W6 (d + 1) (.inr ((l.drop k0).take m)) (.iface 91 (.pointer (some ⟨x, 0, none⟩))) := by
  have lm : ((l.drop k0).take m).length = m := by rw [List.length_take, List.length_drop]; omega
  refine ⟨x, gg, o, cc, (zs.drop k0).take m, rfl, .inr (.inl rfl), by rw [lm]; exact hx, ⟨.inr (.inr hgW), hxg⟩, ⟨hg6, by rw [lm]; exact hcap⟩, by omega, hc, fun k h => ?_⟩
  rw [lm] at h
  obtain ⟨u, hu, ht⟩ := hk (k0 + k) (by omega)
  refine ⟨u, by rw [List.getElem?_take, if_pos h, List.getElem?_drop]; exact hu, ?_⟩
  rw [List.getElem_take, List.getElem_drop]
  exact TAo.keep hf.2.2.2.1 (fun y hy hl => ⟨.inl hy, hf.2.2.2.2 y hl (fun e => hSb (e ▸ hy)) (fun e => hSr (e ▸ hy))⟩) ht

set_option maxHeartbeats 8000000 in
theorem dealInner_any (d b r n1 n2 c1 c2 st : Nat) (a1 a2 : Option Addr) (x0 y0 : Int) (xs ys : List Value) (l : List (Ro d)) (S : Nat → Prop) (W : World) (hb : Bx W b 96 #[.int .i64 x0, .slice a1 n1 c1]) (hr : Bx W r 96 #[.int .i64 y0, .slice a2 n2 c2]) (hbr : b ≠ r) (h1 : RdV W a1 n1 xs) (h2 : RdV W a2 n2 ys) (hl : n1 + n2 = l.length) (hk : ∀ k (h : k < l.length), ∃ u, (xs ++ ys)[k]? = some u ∧ TAo S W d l[k] u) (hSb : ¬ S b) (hSr : ¬ S r) (hkeys : (l.flatMap (keysR d)).length ≤ 1099511627776) (hst : st < n1 + n2) (hst0 : 0 < st) (hn : n1 + n2 ≤ 1000) :
    Calls Try.prog 73 #[.iface 91 (.pointer (some ⟨b, 0, none⟩)), .iface 91 (.pointer (some ⟨r, 0, none⟩)), .int .i64 (st : Int)] W fun e w' => e = .returned (.tuple #[]) ∧ Fr2 W w' b r ∧ TAo (fun x => S x ∨ x = b ∨ W.heap.size ≤ x) w' (d + 1) (.inr ((l.drop 0).take st)) (.iface 91 (.pointer (some ⟨b, 0, none⟩))) ∧ TAo (fun x => S x ∨ x = r ∨ W.heap.size ≤ x) w' (d + 1) (.inr ((l.drop st).take (n1 + n2 - st))) (.iface 91 (.pointer (some ⟨r, 0, none⟩))) := by
  have HK : Hid ((∀ k (h : k < l.length), ∃ u, (xs ++ ys)[k]? = some u ∧ TAo S W d l[k] u) ∧ ¬ S b ∧ ¬ S r) := ⟨hk, hSb, hSr⟩
  have HL : Hid (n1 + n2 = l.length ∧ (l.flatMap (keysR d)).length ≤ 1099511627776) := ⟨hl, hkeys⟩
  have HRD : Hid (RdV W a1 n1 xs ∧ RdV W a2 n2 ys) := ⟨h1, h2⟩
  have HX : Hid (Bx W b 96 #[.int .i64 x0, .slice a1 n1 c1] ∧ Bx W r 96 #[.int .i64 y0, .slice a2 n2 c2]) := ⟨hb, hr⟩
  have p1 := hb.cell 1
  have p2 := hr.cell 1
  simp at p1 p2
  have pz1 := hb.lt
  have pz2 := hr.lt
  clear h1 h2 hb hr hk hSb hSr hl hkeys
  have t3 := ta3 (.pointer (some ⟨b, 0, none⟩))
  have t4 := ta4 (.pointer (some ⟨b, 0, none⟩))
  have t5 := ta5 (.pointer (some ⟨r, 0, none⟩))
  go_enter Try.func73, Try.ntmps73
  go_upto_region 8 with fail
  have HConc : Hid (Calls Try.prog 87 #[.slice (some ⟨W.heap.size, 0, none⟩) 2 2] (W.alloc (.cells #[.slice a1 n1 c1, .slice a2 n2 c2] 94)).drew fun e w' => ∃ gg cc, e = .returned (.slice (some ⟨gg, 0, none⟩) (n1 + n2) cc) ∧ w'.ownsRow (W.alloc (.cells #[.slice a1 n1 c1, .slice a2 n2 c2] 94)).drew.heap.size 59 1 (.slice (some ⟨gg, 0, none⟩) (n1 + n2) cc) (n1 + n2) (xs ++ ys) ∧ Below (W.alloc (.cells #[.slice a1 n1 c1, .slice a2 n2 c2] 94)).drew.heap.size (W.alloc (.cells #[.slice a1 n1 c1, .slice a2 n2 c2] 94)).drew w') := by
    have nb := (Bx.new W #[.slice a1 n1 c1, .slice a2 n2 c2] 94).drew
    have hbl : Below W.heap.size W (W.alloc (.cells #[.slice a1 n1 c1, .slice a2 n2 c2] 94)).drew := (below_alloc W _).drew
    exact concatN_any W.heap.size 2 n1 n2 c1 c2 a1 a2 xs ys _ ((nb.cell 0).trans (by simp)) ((nb.cell 1).trans (by simp)) (HRD.out.1.below hbl) (HRD.out.2.below hbl) (by omega) hn
  have HB0 : Hid (∀ w2, Below (W.alloc (.cells #[.slice a1 n1 c1, .slice a2 n2 c2] 94)).drew.heap.size (W.alloc (.cells #[.slice a1 n1 c1, .slice a2 n2 c2] 94)).drew w2 → Below W.heap.size W w2) := fun w2 h => (below_alloc W _).drew.trans (h.mono (by show W.heap.size ≤ (W.alloc _).heap.size; simp))
  refine wp_region_late (S := fun _ => True) 22 (by kernel_rfl) trivial (fun hHeld => ?_)
  refine late_take 0 .zero (v := ?_) (by kernel_rfl) (by kernel_rfl) (by kernel_rfl) (by kernel_rfl) (fun _ _ _ h => h) (by rfl) ?_ (by assumption) ?_
  rotate_left
  · (intro w hSw; go_simp) <;> with_reducible rfl
  simp only [Act.put, List.setIfInBounds_toArray, List.set_cons_zero, List.set_cons_succ]
  refine late_take 1 (.succ .zero) (v := ?_) (by kernel_rfl) (by kernel_rfl) (by kernel_rfl) (by kernel_rfl) (fun _ _ _ h => h) (by rfl) ?_ (by assumption) ?_
  rotate_left
  · (intro w hSw; go_simp) <;> with_reducible rfl
  simp only [Act.put, List.setIfInBounds_toArray, List.set_cons_zero, List.set_cons_succ]
  refine late_take 2 (.succ (.succ .zero)) (v := ?_) (by kernel_rfl) (by kernel_rfl) (by kernel_rfl) (by kernel_rfl) (fun _ _ _ h => h) (by rfl) ?_ (by assumption) ?_
  rotate_left
  · (intro w hSw; go_simp) <;> with_reducible rfl
  simp only [Act.put, List.setIfInBounds_toArray, List.set_cons_zero, List.set_cons_succ]
  refine late_take 3 (.succ (.succ (.succ .zero))) (v := ?_) (by kernel_rfl) (by kernel_rfl) (by kernel_rfl) (by kernel_rfl) (fun _ _ _ h => h) (by rfl) ?_ (by assumption) ?_
  rotate_left
  · (intro w hSw; go_simp) <;> with_reducible rfl
  simp only [Act.put, List.setIfInBounds_toArray, List.set_cons_zero, List.set_cons_succ]
  refine late_take 4 (.succ (.succ (.succ (.succ .zero)))) (v := ?_) (by kernel_rfl) (by kernel_rfl) (by kernel_rfl) (by kernel_rfl) (fun _ _ _ h => h) (by rfl) ?_ (by assumption) ?_
  rotate_left
  · (intro w hSw; go_simp) <;> with_reducible rfl
  simp only [Act.put, List.setIfInBounds_toArray, List.set_cons_zero, List.set_cons_succ]
  refine late_take 6 (.succ (.succ (.succ (.succ (.succ (.succ .zero)))))) (v := ?_) (by kernel_rfl) (by kernel_rfl) (by kernel_rfl) (by kernel_rfl) (fun _ _ _ h => h) (by rfl) ?_ (by assumption) ?_
  rotate_left
  · (intro w hSw; go_simp) <;> with_reducible rfl
  simp only [Act.put, List.setIfInBounds_toArray, List.set_cons_zero, List.set_cons_succ]
  refine late_take 7 (.succ (.succ (.succ (.succ (.succ (.succ (.succ .zero))))))) (v := ?_) (by kernel_rfl) (by kernel_rfl) (by kernel_rfl) (by kernel_rfl) (fun _ _ _ h => h) (by rfl) ?_ (by assumption) ?_
  rotate_left
  · (intro w hSw; go_simp) <;> with_reducible rfl
  simp only [Act.put, List.setIfInBounds_toArray, List.set_cons_zero, List.set_cons_succ]
  refine late_take 8 (.succ (.succ (.succ (.succ (.succ (.succ (.succ (.succ .zero)))))))) (v := ?_) (by kernel_rfl) (by kernel_rfl) (by kernel_rfl) (by kernel_rfl) (fun _ _ _ h => h) (by rfl) ?_ (by assumption) ?_
  rotate_left
  · (intro w hSw; go_simp) <;> with_reducible rfl
  simp only [Act.put, List.setIfInBounds_toArray, List.set_cons_zero, List.set_cons_succ]
  refine late_take 12 (.succ (.succ (.succ (.succ (.succ (.succ (.succ (.succ (.succ (.succ (.succ (.succ .zero)))))))))))) (v := ?_) (by kernel_rfl) (by kernel_rfl) (by kernel_rfl) (by kernel_rfl) (fun _ _ _ h => h) (by rfl) ?_ (by assumption) ?_
  rotate_left
  · (intro w hSw; go_simp) <;> with_reducible rfl
  simp only [Act.put, List.setIfInBounds_toArray, List.set_cons_zero, List.set_cons_succ]
  refine late_two 5 9 (.succ (.succ (.succ (.succ (.succ .zero))))) (.succ (.succ (.succ (.succ (.succ (.succ (.succ (.succ (.succ .zero))))))))) (by kernel_rfl) (fun K hK => ?_) (fun K hK => ?_)
  · skip
    go_simp
    refine hK.out _ _ ?_ (fun hHeld2 => ?_)
    · (intro _; trivial)
    clear hK K
    replace hHeld := hHeld2 (by decide)
    clear hHeld2
    try simp only [Act.put, List.setIfInBounds_toArray, List.set_cons_zero, List.set_cons_succ]
    refine late_one 9 (.succ (.succ (.succ (.succ (.succ (.succ (.succ (.succ (.succ .zero))))))))) (by kernel_rfl) (fun K hK => ?_)
    go_simp
    refine hK.out _ _ ?_ (fun hHeld2 => ?_)
    · (intro _; trivial)
    clear hK K
    replace hHeld := hHeld2 (by decide)
    clear hHeld2
    try simp only [Act.put, List.setIfInBounds_toArray, List.set_cons_zero, List.set_cons_succ]
    refine late_one 10 (.succ (.succ (.succ (.succ (.succ (.succ (.succ (.succ (.succ (.succ .zero)))))))))) (by kernel_rfl) (fun K hK => ?_)
    go_simp
    refine hK.out _ _ ?_ (fun hHeld2 => ?_)
    · (intro _; trivial)
    clear hK K
    replace hHeld := hHeld2 (by decide)
    clear hHeld2
    try simp only [Act.put, List.setIfInBounds_toArray, List.set_cons_zero, List.set_cons_succ]
    refine late_one 11 (.succ (.succ (.succ (.succ (.succ (.succ (.succ (.succ (.succ (.succ (.succ .zero))))))))))) (by kernel_rfl) (fun K hK => ?_)
    refine step_t1 (by rfl) 87 53 _ (by rfl) (.slice (some ⟨W.heap.size, 0, none⟩) 2 2) (by rfl) (fun _ _ => by rfl) ?_
    (with_reducible refine HConc.out.mono ?_)
    rintro e w2 ⟨gg, cc, rfl, ho2, hb2⟩
    refine ⟨_, rfl, ?_⟩
    have H2 : Hid (w2.ownsRow (W.heap.size + 1) 59 1 (.slice (some ⟨gg, 0, none⟩) (n1 + n2) cc) (n1 + n2) (xs ++ ys) ∧ Below W.heap.size W w2) := ⟨by have q : (W.alloc (.cells #[.slice a1 n1 c1, .slice a2 n2 c2] 94)).drew.heap.size = W.heap.size + 1 := (show (W.alloc (.cells #[.slice a1 n1 c1, .slice a2 n2 c2] 94)).heap.size = W.heap.size + 1 by simp); rw [q] at ho2; exact ho2, HB0.out w2 hb2⟩
    have hcc := own_cap H2.out.1
    clear ho2 hb2
    refine hK.out _ _ ?_ (fun hHeld2 => ?_)
    · (intro _; trivial)
    clear hK K
    replace hHeld := hHeld2 (by decide)
    clear hHeld2
    try simp only [Act.put, List.setIfInBounds_toArray, List.set_cons_zero, List.set_cons_succ]
    refine late_one 13 (.succ (.succ (.succ (.succ (.succ (.succ (.succ (.succ (.succ (.succ (.succ (.succ (.succ .zero))))))))))))) (by kernel_rfl) (fun K hK => ?_)
    have HCut : Hid (Calls Try.prog 86 #[.slice (some ⟨gg, 0, none⟩) (n1 + n2) cc, .int .i64 (st : Int)] w2 fun e w' => e = .returned (.tuple #[.slice (some ⟨gg, 0, none⟩) st st, .slice (some ⟨gg, st, none⟩) (n1 + n2 - st) (cc - st)]) ∧ w' = w2.drew) := cutN_any gg (n1 + n2) cc st w2 (by omega) hcc.1 hst
    refine step_t2 (by rfl) 86 54 55 _ (by rfl) (.slice (some ⟨gg, 0, none⟩) (n1 + n2) cc) (.int .i64 (st : Int)) (by rfl) (by rfl) (fun _ _ => by rfl) ?_
    (with_reducible refine HCut.out.mono ?_)
    rintro e w3 ⟨rfl, hw3⟩
    refine ⟨_, rfl, ?_⟩
    have H3 : Hid (Bx w3 b 96 #[.int .i64 x0, .slice a1 n1 c1] ∧ Bx w3 r 96 #[.int .i64 y0, .slice a2 n2 c2] ∧ w3.ownsRow (W.heap.size + 1) 59 1 (.slice (some ⟨gg, 0, none⟩) (n1 + n2) cc) (n1 + n2) (xs ++ ys) ∧ Below W.heap.size W w3) := by
      subst hw3
      exact ⟨(HX.out.1.below H2.out.2).drew, (HX.out.2.below H2.out.2).drew, own_below H2.out.1 (Below.refl _ _).drew, H2.out.2.drew⟩
    have l1 := H3.out.1.cell 1
    have l2 := H3.out.2.1.cell 1
    simp at l1 l2
    have lf1 := H3.out.1.frozen 1
    have lf2 := H3.out.2.1.frozen 1
    have lz1 := H3.out.1.lt
    have lz2 := H3.out.2.1.lt
    clear hw3 HCut
    refine hK.out _ _ ?_ (fun hHeld2 => ?_)
    · (intro _; trivial)
    clear hK K
    replace hHeld := hHeld2 (by decide)
    clear hHeld2
    try simp only [Act.put, List.setIfInBounds_toArray, List.set_cons_zero, List.set_cons_succ]
    refine late_one 14 (.succ (.succ (.succ (.succ (.succ (.succ (.succ (.succ (.succ (.succ (.succ (.succ (.succ (.succ .zero)))))))))))))) (by kernel_rfl) (fun K hK => ?_)
    go_simp
    refine hK.out _ _ ?_ (fun hHeld2 => ?_)
    · (intro _; trivial)
    clear hK K
    replace hHeld := hHeld2 (by decide)
    clear hHeld2
    try simp only [Act.put, List.setIfInBounds_toArray, List.set_cons_zero, List.set_cons_succ]
    refine late_take 15 (.succ (.succ (.succ (.succ (.succ (.succ (.succ (.succ (.succ (.succ (.succ (.succ (.succ (.succ (.succ .zero))))))))))))))) (v := ?_) (by kernel_rfl) (by kernel_rfl) (by kernel_rfl) (by kernel_rfl) (fun _ _ _ h => h) (by rfl) ?_ (by assumption) ?_
    rotate_left
    · (intro w hSw; go_simp) <;> with_reducible rfl
    simp only [Act.put, List.setIfInBounds_toArray, List.set_cons_zero, List.set_cons_succ]
    refine late_take 16 (.succ (.succ (.succ (.succ (.succ (.succ (.succ (.succ (.succ (.succ (.succ (.succ (.succ (.succ (.succ (.succ .zero)))))))))))))))) (v := ?_) (by kernel_rfl) (by kernel_rfl) (by kernel_rfl) (by kernel_rfl) (fun _ _ _ h => h) (by rfl) ?_ (by assumption) ?_
    rotate_left
    · (intro w hSw; go_simp) <;> with_reducible rfl
    simp only [Act.put, List.setIfInBounds_toArray, List.set_cons_zero, List.set_cons_succ]
    refine late_take 17 (.succ (.succ (.succ (.succ (.succ (.succ (.succ (.succ (.succ (.succ (.succ (.succ (.succ (.succ (.succ (.succ (.succ .zero))))))))))))))))) (v := ?_) (by kernel_rfl) (by kernel_rfl) (by kernel_rfl) (by kernel_rfl) (fun _ _ _ h => h) (by rfl) ?_ (by assumption) ?_
    rotate_left
    · (intro w hSw; go_simp) <;> with_reducible rfl
    simp only [Act.put, List.setIfInBounds_toArray, List.set_cons_zero, List.set_cons_succ]
    refine late_take 18 (.succ (.succ (.succ (.succ (.succ (.succ (.succ (.succ (.succ (.succ (.succ (.succ (.succ (.succ (.succ (.succ (.succ (.succ .zero)))))))))))))))))) (v := ?_) (by kernel_rfl) (by kernel_rfl) (by kernel_rfl) (by kernel_rfl) (fun _ _ _ h => h) (by rfl) ?_ (by assumption) ?_
    rotate_left
    · (intro w hSw; go_simp) <;> with_reducible rfl
    simp only [Act.put, List.setIfInBounds_toArray, List.set_cons_zero, List.set_cons_succ]
    refine late_one 19 (.succ (.succ (.succ (.succ (.succ (.succ (.succ (.succ (.succ (.succ (.succ (.succ (.succ (.succ (.succ (.succ (.succ (.succ (.succ .zero))))))))))))))))))) (by kernel_rfl) (fun K hK => ?_)
    go_simp
    refine hK.out _ _ ?_ (fun hHeld2 => ?_)
    · (intro _; trivial)
    clear hK K
    replace hHeld := hHeld2 (by decide)
    clear hHeld2
    try simp only [Act.put, List.setIfInBounds_toArray, List.set_cons_zero, List.set_cons_succ]
    refine late_one 20 (.succ (.succ (.succ (.succ (.succ (.succ (.succ (.succ (.succ (.succ (.succ (.succ (.succ (.succ (.succ (.succ (.succ (.succ (.succ (.succ .zero)))))))))))))))))))) (by kernel_rfl) (fun K hK => ?_)
    go_simp
    refine hK.out _ _ ?_ (fun hHeld2 => ?_)
    · (intro _; trivial)
    clear hK K
    replace hHeld := hHeld2 (by decide)
    clear hHeld2
    try simp only [Act.put, List.setIfInBounds_toArray, List.set_cons_zero, List.set_cons_succ]
    refine late_one 21 (.succ (.succ (.succ (.succ (.succ (.succ (.succ (.succ (.succ (.succ (.succ (.succ (.succ (.succ (.succ (.succ (.succ (.succ (.succ (.succ (.succ .zero))))))))))))))))))))) (by kernel_rfl) (fun K hK => ?_)
    go_simp
    refine hK.out _ _ ?_ (fun hHeld2 => ?_)
    · (intro _; trivial)
    clear hK K
    replace hHeld := hHeld2 (by decide)
    clear hHeld2
    try simp only [Act.put, List.setIfInBounds_toArray, List.set_cons_zero, List.set_cons_succ]
    refine late_one 22 (.succ (.succ (.succ (.succ (.succ (.succ (.succ (.succ (.succ (.succ (.succ (.succ (.succ (.succ (.succ (.succ (.succ (.succ (.succ (.succ (.succ (.succ .zero)))))))))))))))))))))) (by kernel_rfl) (fun K hK => ?_)
    go_simp
    refine hK.out _ _ ?_ (fun hHeld2 => ?_)
    · (intro hne; exact absurd rfl hne)
    clear hK K hHeld2
    refine wpLate_done (by kernel_rfl) ?_ _
    have HW : Hid (Bx ((w3.setCell ⟨b, 1, none⟩ (.slice (some ⟨gg, 0, none⟩) st st)).setCell ⟨r, 1, none⟩ (.slice (some ⟨gg, st, none⟩) (n1 + n2 - st) (cc - st))) b 96 #[.int .i64 x0, .slice (some ⟨gg, 0, none⟩) st st] ∧ Bx ((w3.setCell ⟨b, 1, none⟩ (.slice (some ⟨gg, 0, none⟩) st st)).setCell ⟨r, 1, none⟩ (.slice (some ⟨gg, st, none⟩) (n1 + n2 - st) (cc - st))) r 96 #[.int .i64 y0, .slice (some ⟨gg, st, none⟩) (n1 + n2 - st) (cc - st)] ∧ Fr2 w3 ((w3.setCell ⟨b, 1, none⟩ (.slice (some ⟨gg, 0, none⟩) st st)).setCell ⟨r, 1, none⟩ (.slice (some ⟨gg, st, none⟩) (n1 + n2 - st) (cc - st))) b r) := by
      refine ⟨?_, ?_, fr2_set2 _ _ _ _ _ _ _⟩
      · have q := (H3.out.1.set 1 (.slice (some ⟨gg, 0, none⟩) st st)).other (p := ⟨r, 1, none⟩) hbr (.slice (some ⟨gg, st, none⟩) (n1 + n2 - st) (cc - st))
        simpa using q
      · have q := (H3.out.2.1.other (p := ⟨b, 1, none⟩) hbr.symm (.slice (some ⟨gg, 0, none⟩) st st)).set 1 (.slice (some ⟨gg, st, none⟩) (n1 + n2 - st) (cc - st))
        simpa using q
    generalize (w3.setCell ⟨b, 1, none⟩ (.slice (some ⟨gg, 0, none⟩) st st)).setCell ⟨r, 1, none⟩ (.slice (some ⟨gg, st, none⟩) (n1 + n2 - st) (cc - st)) = W4 at HW ⊢
    clear l1 l2 lf1 lf2 lz1 lz2 hHeld
    have hcc2 : st ≤ cc := by omega
    have HF : Hid (Fr2 W W4 b r) := (fr2_of b r H3.out.2.2.2).trans HW.out.2.2
    have hgl := own_lt H3.out.2.2.1 gg rfl
    have HCe : Hid (∀ j u, (xs ++ ys)[j]? = some u → W4.cell? ⟨gg, j, none⟩ = some u) := by
      intro j u hj
      have hjl := (List.getElem?_eq_some_iff.1 hj).1
      have hz := H3.out.2.2.1.1
      rw [World.cell?_of_block (a := ⟨gg, j, none⟩) (HW.out.2.2.2.2.2.2 gg hgl.2 (by omega) (by omega)), H3.out.2.2.1.cellAt j (by omega)]
      exact hj
    have HR1 : Hid (Calls Try.prog 57 #[.pointer (some ⟨b, 0, none⟩)] W4 fun e w' => e = .returned (.tuple #[]) ∧ W4.grownBy w' (some b) ∧ w'.heap.size = W4.heap.size ∧ Bx w' b 96 #[.int .i64 ((((l.drop 0).take st).flatMap (keysR d)).length : Int), .slice (some ⟨gg, 0, none⟩) st st]) := by
      refine recountO_any d b gg 0 st st ((l.drop 0).take st) x0 (((xs ++ ys).drop 0).take st) W4 HW.out.1 (by rw [List.length_take, List.length_drop, ← HL.out.1]; omega) (by omega) ?_ (fun j u hj => ?_) (by omega) (fun k h => ?_)
      · have := flat_take_le (keysR d) l st
        rw [List.drop_zero]
        have := HL.out.2
        omega
      · rw [List.getElem?_take] at hj
        split at hj
        · rw [List.getElem?_drop] at hj
          exact HCe.out _ u hj
        · cases hj
      · rw [List.length_take, List.length_drop] at h
        obtain ⟨u, bb, q1, q2, q3, q4⟩ := dealIn_kid HK.out.1 HK.out.2.1 HK.out.2.2 HF.out k (by omega)
        refine ⟨u, bb, by rw [List.getElem?_take, if_pos (by omega), List.getElem?_drop, Nat.zero_add]; exact q1, q2.1, ?_, q4⟩
        rw [q3, List.getElem_take, List.getElem_drop]
        simp
    go_wp2_with fail
    (with_reducible refine HR1.out.mono ?_)
    rintro e w5 ⟨rfl, hg5, hs5, hx5⟩
    have HX5 : Hid (W4.grownBy w5 (some b) ∧ Bx w5 b 96 #[.int .i64 ((((l.drop 0).take st).flatMap (keysR d)).length : Int), .slice (some ⟨gg, 0, none⟩) st st] ∧ Bx w5 r 96 #[.int .i64 y0, .slice (some ⟨gg, st, none⟩) (n1 + n2 - st) (cc - st)]) := ⟨hg5, hx5, HW.out.2.1.grown hg5 (fun e => hbr (by injection e))⟩
    clear hg5 hs5 hx5 HR1
    have HR2 : Hid (Calls Try.prog 57 #[.pointer (some ⟨r, 0, none⟩)] w5 fun e w' => e = .returned (.tuple #[]) ∧ w5.grownBy w' (some r) ∧ w'.heap.size = w5.heap.size ∧ Bx w' r 96 #[.int .i64 ((((l.drop st).take (n1 + n2 - st)).flatMap (keysR d)).length : Int), .slice (some ⟨gg, st, none⟩) (n1 + n2 - st) (cc - st)]) := by
      refine recountO_any d r gg st (n1 + n2 - st) (cc - st) ((l.drop st).take (n1 + n2 - st)) y0 (((xs ++ ys).drop st).take (n1 + n2 - st)) w5 HX5.out.2.2 (by rw [List.length_take, List.length_drop, ← HL.out.1]; omega) (by omega) ?_ (fun j u hj => ?_) (by omega) (fun k h => ?_)
      · have h1 := flat_take_le (keysR d) (l.drop st) (n1 + n2 - st)
        have h2 : ((l.drop st).flatMap (keysR d)).length ≤ (l.flatMap (keysR d)).length := by
          conv => rhs; rw [← List.take_append_drop st l, List.flatMap_append, List.length_append]
          omega
        have := HL.out.2
        omega
      · rw [List.getElem?_take] at hj
        split at hj
        · rw [List.getElem?_drop] at hj
          exact HX5.out.1.cell (HCe.out _ u hj) (fun e => by injection e with e; have e' : gg = b := e; omega)
        · cases hj
      · rw [List.length_take, List.length_drop] at h
        obtain ⟨u, bb, q1, q2, q3, q4⟩ := dealIn_kid HK.out.1 HK.out.2.1 HK.out.2.2 (HF.out.trans (fr2_grown HX5.out.1)) (st + k) (by omega)
        refine ⟨u, bb, by rw [List.getElem?_take, if_pos (by omega), List.getElem?_drop]; exact q1, q2.2, ?_, q4⟩
        rw [q3, List.getElem_take, List.getElem_drop]
    go_wp2_with fail
    (with_reducible refine HR2.out.mono ?_)
    rintro e w6 ⟨rfl, hg6, hs6, hx6⟩
    have HX6 : Hid (Fr2 W w6 b r ∧ w5.grownBy w6 (some r) ∧ Bx w6 b 96 #[.int .i64 ((((l.drop 0).take st).flatMap (keysR d)).length : Int), .slice (some ⟨gg, 0, none⟩) st st] ∧ Bx w6 r 96 #[.int .i64 ((((l.drop st).take (n1 + n2 - st)).flatMap (keysR d)).length : Int), .slice (some ⟨gg, st, none⟩) (n1 + n2 - st) (cc - st)]) := ⟨(HF.out.trans (fr2_grown HX5.out.1)).trans (fr2_grown' hg6), hg6, HX5.out.2.1.grown hg6 (fun e => hbr (by injection e with e; exact e.symm)), hx6⟩
    clear hg6 hs6 hx6 HR2
    go_wp2
    go_end0
    have hL := HL.out.1
    have hs4 := HF.out.2.2.2.1
    have hz4 := HW.out.2.2.2.2.2.1
    have hz5 := HX5.out.1.size
    have hz6 := HX6.out.2.1.size
    have hce6 : ∀ j u, (xs ++ ys)[j]? = some u → w6.cell? ⟨gg, j, none⟩ = some u := fun j u hj => HX6.out.2.1.cell (HX5.out.1.cell (HCe.out j u hj) (fun e => by injection e with e; have e' : gg = b := e; omega)) (fun e => by injection e with e; have e' : gg = r := e; omega)
    refine ⟨rfl, HX6.out.1, dealIn_side HK.out.1 HK.out.2.1 HK.out.2.2 HX6.out.1 HX6.out.2.2.1 (by omega) (by omega) (by omega) (by omega) hst0 (by omega) (fun j u hj => ?_), dealIn_side HK.out.1 HK.out.2.1 HK.out.2.2 HX6.out.1 HX6.out.2.2.2 (by omega) (by omega) (by omega) (by omega) (by omega) (by omega) (fun j u hj => ?_)⟩
    · rw [List.getElem?_take] at hj
      split at hj
      · rw [List.getElem?_drop] at hj
        exact hce6 _ u hj
      · cases hj
    · rw [List.getElem?_take] at hj
      split at hj
      · rw [List.getElem?_drop] at hj
        exact hce6 _ u hj
      · cases hj
  · skip
    go_simp
    refine hK.out _ _ ?_ (fun hHeld2 => ?_)
    · (intro _; trivial)
    clear hK K
    replace hHeld := hHeld2 (by decide)
    clear hHeld2
    try simp only [Act.put, List.setIfInBounds_toArray, List.set_cons_zero, List.set_cons_succ]
    refine late_one 5 (.succ (.succ (.succ (.succ (.succ .zero))))) (by kernel_rfl) (fun K hK => ?_)
    go_simp
    refine hK.out _ _ ?_ (fun hHeld2 => ?_)
    · (intro _; trivial)
    clear hK K
    replace hHeld := hHeld2 (by decide)
    clear hHeld2
    try simp only [Act.put, List.setIfInBounds_toArray, List.set_cons_zero, List.set_cons_succ]
    refine late_one 10 (.succ (.succ (.succ (.succ (.succ (.succ (.succ (.succ (.succ (.succ .zero)))))))))) (by kernel_rfl) (fun K hK => ?_)
    go_simp
    refine hK.out _ _ ?_ (fun hHeld2 => ?_)
    · (intro _; trivial)
    clear hK K
    replace hHeld := hHeld2 (by decide)
    clear hHeld2
    try simp only [Act.put, List.setIfInBounds_toArray, List.set_cons_zero, List.set_cons_succ]
    refine late_one 11 (.succ (.succ (.succ (.succ (.succ (.succ (.succ (.succ (.succ (.succ (.succ .zero))))))))))) (by kernel_rfl) (fun K hK => ?_)
    refine step_t1 (by rfl) 87 53 _ (by rfl) (.slice (some ⟨W.heap.size, 0, none⟩) 2 2) (by rfl) (fun _ _ => by rfl) ?_
    (with_reducible refine HConc.out.mono ?_)
    rintro e w2 ⟨gg, cc, rfl, ho2, hb2⟩
    refine ⟨_, rfl, ?_⟩
    have H2 : Hid (w2.ownsRow (W.heap.size + 1) 59 1 (.slice (some ⟨gg, 0, none⟩) (n1 + n2) cc) (n1 + n2) (xs ++ ys) ∧ Below W.heap.size W w2) := ⟨by have q : (W.alloc (.cells #[.slice a1 n1 c1, .slice a2 n2 c2] 94)).drew.heap.size = W.heap.size + 1 := (show (W.alloc (.cells #[.slice a1 n1 c1, .slice a2 n2 c2] 94)).heap.size = W.heap.size + 1 by simp); rw [q] at ho2; exact ho2, HB0.out w2 hb2⟩
    have hcc := own_cap H2.out.1
    clear ho2 hb2
    refine hK.out _ _ ?_ (fun hHeld2 => ?_)
    · (intro _; trivial)
    clear hK K
    replace hHeld := hHeld2 (by decide)
    clear hHeld2
    try simp only [Act.put, List.setIfInBounds_toArray, List.set_cons_zero, List.set_cons_succ]
    refine late_one 13 (.succ (.succ (.succ (.succ (.succ (.succ (.succ (.succ (.succ (.succ (.succ (.succ (.succ .zero))))))))))))) (by kernel_rfl) (fun K hK => ?_)
    have HCut : Hid (Calls Try.prog 86 #[.slice (some ⟨gg, 0, none⟩) (n1 + n2) cc, .int .i64 (st : Int)] w2 fun e w' => e = .returned (.tuple #[.slice (some ⟨gg, 0, none⟩) st st, .slice (some ⟨gg, st, none⟩) (n1 + n2 - st) (cc - st)]) ∧ w' = w2.drew) := cutN_any gg (n1 + n2) cc st w2 (by omega) hcc.1 hst
    refine step_t2 (by rfl) 86 54 55 _ (by rfl) (.slice (some ⟨gg, 0, none⟩) (n1 + n2) cc) (.int .i64 (st : Int)) (by rfl) (by rfl) (fun _ _ => by rfl) ?_
    (with_reducible refine HCut.out.mono ?_)
    rintro e w3 ⟨rfl, hw3⟩
    refine ⟨_, rfl, ?_⟩
    have H3 : Hid (Bx w3 b 96 #[.int .i64 x0, .slice a1 n1 c1] ∧ Bx w3 r 96 #[.int .i64 y0, .slice a2 n2 c2] ∧ w3.ownsRow (W.heap.size + 1) 59 1 (.slice (some ⟨gg, 0, none⟩) (n1 + n2) cc) (n1 + n2) (xs ++ ys) ∧ Below W.heap.size W w3) := by
      subst hw3
      exact ⟨(HX.out.1.below H2.out.2).drew, (HX.out.2.below H2.out.2).drew, own_below H2.out.1 (Below.refl _ _).drew, H2.out.2.drew⟩
    have l1 := H3.out.1.cell 1
    have l2 := H3.out.2.1.cell 1
    simp at l1 l2
    have lf1 := H3.out.1.frozen 1
    have lf2 := H3.out.2.1.frozen 1
    have lz1 := H3.out.1.lt
    have lz2 := H3.out.2.1.lt
    clear hw3 HCut
    refine hK.out _ _ ?_ (fun hHeld2 => ?_)
    · (intro _; trivial)
    clear hK K
    replace hHeld := hHeld2 (by decide)
    clear hHeld2
    try simp only [Act.put, List.setIfInBounds_toArray, List.set_cons_zero, List.set_cons_succ]
    refine late_one 14 (.succ (.succ (.succ (.succ (.succ (.succ (.succ (.succ (.succ (.succ (.succ (.succ (.succ (.succ .zero)))))))))))))) (by kernel_rfl) (fun K hK => ?_)
    go_simp
    refine hK.out _ _ ?_ (fun hHeld2 => ?_)
    · (intro _; trivial)
    clear hK K
    replace hHeld := hHeld2 (by decide)
    clear hHeld2
    try simp only [Act.put, List.setIfInBounds_toArray, List.set_cons_zero, List.set_cons_succ]
    refine late_take 15 (.succ (.succ (.succ (.succ (.succ (.succ (.succ (.succ (.succ (.succ (.succ (.succ (.succ (.succ (.succ .zero))))))))))))))) (v := ?_) (by kernel_rfl) (by kernel_rfl) (by kernel_rfl) (by kernel_rfl) (fun _ _ _ h => h) (by rfl) ?_ (by assumption) ?_
    rotate_left
    · (intro w hSw; go_simp) <;> with_reducible rfl
    simp only [Act.put, List.setIfInBounds_toArray, List.set_cons_zero, List.set_cons_succ]
    refine late_take 16 (.succ (.succ (.succ (.succ (.succ (.succ (.succ (.succ (.succ (.succ (.succ (.succ (.succ (.succ (.succ (.succ .zero)))))))))))))))) (v := ?_) (by kernel_rfl) (by kernel_rfl) (by kernel_rfl) (by kernel_rfl) (fun _ _ _ h => h) (by rfl) ?_ (by assumption) ?_
    rotate_left
    · (intro w hSw; go_simp) <;> with_reducible rfl
    simp only [Act.put, List.setIfInBounds_toArray, List.set_cons_zero, List.set_cons_succ]
    refine late_take 17 (.succ (.succ (.succ (.succ (.succ (.succ (.succ (.succ (.succ (.succ (.succ (.succ (.succ (.succ (.succ (.succ (.succ .zero))))))))))))))))) (v := ?_) (by kernel_rfl) (by kernel_rfl) (by kernel_rfl) (by kernel_rfl) (fun _ _ _ h => h) (by rfl) ?_ (by assumption) ?_
    rotate_left
    · (intro w hSw; go_simp) <;> with_reducible rfl
    simp only [Act.put, List.setIfInBounds_toArray, List.set_cons_zero, List.set_cons_succ]
    refine late_take 18 (.succ (.succ (.succ (.succ (.succ (.succ (.succ (.succ (.succ (.succ (.succ (.succ (.succ (.succ (.succ (.succ (.succ (.succ .zero)))))))))))))))))) (v := ?_) (by kernel_rfl) (by kernel_rfl) (by kernel_rfl) (by kernel_rfl) (fun _ _ _ h => h) (by rfl) ?_ (by assumption) ?_
    rotate_left
    · (intro w hSw; go_simp) <;> with_reducible rfl
    simp only [Act.put, List.setIfInBounds_toArray, List.set_cons_zero, List.set_cons_succ]
    refine late_one 19 (.succ (.succ (.succ (.succ (.succ (.succ (.succ (.succ (.succ (.succ (.succ (.succ (.succ (.succ (.succ (.succ (.succ (.succ (.succ .zero))))))))))))))))))) (by kernel_rfl) (fun K hK => ?_)
    go_simp
    refine hK.out _ _ ?_ (fun hHeld2 => ?_)
    · (intro _; trivial)
    clear hK K
    replace hHeld := hHeld2 (by decide)
    clear hHeld2
    try simp only [Act.put, List.setIfInBounds_toArray, List.set_cons_zero, List.set_cons_succ]
    refine late_one 20 (.succ (.succ (.succ (.succ (.succ (.succ (.succ (.succ (.succ (.succ (.succ (.succ (.succ (.succ (.succ (.succ (.succ (.succ (.succ (.succ .zero)))))))))))))))))))) (by kernel_rfl) (fun K hK => ?_)
    go_simp
    refine hK.out _ _ ?_ (fun hHeld2 => ?_)
    · (intro _; trivial)
    clear hK K
    replace hHeld := hHeld2 (by decide)
    clear hHeld2
    try simp only [Act.put, List.setIfInBounds_toArray, List.set_cons_zero, List.set_cons_succ]
    refine late_one 21 (.succ (.succ (.succ (.succ (.succ (.succ (.succ (.succ (.succ (.succ (.succ (.succ (.succ (.succ (.succ (.succ (.succ (.succ (.succ (.succ (.succ .zero))))))))))))))))))))) (by kernel_rfl) (fun K hK => ?_)
    go_simp
    refine hK.out _ _ ?_ (fun hHeld2 => ?_)
    · (intro _; trivial)
    clear hK K
    replace hHeld := hHeld2 (by decide)
    clear hHeld2
    try simp only [Act.put, List.setIfInBounds_toArray, List.set_cons_zero, List.set_cons_succ]
    refine late_one 22 (.succ (.succ (.succ (.succ (.succ (.succ (.succ (.succ (.succ (.succ (.succ (.succ (.succ (.succ (.succ (.succ (.succ (.succ (.succ (.succ (.succ (.succ .zero)))))))))))))))))))))) (by kernel_rfl) (fun K hK => ?_)
    go_simp
    refine hK.out _ _ ?_ (fun hHeld2 => ?_)
    · (intro hne; exact absurd rfl hne)
    clear hK K hHeld2
    refine wpLate_done (by kernel_rfl) ?_ _
    have HW : Hid (Bx ((w3.setCell ⟨b, 1, none⟩ (.slice (some ⟨gg, 0, none⟩) st st)).setCell ⟨r, 1, none⟩ (.slice (some ⟨gg, st, none⟩) (n1 + n2 - st) (cc - st))) b 96 #[.int .i64 x0, .slice (some ⟨gg, 0, none⟩) st st] ∧ Bx ((w3.setCell ⟨b, 1, none⟩ (.slice (some ⟨gg, 0, none⟩) st st)).setCell ⟨r, 1, none⟩ (.slice (some ⟨gg, st, none⟩) (n1 + n2 - st) (cc - st))) r 96 #[.int .i64 y0, .slice (some ⟨gg, st, none⟩) (n1 + n2 - st) (cc - st)] ∧ Fr2 w3 ((w3.setCell ⟨b, 1, none⟩ (.slice (some ⟨gg, 0, none⟩) st st)).setCell ⟨r, 1, none⟩ (.slice (some ⟨gg, st, none⟩) (n1 + n2 - st) (cc - st))) b r) := by
      refine ⟨?_, ?_, fr2_set2 _ _ _ _ _ _ _⟩
      · have q := (H3.out.1.set 1 (.slice (some ⟨gg, 0, none⟩) st st)).other (p := ⟨r, 1, none⟩) hbr (.slice (some ⟨gg, st, none⟩) (n1 + n2 - st) (cc - st))
        simpa using q
      · have q := (H3.out.2.1.other (p := ⟨b, 1, none⟩) hbr.symm (.slice (some ⟨gg, 0, none⟩) st st)).set 1 (.slice (some ⟨gg, st, none⟩) (n1 + n2 - st) (cc - st))
        simpa using q
    generalize (w3.setCell ⟨b, 1, none⟩ (.slice (some ⟨gg, 0, none⟩) st st)).setCell ⟨r, 1, none⟩ (.slice (some ⟨gg, st, none⟩) (n1 + n2 - st) (cc - st)) = W4 at HW ⊢
    clear l1 l2 lf1 lf2 lz1 lz2 hHeld
    have hcc2 : st ≤ cc := by omega
    have HF : Hid (Fr2 W W4 b r) := (fr2_of b r H3.out.2.2.2).trans HW.out.2.2
    have hgl := own_lt H3.out.2.2.1 gg rfl
    have HCe : Hid (∀ j u, (xs ++ ys)[j]? = some u → W4.cell? ⟨gg, j, none⟩ = some u) := by
      intro j u hj
      have hjl := (List.getElem?_eq_some_iff.1 hj).1
      have hz := H3.out.2.2.1.1
      rw [World.cell?_of_block (a := ⟨gg, j, none⟩) (HW.out.2.2.2.2.2.2 gg hgl.2 (by omega) (by omega)), H3.out.2.2.1.cellAt j (by omega)]
      exact hj
    have HR1 : Hid (Calls Try.prog 57 #[.pointer (some ⟨b, 0, none⟩)] W4 fun e w' => e = .returned (.tuple #[]) ∧ W4.grownBy w' (some b) ∧ w'.heap.size = W4.heap.size ∧ Bx w' b 96 #[.int .i64 ((((l.drop 0).take st).flatMap (keysR d)).length : Int), .slice (some ⟨gg, 0, none⟩) st st]) := by
      refine recountO_any d b gg 0 st st ((l.drop 0).take st) x0 (((xs ++ ys).drop 0).take st) W4 HW.out.1 (by rw [List.length_take, List.length_drop, ← HL.out.1]; omega) (by omega) ?_ (fun j u hj => ?_) (by omega) (fun k h => ?_)
      · have := flat_take_le (keysR d) l st
        rw [List.drop_zero]
        have := HL.out.2
        omega
      · rw [List.getElem?_take] at hj
        split at hj
        · rw [List.getElem?_drop] at hj
          exact HCe.out _ u hj
        · cases hj
      · rw [List.length_take, List.length_drop] at h
        obtain ⟨u, bb, q1, q2, q3, q4⟩ := dealIn_kid HK.out.1 HK.out.2.1 HK.out.2.2 HF.out k (by omega)
        refine ⟨u, bb, by rw [List.getElem?_take, if_pos (by omega), List.getElem?_drop, Nat.zero_add]; exact q1, q2.1, ?_, q4⟩
        rw [q3, List.getElem_take, List.getElem_drop]
        simp
    go_wp2_with fail
    (with_reducible refine HR1.out.mono ?_)
    rintro e w5 ⟨rfl, hg5, hs5, hx5⟩
    have HX5 : Hid (W4.grownBy w5 (some b) ∧ Bx w5 b 96 #[.int .i64 ((((l.drop 0).take st).flatMap (keysR d)).length : Int), .slice (some ⟨gg, 0, none⟩) st st] ∧ Bx w5 r 96 #[.int .i64 y0, .slice (some ⟨gg, st, none⟩) (n1 + n2 - st) (cc - st)]) := ⟨hg5, hx5, HW.out.2.1.grown hg5 (fun e => hbr (by injection e))⟩
    clear hg5 hs5 hx5 HR1
    have HR2 : Hid (Calls Try.prog 57 #[.pointer (some ⟨r, 0, none⟩)] w5 fun e w' => e = .returned (.tuple #[]) ∧ w5.grownBy w' (some r) ∧ w'.heap.size = w5.heap.size ∧ Bx w' r 96 #[.int .i64 ((((l.drop st).take (n1 + n2 - st)).flatMap (keysR d)).length : Int), .slice (some ⟨gg, st, none⟩) (n1 + n2 - st) (cc - st)]) := by
      refine recountO_any d r gg st (n1 + n2 - st) (cc - st) ((l.drop st).take (n1 + n2 - st)) y0 (((xs ++ ys).drop st).take (n1 + n2 - st)) w5 HX5.out.2.2 (by rw [List.length_take, List.length_drop, ← HL.out.1]; omega) (by omega) ?_ (fun j u hj => ?_) (by omega) (fun k h => ?_)
      · have h1 := flat_take_le (keysR d) (l.drop st) (n1 + n2 - st)
        have h2 : ((l.drop st).flatMap (keysR d)).length ≤ (l.flatMap (keysR d)).length := by
          conv => rhs; rw [← List.take_append_drop st l, List.flatMap_append, List.length_append]
          omega
        have := HL.out.2
        omega
      · rw [List.getElem?_take] at hj
        split at hj
        · rw [List.getElem?_drop] at hj
          exact HX5.out.1.cell (HCe.out _ u hj) (fun e => by injection e with e; have e' : gg = b := e; omega)
        · cases hj
      · rw [List.length_take, List.length_drop] at h
        obtain ⟨u, bb, q1, q2, q3, q4⟩ := dealIn_kid HK.out.1 HK.out.2.1 HK.out.2.2 (HF.out.trans (fr2_grown HX5.out.1)) (st + k) (by omega)
        refine ⟨u, bb, by rw [List.getElem?_take, if_pos (by omega), List.getElem?_drop]; exact q1, q2.2, ?_, q4⟩
        rw [q3, List.getElem_take, List.getElem_drop]
    go_wp2_with fail
    (with_reducible refine HR2.out.mono ?_)
    rintro e w6 ⟨rfl, hg6, hs6, hx6⟩
    have HX6 : Hid (Fr2 W w6 b r ∧ w5.grownBy w6 (some r) ∧ Bx w6 b 96 #[.int .i64 ((((l.drop 0).take st).flatMap (keysR d)).length : Int), .slice (some ⟨gg, 0, none⟩) st st] ∧ Bx w6 r 96 #[.int .i64 ((((l.drop st).take (n1 + n2 - st)).flatMap (keysR d)).length : Int), .slice (some ⟨gg, st, none⟩) (n1 + n2 - st) (cc - st)]) := ⟨(HF.out.trans (fr2_grown HX5.out.1)).trans (fr2_grown' hg6), hg6, HX5.out.2.1.grown hg6 (fun e => hbr (by injection e with e; exact e.symm)), hx6⟩
    clear hg6 hs6 hx6 HR2
    go_wp2
    go_end0
    have hL := HL.out.1
    have hs4 := HF.out.2.2.2.1
    have hz4 := HW.out.2.2.2.2.2.1
    have hz5 := HX5.out.1.size
    have hz6 := HX6.out.2.1.size
    have hce6 : ∀ j u, (xs ++ ys)[j]? = some u → w6.cell? ⟨gg, j, none⟩ = some u := fun j u hj => HX6.out.2.1.cell (HX5.out.1.cell (HCe.out j u hj) (fun e => by injection e with e; have e' : gg = b := e; omega)) (fun e => by injection e with e; have e' : gg = r := e; omega)
    refine ⟨rfl, HX6.out.1, dealIn_side HK.out.1 HK.out.2.1 HK.out.2.2 HX6.out.1 HX6.out.2.2.1 (by omega) (by omega) (by omega) (by omega) hst0 (by omega) (fun j u hj => ?_), dealIn_side HK.out.1 HK.out.2.1 HK.out.2.2 HX6.out.1 HX6.out.2.2.2 (by omega) (by omega) (by omega) (by omega) (by omega) (by omega) (fun j u hj => ?_)⟩
    · rw [List.getElem?_take] at hj
      split at hj
      · rw [List.getElem?_drop] at hj
        exact hce6 _ u hj
      · cases hj
    · rw [List.getElem?_take] at hj
      split at hj
      · rw [List.getElem?_drop] at hj
        exact hce6 _ u hj
      · cases hj
end Go.Proofs.Ytakemeccigpbaaa

namespace Go.Proofs.Ytakemeccigpbaaa
open Go.RowKit Go.Deep
set_option linter.unusedVariables false
set_option maxRecDepth 100000

/-- A node of the program with its own box b, all else in blocks of which S holds. -/
def NdI (S : Nat → Prop) (w : World) (b : Nat) : (d : Nat) → Ro d → Value → Prop
  | 0, _, _ => False
  | d + 1, .inl t, v => v = .iface 53 (.pointer (some ⟨b, 0, none⟩)) ∧ ∃ ka kc, Bx w b 57 #[.int .i64 (t.length : Int), .slice ka t.length kc] ∧ (t.length ≤ kc ∧ kc ≤ 9223372036854775807) ∧ RdO S w ka t.length (fun i => .string (gt t i))
  | d + 1, .inr l, v => v = .iface 91 (.pointer (some ⟨b, 0, none⟩)) ∧ ∃ (g o kc : Nat) (xs : List Value), Bx w b 96 #[.int .i64 ((l.flatMap (keysR d)).length : Int), .slice (some ⟨g, o, none⟩) l.length kc] ∧ S g ∧ (g < w.heap.size ∧ l.length ≤ kc ∧ kc ≤ 9223372036854775807) ∧ (0 < l.length ∧ xs.length = l.length) ∧ (∀ j u, xs[j]? = some u → w.cell? ⟨g, o + j, none⟩ = some u) ∧
      ∀ k (h : k < l.length), ∃ u, xs[k]? = some u ∧ TAo S w d l[k] u

theorem NdI.tao {S : Nat → Prop} {w : World} {b : Nat} : ∀ {d : Nat} {t : Ro d} {v : Value}, NdI S w b d t v → ¬ S b → TAo (fun x => S x ∨ x = b) w d t v
  | 0, _, _, h, _ => h.elim
  | d + 1, .inl t, v, h, hb => by
    obtain ⟨rfl, ka, kc, hx, hc, hr⟩ := h
    exact ⟨b, ka, kc, rfl, .inr rfl, hx, hc, hr.keep (Nat.le_refl _) (fun x hx _ => ⟨.inl hx, rfl⟩)⟩
  | d + 1, .inr l, v, h, hb => by
    obtain ⟨rfl, g, o, kc, xs, hx, hg, hc, h0, hcc, hk⟩ := h
    refine ⟨b, g, o, kc, xs, rfl, .inr rfl, hx, ⟨.inl hg, fun e => hb (e ▸ hg)⟩, hc, h0.1, hcc, fun k h => ?_⟩
    obtain ⟨u, e, ht⟩ := hk k h
    exact ⟨u, e, ht.wide (fun x hx _ => .inl hx)⟩

theorem NdI.keep {S S' : Nat → Prop} {w w' : World} {b : Nat} (hz : w.heap.size ≤ w'.heap.size) (hb : w'.heap[b]? = w.heap[b]?) (hS : ∀ x, S x → x < w.heap.size → S' x ∧ w'.heap[x]? = w.heap[x]?) : ∀ {d : Nat} {t : Ro d} {v : Value}, NdI S w b d t v → NdI S' w' b d t v
  | 0, _, _, h => h
  | d + 1, .inl t, v, h => by
    obtain ⟨rfl, ka, kc, hx, hc, hr⟩ := h
    exact ⟨rfl, ka, kc, hx.of_block hb, hc, hr.keep hz hS⟩
  | d + 1, .inr l, v, h => by
    obtain ⟨rfl, g, o, kc, xs, hx, hg, hc, h0, hcc, hk⟩ := h
    obtain ⟨q1, q2⟩ := hS g hg hc.1
    refine ⟨rfl, g, o, kc, xs, hx.of_block hb, q1, ⟨by omega, hc.2⟩, h0, fun j u hj => (World.cell?_of_block (a := ⟨g, o + j, none⟩) q2).trans (hcc j u hj), fun k h => ?_⟩
    obtain ⟨u, e, ht⟩ := hk k h
    exact ⟨u, e, TAo.keep hz hS ht⟩

theorem TAo.oneCell {S : Nat → Prop} {w : World} : ∀ {d : Nat} {t : Ro d} {v : Value}, TAo S w d t v → v.oneCell' = true
  | 0, _, _, h => h.elim
  | d + 1, .inl t, v, h => by obtain ⟨_, _, _, rfl, _⟩ := h; rfl
  | d + 1, .inr l, v, h => by obtain ⟨_, _, _, _, _, rfl, _⟩ := h; rfl

/-- What 'part' leaves: the node itself and its new right neighbour. -/
def RetPart (S : Nat → Prop) (w : World) (b d : Nat) (t : Ro (d + 1)) (v : Value) (e : Ending) (w' : World) : Prop :=
  ∃ u, e = .returned u ∧ Fr2 w w' b b ∧ TAo (fun x => S x ∨ x = b ∨ w.heap.size ≤ x) w' (d + 1) (cutR 0 3 t) v ∧ TAo (fun x => S x ∨ w.heap.size ≤ x) w' (d + 1) (cutR 3 5 t) u

theorem fr2_new {w w' : World} {b r : Nat} {o : Obj} (hr : r = w.heap.size) (h : Fr2 (w.alloc o) w' b r) : Fr2 w w' b b := by
  obtain ⟨h1, h2, h3, h4, h5⟩ := h
  refine ⟨h1, h2, h3, by simp at h4; omega, fun k hk n1 _ => ?_⟩
  rw [h5 k (by simp; omega) n1 (by omega)]
  exact (below_alloc w o).block k hk

set_option maxHeartbeats 4000000 in
theorem part_o (d b : Nat) (t : Ro (d + 1)) (v : Value) (S : Nat → Prop) (w : World) (h : NdI S w b (d + 1) t v) (hb : ¬ S b) (hS : ∀ x, S x → x < w.heap.size) (h5 : sizR t = 5) (hlen : (keysR (d + 1) t).length ≤ 1099511627776) :
    Calls Try.prog 56 #[v] w (RetPart S w b d t v) := by
  rcases t with L | l
  · obtain ⟨rfl, ka, kc, hx, hc, hr⟩ := h
    have h5' : L.length = 5 := h5
    have hxa : Bx (w.alloc (.cells #[.int .i64 0, .slice none 0 0] 57)) b 57 #[.int .i64 (L.length : Int), .slice ka L.length kc] := hx.alloc _
    have hV : RdV w ka L.length (strL L) := by
      refine ⟨strL_length L, strL_one L, ?_⟩
      rcases hr with q | ⟨g, o, rfl, _, hl, hcc⟩
      · exact .inl q
      · refine .inr ⟨g, o, rfl, hl, fun j u hj => ?_⟩
        have hj2 := (List.getElem?_eq_some_iff.1 hj).1
        rw [strL_length] at hj2
        rw [strL_get L j hj2] at hj
        injection hj with hj
        subst hj
        exact hcc j hj2
    have HDl : Hid (Calls Try.prog 73 #[.iface 53 (.pointer (some ⟨b, 0, none⟩)), .iface 53 (.pointer (some ⟨w.heap.size, 0, none⟩)), .int .i64 3] (w.alloc (.cells #[.int .i64 0, .slice none 0 0] 57)) fun e w' => e = .returned (.tuple #[]) ∧ RetPart S w b d (.inl L) (.iface 53 (.pointer (some ⟨b, 0, none⟩))) (.returned (.iface 53 (.pointer (some ⟨w.heap.size, 0, none⟩)))) w') := by
      refine (dealLeaf_any d b w.heap.size L.length 0 kc 0 3 ka none _ 0 L [] (w.alloc (.cells #[.int .i64 0, .slice none 0 0] 57)) hxa (Bx.new _ _ _) (by have := hx.lt; omega) (hV.below (below_alloc _ _)) ⟨rfl, fun u hu => (by cases hu), .inl rfl⟩ (by omega) (by omega) (by omega)).mono ?_
      rintro e w' ⟨rfl, q1, q2, q3⟩
      refine ⟨rfl, _, rfl, fr2_new rfl q1, ?_, ?_⟩
      · rw [List.append_nil] at q2
        refine TAo.wide (show TAo _ _ (d + 1) (.inl ((L.take 3).drop 0)) _ from by rw [List.drop_zero]; exact q2) (fun x hx _ => ?_)
        rcases hx with h | h
        · exact .inr (.inl h)
        · exact .inr (.inr (by simp at h; omega))
      · rw [List.append_nil] at q3
        refine TAo.wide (show TAo _ _ (d + 1) (.inl ((L.take 5).drop 3)) _ from by rw [List.take_of_length_le (by omega : L.length ≤ 5)]; exact q3) (fun x hx _ => ?_)
        rcases hx with h | h
        · exact .inr (by omega)
        · exact .inr (by simp at h; omega)
    have t1 := ta1 (.pointer (some ⟨b, 0, none⟩))
    clear hx hc hr hxa hV h5 h5'
    go_enter Try.func56, Try.ntmps56
    go_wp2_with fail
    (with_reducible refine HDl.out.mono ?_)
    rintro e w2 ⟨rfl, hret⟩
    have HR : Hid (RetPart S w b d (.inl L) (.iface 53 (.pointer (some ⟨b, 0, none⟩))) (.returned (.iface 53 (.pointer (some ⟨w.heap.size, 0, none⟩)))) w2) := hret
    clear hret
    go_wp2
    go_ret
    exact HR.out
  · obtain ⟨rfl, g, o, kc, xs, hx, hg, hc, h0, hcc, hk⟩ := h
    have h5' : l.length = 5 := h5
    have hxa : Bx (w.alloc (.cells #[.int .i64 0, .slice none 0 0] 96)) b 96 #[.int .i64 ((l.flatMap (keysR d)).length : Int), .slice (some ⟨g, o, none⟩) l.length kc] := hx.alloc _
    have hV : RdV w (some ⟨g, o, none⟩) l.length xs := by
      refine ⟨h0.2, fun u hu => ?_, .inr ⟨g, o, rfl, hc.1, hcc⟩⟩
      obtain ⟨k, hkl, e⟩ := List.getElem_of_mem hu
      obtain ⟨u', q1, q2⟩ := hk k (by omega)
      rw [List.getElem?_eq_getElem hkl, e] at q1
      injection q1 with q1
      subst q1
      exact q2.oneCell
    have hk2 : ∀ k (h : k < l.length), ∃ u, (xs ++ [])[k]? = some u ∧ TAo S (w.alloc (.cells #[.int .i64 0, .slice none 0 0] 96)) d l[k] u := fun k h => by
      obtain ⟨u, q1, q2⟩ := hk k h
      exact ⟨u, by rw [List.append_nil]; exact q1, q2.below (below_alloc _ _)⟩
    have HDl : Hid (Calls Try.prog 73 #[.iface 91 (.pointer (some ⟨b, 0, none⟩)), .iface 91 (.pointer (some ⟨w.heap.size, 0, none⟩)), .int .i64 3] (w.alloc (.cells #[.int .i64 0, .slice none 0 0] 96)) fun e w' => e = .returned (.tuple #[]) ∧ RetPart S w b d (.inr l) (.iface 91 (.pointer (some ⟨b, 0, none⟩))) (.returned (.iface 91 (.pointer (some ⟨w.heap.size, 0, none⟩)))) w') := by
      refine (dealInner_any d b w.heap.size l.length 0 kc 0 3 (some ⟨g, o, none⟩) none _ 0 xs [] l S (w.alloc (.cells #[.int .i64 0, .slice none 0 0] 96)) hxa (Bx.new _ _ _) (by have := hx.lt; omega) (hV.below (below_alloc _ _)) ⟨rfl, fun u hu => (by cases hu), .inl rfl⟩ rfl hk2 hb (fun h => by have := hS _ h; omega) hlen (by omega) (by omega) (by omega)).mono ?_
      rintro e w' ⟨rfl, q1, q2, q3⟩
      refine ⟨rfl, _, rfl, fr2_new rfl q1, ?_, ?_⟩
      · refine TAo.wide (show TAo _ _ (d + 1) (.inr ((l.take 3).drop 0)) _ from by rw [List.drop_zero]; rw [List.drop_zero] at q2; exact q2) (fun x hx _ => ?_)
        rcases hx with h | h | h
        · exact .inl h
        · exact .inr (.inl h)
        · exact .inr (.inr (by simp at h; omega))
      · refine TAo.wide (show TAo _ _ (d + 1) (.inr ((l.take 5).drop 3)) _ from by rw [List.take_of_length_le (by omega : l.length ≤ 5)]; rw [List.take_of_length_le (by rw [List.length_drop]; omega)] at q3; exact q3) (fun x hx _ => ?_)
        rcases hx with h | h | h
        · exact .inl h
        · exact .inr (by omega)
        · exact .inr (by simp at h; omega)
    have t3 := ta3 (.pointer (some ⟨b, 0, none⟩))
    have t4 := ta4 (.pointer (some ⟨b, 0, none⟩))
    clear hx hc hxa hV h5 h5' hk hk2 hcc h0
    go_enter Try.func56, Try.ntmps56
    go_wp2_with fail
    (with_reducible refine HDl.out.mono ?_)
    rintro e w2 ⟨rfl, hret⟩
    have HR : Hid (RetPart S w b d (.inr l) (.iface 91 (.pointer (some ⟨b, 0, none⟩))) (.returned (.iface 91 (.pointer (some ⟨w.heap.size, 0, none⟩)))) w2) := hret
    clear hret
    go_wp2
    go_ret
    exact HR.out
end Go.Proofs.Ytakemeccigpbaaa

namespace Go.Proofs.Ytakemeccigpbaaa
open Go.RowKit Go.Deep
set_option linter.unusedVariables false
set_option maxRecDepth 100000

/-- One node or two, whatever the height. -/
def splU : (d : Nat) → Ro d → List (Ro d)
  | 0, _ => []
  | d + 1, t => splR t
/-- The node with the key put in, not parted yet. -/
def InsU (key : ByteArray) : (d : Nat) → Ro d → Ro d → Prop
  | 0, _, _ => False
  | d + 1, .inl ks, t' => t' = .inl (insK key ks)
  | d + 1, .inr l, t' => ∃ i, KidIs l key i ∧ ∃ (h : i < l.length) (u : Ro d), InsU key d l[i] u ∧ t' = .inr (l.take i ++ splU d u ++ l.drop (i + 1))

theorem InsU.insR {key : ByteArray} : ∀ {d : Nat} {t u : Ro d}, InsU key d t u → InsR key d t (splU d u)
  | 0, _, _, h => h.elim
  | d + 1, .inl ks, u, h => by
    have h' : u = .inl (insK key ks) := h
    subst h'
    rw [InsR_inl]
    rfl
  | d + 1, .inr l, u, h => by
    obtain ⟨i, h1, h2, u', h3, e⟩ := h
    subst e
    rw [InsR_inr]
    exact ⟨i, h1, h2, splU d u', InsU.insR h3, rfl⟩

theorem sizU_le {key : ByteArray} {d : Nat} {t u : Ro (d + 1)} {root : Bool} {h : Nat} (hb : BalR (d + 1) root t h) (hu : InsU key (d + 1) t u) : sizR u ≤ 5 := by
  rcases t with ks | l
  · have h' : u = .inl (insK key ks) := hu
    subst h'
    show (insK key ks).length ≤ 5
    rw [insK_length]
    have := hb.2.1
    omega
  · obtain ⟨i, h1, h2, u', h3, rfl⟩ := hu
    obtain ⟨b2, b4, h', _, hall⟩ := hb
    show (l.take i ++ splU d u' ++ l.drop (i + 1)).length ≤ 5
    rw [List.length_append, List.length_append, List.length_take, List.length_drop]
    rcases InsR.bal (hall _ (List.getElem_mem h2)) h3.insR with ⟨y, e, _⟩ | ⟨y, z, e, _⟩
    · rw [e]; simp only [List.length_cons, List.length_nil]; omega
    · rw [e]; simp only [List.length_cons, List.length_nil]; omega

/-- A key of the tree is one of the child that it belongs to. -/
theorem mem_kid {d : Nat} {l : List (Ro d)} {key : ByteArray} {i : Nat} (ha : Asc (l.flatMap (keysR d))) (hp : ∀ k (h : k < l.length), 0 < (keysR d l[k]).length) (h : KidIs l key i) (hi : i < l.length) : key ∈ l.flatMap (keysR d) ↔ key ∈ keysR d l[i] := by
  constructor
  · intro hm
    rw [List.mem_flatMap] at hm
    obtain ⟨t, ht, hk⟩ := hm
    obtain ⟨j, hj, rfl⟩ := List.getElem_of_mem ht
    unfold Asc at ha
    rw [List.pairwise_flatMap] at ha
    have pw := List.pairwise_iff_getElem.1 ha.2
    rcases Nat.lt_trichotomy j i with h1 | h1 | h1
    · have q := pw j i hj hi h1 key hk _ (gt_mem (hp i hi))
      rw [h.2.1 hi (by omega)] at q
      cases q
    · subst h1; exact hk
    · have hi1 : i + 1 < l.length := by omega
      have q1 := h.2.2 hi1
      by_cases e : j = i + 1
      · subst e
        obtain ⟨m, hm, e2⟩ := List.getElem_of_mem hk
        have eg : gt (keysR d l[i + 1]) m = key := by
          unfold gt
          rw [List.getD_eq_getElem?_getD, List.getElem?_eq_getElem hm]
          exact e2
        by_cases m0 : m = 0
        · subst m0
          rw [eg, less_irrefl] at q1
          cases q1
        · have q2 := asc_lt (ha.1 _ (List.getElem_mem hi1)) (show 0 < m by omega) hm
          rw [eg] at q2
          rw [less_asym q2] at q1
          cases q1
      · have q := pw (i + 1) j hi1 hj (by omega) _ (gt_mem (hp _ hi1)) key hk
        rw [less_asym q] at q1
        cases q1
  · intro hm
    exact List.mem_flatMap.2 ⟨_, List.getElem_mem hi, hm⟩

/-- Values that are trees, one behind the other. -/
def AllK (S : Nat → Prop) (w : World) (d : Nat) (ts : List (Ro d)) (us : List Value) : Prop :=
  us.length = ts.length ∧ ∀ k (h : k < ts.length), ∃ u, us[k]? = some u ∧ TAo S w d ts[k] u
section
variable {S S' : Nat → Prop} {w w' : World} {d : Nat}
theorem AllK.keep {ts : List (Ro d)} {us : List Value} (h : AllK S w d ts us) (hz : w.heap.size ≤ w'.heap.size) (hS : ∀ b, S b → b < w.heap.size → S' b ∧ w'.heap[b]? = w.heap[b]?) : AllK S' w' d ts us :=
  ⟨h.1, fun k hk => by obtain ⟨u, e, q⟩ := h.2 k hk; exact ⟨u, e, TAo.keep hz hS q⟩⟩
theorem AllK.app {ts ts' : List (Ro d)} {us us' : List Value} (h : AllK S w d ts us) (h' : AllK S w d ts' us') : AllK S w d (ts ++ ts') (us ++ us') := by
  refine ⟨by rw [List.length_append, List.length_append, h.1, h'.1], fun k hk => ?_⟩
  by_cases e : k < ts.length
  · obtain ⟨u, e1, q⟩ := h.2 k e
    exact ⟨u, by rw [List.getElem?_append_left (by rw [h.1]; exact e)]; exact e1, by rw [List.getElem_append_left e]; exact q⟩
  · rw [List.length_append] at hk
    obtain ⟨u, e1, q⟩ := h'.2 (k - ts.length) (by omega)
    exact ⟨u, by rw [List.getElem?_append_right (by rw [h.1]; omega), h.1]; exact e1, by rw [List.getElem_append_right (by omega)]; exact q⟩
theorem AllK.one {t : Ro d} {u : Value} (h : TAo S w d t u) : AllK S w d [t] [u] :=
  ⟨rfl, fun k hk => by
    have e : k = 0 := by simp at hk; omega
    subst e
    exact ⟨u, rfl, h⟩⟩
end

theorem nodup_ne {bss : List (List Nat)} (h : bss.flatten.Nodup) {i k : Nat} {us ks : List Nat} (hi : bss[i]? = some us) (hk : bss[k]? = some ks) (hne : k ≠ i) {x : Nat} (hx : x ∈ ks) : x ∉ us := by
  unfold List.Nodup at h
  rw [List.pairwise_flatten] at h
  have pw := List.pairwise_iff_getElem.1 h.2
  obtain ⟨h1, e1⟩ := List.getElem?_eq_some_iff.1 hi
  obtain ⟨h2, e2⟩ := List.getElem?_eq_some_iff.1 hk
  intro hxu
  rcases Nat.lt_or_gt_of_ne hne with q | q
  · exact pw k i h2 h1 q x (by rw [e2]; exact hx) x (by rw [e1]; exact hxu) rfl
  · exact pw i k h1 h2 q x (by rw [e1]; exact hxu) x (by rw [e2]; exact hx) rfl

/-- Of the old blocks only these have turned. -/
def Frs (bs : List Nat) (w w' : World) : Prop := w'.os = w.os ∧ w'.tape = w.tape ∧ w'.output = w.output ∧ w.heap.size ≤ w'.heap.size ∧ ∀ k, k < w.heap.size → k ∉ bs → w'.heap[k]? = w.heap[k]?
theorem Frs.trans {bs : List Nat} {w w1 w2 : World} (h : Frs bs w w1) (k : Frs bs w1 w2) : Frs bs w w2 :=
  ⟨k.1.trans h.1, k.2.1.trans h.2.1, k.2.2.1.trans h.2.2.1, Nat.le_trans h.2.2.2.1 k.2.2.2.1, fun i hi h1 => (k.2.2.2.2 i (Nat.lt_of_lt_of_le hi h.2.2.2.1) h1).trans (h.2.2.2.2 i hi h1)⟩
theorem Frs.mono {bs bs' : List Nat} {w w' : World} (h : Frs bs w w') (hs : ∀ x, x ∈ bs → x ∈ bs') : Frs bs' w w' := ⟨h.1, h.2.1, h.2.2.1, h.2.2.2.1, fun i hi hn => h.2.2.2.2 i hi (fun q => hn (hs i q))⟩
theorem Frs.below {bs : List Nat} {w w' : World} {B : Nat} (h : Frs bs w w') (hB : B ≤ w.heap.size) (hs : ∀ x, x ∈ bs → B ≤ x) : Below B w w' := ⟨h.1, h.2.1, h.2.2.1, h.2.2.2.1, fun k hk => h.2.2.2.2 k (by omega) (fun q => by have := hs k q; omega)⟩

/-- A call of a node's insert. -/
def CallI (v : Value) (key : ByteArray) (w : World) (Q : Ending → World → Prop) : Prop :=
  (∃ b, v = .iface 53 (.pointer (some ⟨b, 0, none⟩)) ∧ Calls Try.prog 106 #[.pointer (some ⟨b, 0, none⟩), .string key] w Q) ∨
  (∃ b, v = .iface 91 (.pointer (some ⟨b, 0, none⟩)) ∧ Calls Try.prog 123 #[.pointer (some ⟨b, 0, none⟩), .string key] w Q)
/-- What a node's insert does; b: its box. -/
def RetO (key : ByteArray) (d : Nat) (t : Ro d) (v : Value) (bs : List Nat) (w : World) (e : Ending) (w' : World) : Prop :=
  (key ∈ keysR d t ∧ e = .returned (.bool false) ∧ Below w.heap.size w w') ∨
  (key ∉ keysR d t ∧ e = .returned (.bool true) ∧ Frs bs w w' ∧ ∃ u b, b ∈ bs ∧ InsU key d t u ∧ NdI (fun x => (x ∈ bs ∧ x ≠ b) ∨ w.heap.size ≤ x) w' b d u v)

theorem insLeafO (key : ByteArray) (d B : Nat) (L : List ByteArray) (v : Value) (bs : List Nat) (w : World) (h : TOw B w (d + 1) (.inl L) v bs) (hn : L.length ≤ 4) (ha : Asc L) (hB : B ≤ w.heap.size) (hd : bs.Nodup) : CallI v key w (RetO key (d + 1) (.inl L) v bs w) := by
  obtain ⟨b, ka, kc, rfl, hBb, hx, ho, rfl⟩ := h
  refine .inl ⟨b, rfl, (leafIns_any B b L.length kc ka L key w hx ho rfl (by omega) ha hB).mono ?_⟩
  rintro e w' (⟨h1, rfl, rfl⟩ | ⟨h1, rfl, ho2, a', c', hx', ho', ha'⟩)
  · exact .inl ⟨h1, rfl, Below.refl _ _⟩
  · refine .inr ⟨h1, rfl, ⟨ho2.1, ho2.2.1, ho2.2.2.1, ho2.2.2.2.1, fun k hk hn => ho2.2.2.2.2 k hk (fun e => hn (by rw [e]; simp)) (fun e => hn (by
      cases ka with
      | none => cases e
      | some p => injection e with e; simp [← e]))⟩, .inl (insK key L), b, by simp, rfl, rfl, a', c', hx', own_cap ho', ?_⟩
    rcases ho'.2 with ⟨q, q0⟩ | ⟨g, cap, cur, q1, q2, q3, q4⟩
    · exact .inl q0
    · injection q1 with q1 _ q5
      subst q1 q5
      refine .inr ⟨g, 0, rfl, ?_, (own_lt ho' g rfl).2, fun i hi => ?_⟩
      · rcases ha' with e | ⟨g', e, hg'⟩
        · refine .inl ⟨by rw [← e]; simp, fun e2 => ?_⟩
          subst e2
          have q := hx'
          unfold Bx at q
          rw [q3] at q
          injection q with q
          injection q with _ q _
          exact absurd q (by decide)
        · injection e with e
          injection e with e
          subst e
          exact .inr (by omega)
      · rw [Nat.zero_add, ho'.cellAt i (by omega), strL_get _ i hi]
end Go.Proofs.Ytakemeccigpbaaa

namespace Go.Proofs.Ytakemeccigpbaaa
open Go.RowKit Go.Deep
set_option linter.unusedVariables false
set_option maxRecDepth 100000

theorem step_t3 {ops : Array Oper} {o : Oper} {a : Act} {w : World} {K : Act → World → Prop} {Q : Exit → Act → World → Prop} {E : Prop} (hgd : o.guard = none) (k : Nat) (i j m : Nat) (tys : Array TypeId)
    (ho : o.op = .call { callee := .value (.func k), args := #[.tmp i, .tmp j, .tmp m], argTypes := tys }) (u v x : Value) (hx : a.tmps[i]?.getD undef = u) (hy : a.tmps[j]?.getD undef = v) (hz : a.tmps[m]?.getD undef = x) (heg : ∀ args w, (callFunc k args).run Try.prog w = .ok (.enter k args) w)
    (h : Calls Try.prog k #[u, v, x] w fun e w' => ∃ r, e = .returned r ∧ K (a.put o.dst r) w') :
    if Region.wanted o (yielded ops a.tmps) = true then Oper.wp Try.prog o a w K Q else E := by
  have hw : Region.wanted o (yielded ops a.tmps) = true := by simp [Region.wanted, hgd]
  rw [if_pos hw]
  unfold Oper.wp
  simp [execOp, ho, resolve, invoke, hx, hy, hz, go_sem, heg]
  refine h.mono ?_
  rintro e w' ⟨u, rfl, hk⟩
  exact hk

/-- The count anew, of a node whose children are there. -/
theorem ins_fin (d b gg kc : Nat) (x : Int) (M : List (Ro d)) (ys : List Value) (S : Nat → Prop) (w : World) (hx : Bx w b 96 #[.int .i64 x, .slice (some ⟨gg, 0, none⟩) M.length kc]) (hcap : M.length ≤ kc ∧ kc ≤ 9223372036854775807) (hM : 0 < M.length) (hM5 : M.length ≤ 1000) (hce : ∀ j u, ys[j]? = some u → w.cell? ⟨gg, j, none⟩ = some u) (hak : AllK S w d M ys) (hSb : ¬ S b) (hSg : S gg) (hgl : gg < w.heap.size) (hkeys : (M.flatMap (keysR d)).length ≤ 1099511627776) :
    Calls Try.prog 57 #[.pointer (some ⟨b, 0, none⟩)] w fun e w' => e = .returned (.tuple #[]) ∧ w.grownBy w' (some b) ∧ NdI S w' b (d + 1) (.inr M) (.iface 91 (.pointer (some ⟨b, 0, none⟩))) := by
  have hgb : gg ≠ b := fun e => hSb (e ▸ hSg)
  refine (recountO_any d b gg 0 M.length kc M x ys w hx rfl (by omega) hkeys (fun j u hj => by rw [Nat.zero_add]; exact hce j u hj) hgb (fun k h => ?_)).mono ?_
  · obtain ⟨u, e, ht⟩ := hak.2 k h
    obtain ⟨bb, q1, q2, q3, q4⟩ := ht.count
    exact ⟨u, bb, e, fun e => hSb (e ▸ q1), q3, q4⟩
  · rintro e w' ⟨rfl, hg, hs, hx'⟩
    have blk : ∀ y, S y → y < w.heap.size → S y ∧ w'.heap[y]? = w.heap[y]? := fun y hy hl => ⟨hy, hg.block y hl (fun e => hSb (by injection e with e; exact e ▸ hy))⟩
    have hk2 := hak.keep hg.size blk
    exact ⟨rfl, hg, rfl, gg, 0, kc, ys, hx', hSg, ⟨by have := hg.size; omega, hcap⟩, ⟨hM, hak.1⟩, fun j u hj => by rw [Nat.zero_add]; exact (World.cell?_of_block (a := ⟨gg, j, none⟩) (blk gg hSg hgl).2).trans (hce j u hj), hk2.2⟩

theorem frs_grown {w w' : World} {b : Nat} {bs : List Nat} (h : w.grownBy w' (some b)) (hb : b ∈ bs) : Frs bs w w' := ⟨h.os, h.tape, h.output, h.size, fun k hk hn => h.block k hk (fun e => hn (by injection e with e; rw [e]; exact hb))⟩
theorem frs_fr2 {w w' : World} {b : Nat} {bs : List Nat} (h : Fr2 w w' b b) (hb : b ∈ bs) : Frs bs w w' := ⟨h.1, h.2.1, h.2.2.1, h.2.2.2.1, fun k hk hn => h.2.2.2.2 k hk (fun e => hn (e ▸ hb)) (fun e => hn (e ▸ hb))⟩
theorem frs_below {w w' : World} {bs : List Nat} (h : Below w.heap.size w w') : Frs bs w w' := ⟨h.os, h.tape, h.output, h.size, fun k hk _ => h.block k hk⟩

theorem keysU_len {key : ByteArray} {d : Nat} {t u : Ro (d + 1)} {root : Bool} {h : Nat} (hb : BalR (d + 1) root t h) (hu : InsU key (d + 1) t u) (hn : nodesR (d + 1) t ≤ 5000) (hd : d + 1 ≤ 22) : (keysR (d + 1) u).length ≤ 100000 := by
  have h1 := hu.insR.nodes
  have e : (keysR (d + 1) u).length = ((splR u).map (fun t => (keysR (d + 1) t).length)).sum := by
    by_cases h4 : sizR u ≤ 4
    · rw [splR_one h4]; simp
    · rw [splR_two (by have := sizU_le hb hu; omega)]
      rcases u with L | l
      · have h5 : L.length = 5 := by have : sizR (Sum.inl L : Ro (d + 1)) = L.length := rfl; have := sizU_le hb hu; omega
        show L.length = _
        simp only [List.map_cons, List.map_nil, List.sum_cons, List.sum_nil]
        show L.length = ((L.take 3).drop 0).length + (((L.take 5).drop 3).length + 0)
        simp only [List.length_drop, List.length_take]
        omega
      · have h5 : l.length = 5 := by have : sizR (Sum.inr l : Ro (d + 1)) = l.length := rfl; have := sizU_le hb hu; omega
        show (l.flatMap (keysR d)).length = _
        simp only [List.map_cons, List.map_nil, List.sum_cons, List.sum_nil]
        show (l.flatMap (keysR d)).length = (((l.take 3).drop 0).flatMap (keysR d)).length + ((((l.take 5).drop 3).flatMap (keysR d)).length + 0)
        rw [List.drop_zero, List.take_of_length_le (by omega : l.length ≤ 5), Nat.add_zero, ← List.length_append, ← List.flatMap_append, List.take_append_drop]
  have h2 : ((splR u).map (fun t => (keysR (d + 1) t).length)).sum ≤ ((splR u).map (nodesR (d + 1))).sum * 4 := by
    have fit : ∀ t, t ∈ splR u → (keysR (d + 1) t).length ≤ nodesR (d + 1) t * 4 := by
      intro t ht
      rcases InsR.bal hb hu.insR with ⟨y, e, hy⟩ | ⟨y, z, e, hy, hz⟩
      · have e' : splR u = [y] := e
        rw [e'] at ht
        simp at ht
        subst ht
        exact fit_len (bal_fit hy)
      · have e' : splR u = [y, z] := e
        rw [e'] at ht
        simp at ht
        rcases ht with rfl | rfl
        · exact fit_len (bal_fit hy)
        · exact fit_len (bal_fit hz)
    clear e
    generalize splR u = rs at fit
    induction rs with
    | nil => simp
    | cons r rs ih =>
      simp only [List.map_cons, List.sum_cons]
      have a1 := fit r (by simp)
      have a2 := ih (fun t ht => fit t (by simp [ht]))
      omega
  have h3 : ((splR u).map (nodesR (d + 1))).sum ≤ nodesR (d + 1) t + (d + 1) := h1
  omega

theorem keys_spl {d : Nat} {t : Ro (d + 1)} (h5 : sizR t = 5) : (([cutR 0 3 t, cutR 3 5 t] : List (Ro (d + 1))).flatMap (keysR (d + 1))).length = (keysR (d + 1) t).length := by
  rcases t with L | l
  · have e : L.length = 5 := h5
    show (((L.take 3).drop 0) ++ (((L.take 5).drop 3) ++ [])).length = L.length
    rw [List.drop_zero, List.append_nil, List.take_of_length_le (by omega : L.length ≤ 5), List.take_append_drop]
  · have e : l.length = 5 := h5
    show ((((l.take 3).drop 0).flatMap (keysR d)) ++ ((((l.take 5).drop 3).flatMap (keysR d)) ++ [])).length = (l.flatMap (keysR d)).length
    rw [List.drop_zero, List.append_nil, List.take_of_length_le (by omega : l.length ≤ 5), ← List.flatMap_append, List.take_append_drop]

theorem keys_cat {d h' : Nat} (l : List (Ro (d + 1))) (i : Nat) (hi : i < l.length) (t' : Ro (d + 1)) {rs : List (Ro (d + 1))} (hspl : splU (d + 1) t' = rs) (hb : (∀ t, t ∈ l → BalR (d + 1) false t h') ∧ Asc (l.flatMap (keysR (d + 1))) ∧ (∀ k (h : k < l.length), 0 < (keysR (d + 1) l[k]).length) ∧ nodesR (d + 2) (.inr l) ≤ 5000) (hk : (keysR (d + 1) t').length ≤ 100000) (hr : (rs.flatMap (keysR (d + 1))).length = (keysR (d + 1) t').length := by first | rfl | simp) : ((l.take i ++ splU (d + 1) t' ++ l.drop (i + 1)).flatMap (keysR (d + 1))).length ≤ 1000000 := by
  rw [hspl, List.flatMap_append, List.flatMap_append, List.length_append, List.length_append, hr]
  have h1 := flat_take_le (keysR (d + 1)) l i
  have h2 : ((l.drop (i + 1)).flatMap (keysR (d + 1))).length ≤ (l.flatMap (keysR (d + 1))).length := by
    conv => rhs; rw [← List.take_append_drop (i + 1) l, List.flatMap_append, List.length_append]
    omega
  have h3 : ∀ t, t ∈ l → (keysR (d + 1) t).length ≤ nodesR (d + 1) t * 4 := fun t ht => fit_len (bal_fit (hb.1 t ht))
  have h4 : (l.flatMap (keysR (d + 1))).length ≤ (l.map (nodesR (d + 1))).sum * 4 := by
    clear h1 h2 hb hi
    induction l with
    | nil => simp
    | cons r rs ih =>
      rw [List.flatMap_cons, List.length_append, List.map_cons, List.sum_cons]
      have a1 := h3 r (by simp)
      have a2 := ih (fun t ht => h3 t (by simp [ht]))
      omega
  have h5 : nodesR (d + 2) (.inr l) = 1 + (l.map (nodesR (d + 1))).sum := rfl
  have := hb.2.2.2
  omega

set_option maxHeartbeats 16000000 in
theorem insInnerO (key : ByteArray) (d B : Nat) (l : List (Ro (d + 1))) (v : Value) (bs : List Nat) (w : World) (root : Bool) (h : Nat) (hO : TOw B w (d + 2) (.inr l) v bs) (hd : bs.Nodup) (hbal : BalR (d + 2) root (.inr l) h) (ha : Asc (keysR (d + 2) (.inr l))) (hnod : nodesR (d + 2) (.inr l) ≤ 5000) (hd22 : d + 2 ≤ 22) (hB : B ≤ w.heap.size)
    (ih : ∀ i (hi : i < l.length) (u : Value) (us : List Nat), TOw B w (d + 1) l[i] u us → us.Nodup → CallI u key w (RetO key (d + 1) l[i] u us w)) : CallI v key w (RetO key (d + 2) (.inr l) v bs w) := by
  have htat := hO.tat
  have hOlt := hO.lt
  obtain ⟨b, g, kc, xs, bss, rfl, hBb, hx, ho, hl0, hbl, rfl, hall⟩ := hO
  obtain ⟨b2, b4, h', rfl, hbk⟩ := hbal
  have ha' : Asc (l.flatMap (keysR (d + 1))) := ha
  have hp : ∀ k (h : k < l.length), 0 < (keysR (d + 1) l[k]).length := fun k hk => bal_keys (hbk _ (List.getElem_mem hk))
  refine .inr ⟨b, rfl, ?_⟩
  have HKf : Hid (Calls Try.prog 129 #[.pointer (some ⟨b, 0, none⟩), .string key] w (RetKf l key w)) := kidFor_any (d + 1) b l _ h' key w htat hbk b4
  have hcap := own_cap ho
  obtain ⟨ln, hln⟩ : ∃ ln, ln = l.length := ⟨_, rfl⟩
  have HLn : Hid (ln = l.length) := hln
  rw [List.nodup_cons, List.nodup_cons] at hd
  have HD : Hid ((b ∉ g :: bss.flatten) ∧ g ∉ bss.flatten ∧ bss.flatten.Nodup) := hd
  have HO : Hid (w.ownsRow B 59 1 (.slice (some ⟨g, 0, none⟩) ln kc) ln xs) := by rw [hln]; exact ho
  have HX : Hid (Bx w b 96 #[.int .i64 ((l.flatMap (keysR (d + 1))).length : Int), .slice (some ⟨g, 0, none⟩) ln kc]) := by rw [hln]; exact hx
  have HAll : Hid (∀ k (h : k < l.length), ∃ u us, xs[k]? = some u ∧ bss[k]? = some us ∧ TOw B w (d + 1) l[k] u us) := hall
  have HOlt : Hid (∀ x, x ∈ b :: g :: bss.flatten → B ≤ x ∧ x < w.heap.size) := hOlt
  have HIH : Hid (∀ i (hi : i < l.length) (u : Value) (us : List Nat), TOw B w (d + 1) l[i] u us → us.Nodup → CallI u key w (RetO key (d + 1) l[i] u us w)) := ih
  have HBal : Hid ((∀ t, t ∈ l → BalR (d + 1) false t h') ∧ Asc (l.flatMap (keysR (d + 1))) ∧ (∀ k (h : k < l.length), 0 < (keysR (d + 1) l[k]).length) ∧ nodesR (d + 2) (.inr l) ≤ 5000) := ⟨hbk, ha', hp, hnod⟩
  rw [← hln] at hcap hl0 b2 b4
  have p1 := HX.out.cell 1
  simp at p1
  have pz := HX.out.lt
  clear htat hOlt hx ho hall hbk ha ha' hp hd ih hnod hln hbl
  go_enter Try.func123, Try.ntmps123
  go_wp2_with fail
  (with_reducible refine HKf.out.mono ?_)
  rintro e w1 ⟨i, rfl, hw1, hi, hk1, hk2⟩
  subst hw1
  have HKI : Hid (KidIs l key i) := ⟨hi, hk1, hk2⟩
  obtain ⟨u, us, eu, eus, htk⟩ := HAll.out i hi
  have hiln : i < ln := by rw [HLn.out]; exact hi
  have hmus : us ∈ bss := List.mem_of_getElem? eus
  have HUs : Hid (∀ x, x ∈ us → x ∈ bss.flatten) := fun x hx => List.mem_flatten.2 ⟨us, hmus, hx⟩
  have hndu : us.Nodup := by
    have := HD.out.2.2
    unfold List.Nodup at this
    rw [List.pairwise_flatten] at this
    exact this.1 us hmus
  have HEq : Hid (xs[i]? = some u ∧ bss[i]? = some us) := ⟨eu, eus⟩
  have cgi : w1.cell? ⟨g, i, none⟩ = some u := by
    rw [HO.out.cellAt i (by omega)]
    exact eu
  have i0 : (0 : Int) ≤ (i : Int) := by omega
  have i1 : (i : Int) < (ln : Int) := by omega
  have hCall := HIH.out i hi u us htk hndu
  have hult := htk.lt
  have HUlt : Hid (∀ x, x ∈ us → x < w1.heap.size) := fun x hx => (hult x hx).2
  clear htk eu eus hk1 hk2 HKf HIH hult hndu
  rcases hCall with ⟨kb, rfl, hcall⟩ | ⟨kb, rfl, hcall⟩
  · have HC : Hid (Calls Try.prog 106 #[.pointer (some ⟨kb, 0, none⟩), .string key] w1 (RetO key (d + 1) l[i] (.iface 53 (.pointer (some ⟨kb, 0, none⟩))) us w1)) := hcall
    clear hcall
    go_wp2_with fail
    (with_reducible refine HC.out.mono ?_)
    rintro e w2 (⟨hm, rfl, hb2⟩ | ⟨hm, rfl, hf2, t', kb', hkb', hu', hnd⟩)
    · have HR : Hid (RetO key (d + 2) (.inr l) (.iface 91 (.pointer (some ⟨b, 0, none⟩))) (b :: g :: bss.flatten) w1 (.returned (.bool false)) w2) := .inl ⟨(mem_kid HBal.out.2.1 HBal.out.2.2.1 HKI.out hi).2 hm, rfl, hb2⟩
      clear hb2 hm HC
      go_wp2
      go_ret
      exact HR.out
    · have HNM : Hid (key ∉ l.flatMap (keysR (d + 1))) := fun q => hm ((mem_kid HBal.out.2.1 HBal.out.2.2.1 HKI.out hi).1 q)
      have HU : Hid (InsU key (d + 1) l[i] t') := hu'
      have h5 : sizR t' ≤ 5 := sizU_le (HBal.out.1 _ (List.getElem_mem hi)) hu'
      have hkl : (keysR (d + 1) t').length ≤ 100000 := keysU_len (HBal.out.1 _ (List.getElem_mem hi)) hu' (by have := kid_le (d + 1) l i hi; have q : nodesR (d + 1 + 1) (.inr l) ≤ 5000 := HBal.out.2.2.2; omega) (by omega)
      obtain ⟨n, ka', kc', hkk, hn, hbx⟩ : ∃ n ka' kc', kb' = kb ∧ n = sizR t' ∧ Bx w2 kb 57 #[.int .i64 ((keysR (d + 1) t').length : Int), .slice ka' n kc'] := by
        rcases t' with L' | l'
        · obtain ⟨e, ka', kc', hx', _, _⟩ := hnd
          injection e with _ e
          injection e with e
          injection e with e
          injection e with e
          exact ⟨_, ka', kc', e.symm, rfl, e ▸ hx'⟩
        · obtain ⟨e, _⟩ := hnd
          injection e with e _
          exact absurd e (by decide)
      subst hkk
      have HND : Hid (NdI (fun x => (x ∈ us ∧ x ≠ kb') ∨ w1.heap.size ≤ x) w2 kb' (d + 1) t' (.iface 53 (.pointer (some ⟨kb', 0, none⟩)))) := hnd
      have HF2 : Hid (Frs us w1 w2) := hf2
      have HKB : Hid (kb' ∈ us) := hkb'
      have HSz : Hid (n = sizR t' ∧ sizR t' ≤ 5 ∧ (keysR (d + 1) t').length ≤ 100000) := ⟨hn, h5, hkl⟩
      have hnb : b ∉ us := fun q => HD.out.1 (List.mem_cons_of_mem _ (HUs.out b q))
      have hng : g ∉ us := fun q => HD.out.2.1 (HUs.out g q)
      have hgb : g ≠ b := fun e => HD.out.1 (by rw [e]; simp)
      have hgl : g < w1.heap.size := (HOlt.out g (by simp)).2
      have HX2 : Hid (Bx w2 b 96 #[.int .i64 ((l.flatMap (keysR (d + 1))).length : Int), .slice (some ⟨g, 0, none⟩) ln kc]) := HX.out.of_block (hf2.2.2.2.2 b pz hnb)
      have HO2 : Hid (w2.ownsRow B 59 1 (.slice (some ⟨g, 0, none⟩) ln kc) ln xs) := own_keep HO.out (fun g' e => by injection e with e; subst e; exact hf2.2.2.2.2 g hgl hng)
      have HLg : Hid (Calls Try.prog 111 #[.pointer (some ⟨kb', 0, none⟩)] w2 fun e w' => e = .returned (.bool (decide (4 < n))) ∧ w' = w2) := largeLeaf_any kb' n kc' ka' _ w2 hbx
      have HOth : Hid (∀ (S' : Nat → Prop) (W : World), w1.heap.size ≤ W.heap.size → (∀ x, x ∈ bss.flatten → x ∉ us → S' x ∧ W.heap[x]? = w1.heap[x]?) → AllK S' W (d + 1) (l.take i) (xs.take i) ∧ AllK S' W (d + 1) (l.drop (i + 1)) (xs.drop (i + 1))) := by
        intro S' W hz hS
        have hxl : xs.length = l.length := by have := HO.out.1; rw [← HLn.out]; omega
        have each : ∀ k (h : k < l.length), k ≠ i → ∃ u, xs[k]? = some u ∧ TAo S' W (d + 1) l[k] u := by
          intro k hk hne
          obtain ⟨uk, usk, e1, e2, e3⟩ := HAll.out k hk
          have hmk : usk ∈ bss := List.mem_of_getElem? e2
          have hnk : usk.Nodup := by
            have := HD.out.2.2
            unfold List.Nodup at this
            rw [List.pairwise_flatten] at this
            exact this.1 usk hmk
          refine ⟨uk, e1, TAo.keep hz (fun x hx _ => ?_) (e3.tao hnk)⟩
          exact hS x (List.mem_flatten.2 ⟨usk, hmk, hx⟩) (nodup_ne HD.out.2.2 HEq.out.2 e2 hne hx)
        refine ⟨⟨by rw [List.length_take, List.length_take, hxl], fun k hk => ?_⟩, ⟨by rw [List.length_drop, List.length_drop, hxl], fun k hk => ?_⟩⟩
        · rw [List.length_take] at hk
          obtain ⟨u, e, q⟩ := each k (by omega) (by omega)
          exact ⟨u, by rw [List.getElem?_take, if_pos (by omega)]; exact e, by rw [List.getElem_take]; exact q⟩
        · rw [List.length_drop] at hk
          obtain ⟨u, e, q⟩ := each (i + 1 + k) (by omega) (by omega)
          exact ⟨u, by rw [List.getElem?_drop]; exact e, by rw [List.getElem_drop]; exact q⟩
      have c1 := HX2.out.cell 1
      simp at c1
      have cz := HX2.out.lt
      have c2 : w2.cell? ⟨g, i, none⟩ = some (.iface 53 (.pointer (some ⟨kb', 0, none⟩))) := by
        rw [HO2.out.cellAt i (by omega)]
        exact HEq.out.1
      have hz2 := hf2.2.2.2.1
      clear hnd hf2 hkb' hbx hm hu' HC cgi p1
      go_wp2_with fail
      (with_reducible refine HLg.out.mono ?_)
      rintro e w3 ⟨rfl, hw3⟩
      subst hw3
      by_cases h4 : 4 < n
      · have hn5 : sizR t' = 5 := by have := HSz.out; omega
        have h4d : decide (4 < n) = true := decide_eq_true h4
        have hspl : splU (d + 1) t' = [cutR 0 3 t', cutR 3 5 t'] := splR_two hn5
        have HPt : Hid (Calls Try.prog 56 #[.iface 53 (.pointer (some ⟨kb', 0, none⟩))] w3.drew (RetPart (fun x => ((x ∈ us ∧ x ≠ kb') ∨ w1.heap.size ≤ x) ∧ x < w3.heap.size) w3.drew kb' d t' (.iface 53 (.pointer (some ⟨kb', 0, none⟩))))) := by
          refine part_o d kb' t' _ _ w3.drew (NdI.keep (w := w3) (w' := w3.drew) (Nat.le_refl _) rfl (fun x hx hl => ⟨⟨hx, hl⟩, rfl⟩) HND.out) (fun q => ?_) (fun x hx => hx.2) hn5 (by have := HSz.out.2.2; omega)
          rcases q.1 with q | q
          · exact q.2 rfl
          · have := HUlt.out kb' HKB.out; omega
        have hbkb : b ≠ kb' := fun e => hnb (e ▸ HKB.out)
        have hgkb : g ≠ kb' := fun e => hng (e ▸ HKB.out)
        have h1c : ∀ v ∈ xs, v.oneCell' = true := by
          intro v hv
          obtain ⟨k, hkl, e⟩ := List.getElem_of_mem hv
          have hxl := HO.out.1
          obtain ⟨uk, usk, e1, e2, e3⟩ := HAll.out k (by rw [← HLn.out]; omega)
          rw [List.getElem?_eq_getElem hkl, e] at e1
          injection e1 with e1
          subst e1
          have := e3.tat
          rcases hlk : l[k]'(by rw [← HLn.out]; omega) with L' | l'
          · rw [hlk] at this; obtain ⟨_, _, _, rfl, _⟩ := this; rfl
          · rw [hlk] at this; obtain ⟨_, _, _, _, rfl, _⟩ := this; rfl
        have H1c : Hid (∀ v ∈ xs, v.oneCell' = true) := h1c
        have c1' : w3.drew.cell? ⟨b, 1, none⟩ = some (.slice (some ⟨g, 0, none⟩) ln kc) := c1
        have c2' : w3.drew.cell? ⟨g, i, none⟩ = some (.iface 53 (.pointer (some ⟨kb', 0, none⟩))) := c2
        clear h1c HLg
        go_upto_region 5 with fail
        refine wp_region_late (S := fun w' => w'.cell? ⟨b, 1, none⟩ = some (.slice (some ⟨g, 0, none⟩) ln kc)) 19 (by kernel_rfl) c1' (fun hHeld => ?_)
        refine late_take 0 .zero (v := ?_) (by kernel_rfl) (by kernel_rfl) (by kernel_rfl) (by kernel_rfl) (fun _ _ _ h => h) (by rfl) ?_ (by assumption) ?_
        rotate_left
        · (intro w hSw; (try dsimp only at hSw); go_simp) <;> with_reducible rfl
        simp only [Act.put, List.setIfInBounds_toArray, List.set_cons_zero, List.set_cons_succ]
        refine late_take 1 (.succ .zero) (v := ?_) (by kernel_rfl) (by kernel_rfl) (by kernel_rfl) (by kernel_rfl) (fun _ _ _ h => h) (by rfl) ?_ (by assumption) ?_
        rotate_left
        · (intro w hSw; (try dsimp only at hSw); go_simp) <;> with_reducible rfl
        simp only [Act.put, List.setIfInBounds_toArray, List.set_cons_zero, List.set_cons_succ]
        refine late_take 2 (.succ (.succ .zero)) (v := ?_) (by kernel_rfl) (by kernel_rfl) (by kernel_rfl) (by kernel_rfl) (fun _ _ _ h => h) (by rfl) ?_ (by assumption) ?_
        rotate_left
        · (intro w hSw; (try dsimp only at hSw); go_simp) <;> with_reducible rfl
        simp only [Act.put, List.setIfInBounds_toArray, List.set_cons_zero, List.set_cons_succ]
        refine late_take 3 (.succ (.succ (.succ .zero))) (v := ?_) (by kernel_rfl) (by kernel_rfl) (by kernel_rfl) (by kernel_rfl) (fun _ _ _ h => h) (by rfl) ?_ (by assumption) ?_
        rotate_left
        · (intro w hSw; (try dsimp only at hSw); go_simp) <;> with_reducible rfl
        simp only [Act.put, List.setIfInBounds_toArray, List.set_cons_zero, List.set_cons_succ]
        refine late_take 4 (.succ (.succ (.succ (.succ .zero)))) (v := ?_) (by kernel_rfl) (by kernel_rfl) (by kernel_rfl) (by kernel_rfl) (fun _ _ _ h => h) (by rfl) ?_ (by assumption) ?_
        rotate_left
        · (intro w hSw; (try dsimp only at hSw); go_simp) <;> with_reducible rfl
        simp only [Act.put, List.setIfInBounds_toArray, List.set_cons_zero, List.set_cons_succ]
        refine late_take 5 (.succ (.succ (.succ (.succ (.succ .zero))))) (v := ?_) (by kernel_rfl) (by kernel_rfl) (by kernel_rfl) (by kernel_rfl) (fun _ _ _ h => h) (by rfl) ?_ (by assumption) ?_
        rotate_left
        · (intro w hSw; (try dsimp only at hSw); go_simp) <;> with_reducible rfl
        simp only [Act.put, List.setIfInBounds_toArray, List.set_cons_zero, List.set_cons_succ]
        refine late_take 6 (.succ (.succ (.succ (.succ (.succ (.succ .zero)))))) (v := ?_) (by kernel_rfl) (by kernel_rfl) (by kernel_rfl) (by kernel_rfl) (fun _ _ _ h => h) (by rfl) ?_ (by assumption) ?_
        rotate_left
        · (intro w hSw; (try dsimp only at hSw); go_simp) <;> with_reducible rfl
        simp only [Act.put, List.setIfInBounds_toArray, List.set_cons_zero, List.set_cons_succ]
        refine late_take 7 (.succ (.succ (.succ (.succ (.succ (.succ (.succ .zero))))))) (v := ?_) (by kernel_rfl) (by kernel_rfl) (by kernel_rfl) (by kernel_rfl) (fun _ _ _ h => h) (by rfl) ?_ (by assumption) ?_
        rotate_left
        · (intro w hSw; (try dsimp only at hSw); go_simp) <;> with_reducible rfl
        simp only [Act.put, List.setIfInBounds_toArray, List.set_cons_zero, List.set_cons_succ]
        refine late_take 8 (.succ (.succ (.succ (.succ (.succ (.succ (.succ (.succ .zero)))))))) (v := ?_) (by kernel_rfl) (by kernel_rfl) (by kernel_rfl) (by kernel_rfl) (fun _ _ _ h => h) (by rfl) ?_ (by assumption) ?_
        rotate_left
        · (intro w hSw; (try dsimp only at hSw); go_simp) <;> with_reducible rfl
        simp only [Act.put, List.setIfInBounds_toArray, List.set_cons_zero, List.set_cons_succ]
        refine late_take 9 (.succ (.succ (.succ (.succ (.succ (.succ (.succ (.succ (.succ .zero))))))))) (v := ?_) (by kernel_rfl) (by kernel_rfl) (by kernel_rfl) (by kernel_rfl) (fun _ _ _ h => h) (by rfl) ?_ (by assumption) ?_
        rotate_left
        · (intro w hSw; (try dsimp only at hSw); go_simp) <;> with_reducible rfl
        simp only [Act.put, List.setIfInBounds_toArray, List.set_cons_zero, List.set_cons_succ]
        refine late_take 10 (.succ (.succ (.succ (.succ (.succ (.succ (.succ (.succ (.succ (.succ .zero)))))))))) (v := ?_) (by kernel_rfl) (by kernel_rfl) (by kernel_rfl) (by kernel_rfl) (fun _ _ _ h => h) (by rfl) ?_ (by assumption) ?_
        rotate_left
        · (intro w hSw; (try dsimp only at hSw); go_simp) <;> with_reducible rfl
        simp only [Act.put, List.setIfInBounds_toArray, List.set_cons_zero, List.set_cons_succ]
        refine late_take 11 (.succ (.succ (.succ (.succ (.succ (.succ (.succ (.succ (.succ (.succ (.succ .zero))))))))))) (v := ?_) (by kernel_rfl) (by kernel_rfl) (by kernel_rfl) (by kernel_rfl) (fun _ _ _ h => h) (by rfl) ?_ (by assumption) ?_
        rotate_left
        · (intro w hSw; (try dsimp only at hSw); go_simp) <;> with_reducible rfl
        simp only [Act.put, List.setIfInBounds_toArray, List.set_cons_zero, List.set_cons_succ]
        refine late_take 12 (.succ (.succ (.succ (.succ (.succ (.succ (.succ (.succ (.succ (.succ (.succ (.succ .zero)))))))))))) (v := ?_) (by kernel_rfl) (by kernel_rfl) (by kernel_rfl) (by kernel_rfl) (fun _ _ _ h => h) (by rfl) ?_ (by assumption) ?_
        rotate_left
        · (intro w hSw; (try dsimp only at hSw); go_simp) <;> with_reducible rfl
        simp only [Act.put, List.setIfInBounds_toArray, List.set_cons_zero, List.set_cons_succ]
        refine late_one 13 (.succ (.succ (.succ (.succ (.succ (.succ (.succ (.succ (.succ (.succ (.succ (.succ (.succ .zero))))))))))))) (by kernel_rfl) (fun K hK => ?_)
        go_simp
        refine hK.out _ _ ?_ (fun hHeld2 => ?_)
        · (intro _; exact hHeld)
        clear hK K
        replace hHeld := hHeld2 (by decide)
        clear hHeld2
        try simp only [Act.put, List.setIfInBounds_toArray, List.set_cons_zero, List.set_cons_succ]
        refine late_one 14 (.succ (.succ (.succ (.succ (.succ (.succ (.succ (.succ (.succ (.succ (.succ (.succ (.succ (.succ .zero)))))))))))))) (by kernel_rfl) (fun K hK => ?_)
        refine step_t1 (by rfl) 56 40 _ (by rfl) (.iface 53 (.pointer (some ⟨kb', 0, none⟩))) (by rfl) (fun _ _ => by rfl) ?_
        (with_reducible refine HPt.out.mono ?_)
        rintro e w4 ⟨ur, rfl, hf4, hta, htb⟩
        obtain ⟨ty, pv, hur⟩ : ∃ ty pv, ur = .iface ty pv := by
          obtain ⟨bb, _, _, _, q⟩ := htb.count
          rcases q with q | q <;> exact ⟨_, _, q⟩
        subst hur
        refine ⟨_, rfl, ?_⟩
        have H4 : Hid (Fr2 w3 w4 kb' kb' ∧ TAo (fun x => (((x ∈ us ∧ x ≠ kb') ∨ w1.heap.size ≤ x) ∧ x < w3.heap.size) ∨ x = kb' ∨ w3.heap.size ≤ x) w4 (d + 1) (cutR 0 3 t') (.iface 53 (.pointer (some ⟨kb', 0, none⟩))) ∧ TAo (fun x => (((x ∈ us ∧ x ≠ kb') ∨ w1.heap.size ≤ x) ∧ x < w3.heap.size) ∨ w3.heap.size ≤ x) w4 (d + 1) (cutR 3 5 t') (.iface ty pv)) := ⟨hf4, hta, htb⟩
        have HX4 : Hid (Bx w4 b 96 #[.int .i64 ((l.flatMap (keysR (d + 1))).length : Int), .slice (some ⟨g, 0, none⟩) ln kc]) := HX2.out.of_block (hf4.2.2.2.2 b cz hbkb hbkb)
        have HO4 : Hid (w4.ownsRow B 59 1 (.slice (some ⟨g, 0, none⟩) ln kc) ln xs) := own_keep HO2.out (fun g' e => by injection e with e; subst e; exact hf4.2.2.2.2 g (by show g < w3.heap.size; omega) hgkb hgkb)
        have hz4 : w3.heap.size ≤ w4.heap.size := hf4.2.2.2.1
        have cb4 : w4.cell? ⟨b, 1, none⟩ = some (.slice (some ⟨g, 0, none⟩) ln kc) := by have := HX4.out.cell 1; simpa using this
        have cz4 := HX4.out.lt
        clear hf4 hta htb
        refine hK.out _ _ ?_ (fun hHeld2 => ?_)
        · (intro _; exact cb4)
        clear hK K
        replace hHeld := hHeld2 (by decide)
        clear hHeld2
        try simp only [Act.put, List.setIfInBounds_toArray, List.set_cons_zero, List.set_cons_succ]
        refine late_one 15 (.succ (.succ (.succ (.succ (.succ (.succ (.succ (.succ (.succ (.succ (.succ (.succ (.succ (.succ (.succ .zero))))))))))))))) (by kernel_rfl) (fun K hK => ?_)
        go_simp
        refine hK.out _ _ ?_ (fun hHeld2 => ?_)
        · (intro _; exact ((below_alloc w4 _).cell (p := ⟨b, 1, none⟩) cz4).trans cb4)
        clear hK K
        replace hHeld := hHeld2 (by decide)
        clear hHeld2
        try simp only [Act.put, List.setIfInBounds_toArray, List.set_cons_zero, List.set_cons_succ]
        refine late_one 16 (.succ (.succ (.succ (.succ (.succ (.succ (.succ (.succ (.succ (.succ (.succ (.succ (.succ (.succ (.succ (.succ .zero)))))))))))))))) (by kernel_rfl) (fun K hK => ?_)
        have HIn : Hid (Calls Try.prog 130 #[.slice (some ⟨g, 0, none⟩) ln kc, .int .i64 (IntKind.i64.wrap ((i : Int) + 1)), .slice (some ⟨w4.heap.size, 0, none⟩) 1 1] (w4.alloc (.cells #[(.iface ty pv)] 59)) (RetIn (w4.alloc (.cells #[(.iface ty pv)] 59)) g ln (xs.take (i + 1) ++ (.iface ty pv) :: xs.drop (i + 1)))) := by
          have := insN_any B g ln kc (i + 1) w4.heap.size xs (.iface ty pv) (w4.alloc (.cells #[(.iface ty pv)] 59)) (own_below HO4.out (below_alloc _ _)) H1c.out (blk_alloc_new _ _) H4.out.2.2.oneCell (by omega) (by omega) (by omega) (by simp; omega)
          rw [show (((i + 1 : Nat)) : Int) = IntKind.i64.wrap ((i : Int) + 1) by rw [IntKind.wrap_i64]; omega] at this
          exact this
        refine step_t3 (by rfl) 130 31 33 42 _ (by rfl) (.slice (some ⟨g, 0, none⟩) ln kc) (.int .i64 (IntKind.i64.wrap ((i : Int) + 1))) (.slice (some ⟨w4.heap.size, 0, none⟩) 1 1) (by rfl) (by rfl) (by rfl) (fun _ _ => by rfl) ?_
        (with_reducible refine HIn.out.mono ?_)
        rintro e w5 ⟨gg, cc, rfl, hcap5, hgl5, hgg, hce5, hg5⟩
        refine ⟨_, rfl, ?_⟩
        have HX5 : Hid (Bx w5 b 96 #[.int .i64 ((l.flatMap (keysR (d + 1))).length : Int), .slice (some ⟨g, 0, none⟩) ln kc]) := (HX4.out.alloc _).grown hg5 (fun e => hgb (by injection e))
        have H5 : Hid ((gg = g ∨ w4.heap.size + 1 ≤ gg) ∧ (∀ j v, (xs.take (i + 1) ++ (.iface ty pv) :: xs.drop (i + 1))[j]? = some v → w5.cell? ⟨gg, j, none⟩ = some v) ∧ (w4.alloc (.cells #[(.iface ty pv)] 59)).grownBy w5 (some g) ∧ (ln + 1 ≤ cc ∧ cc ≤ 9223372036854775807) ∧ gg < w5.heap.size) := ⟨by rcases hgg with h | h; exact .inl h; exact .inr (by simpa using h), hce5, hg5, hcap5, hgl5⟩
        have cb5 : w5.cell? ⟨b, 1, none⟩ = some (.slice (some ⟨g, 0, none⟩) ln kc) := by have := HX5.out.cell 1; simpa using this
        have cz5 := HX5.out.lt
        have cf5 := HX5.out.frozen 1
        clear hgg hce5 hg5 HIn cb4 hcap5 hgl5
        refine hK.out _ _ ?_ (fun hHeld2 => ?_)
        · (intro _; exact cb5)
        clear hK K
        replace hHeld := hHeld2 (by decide)
        clear hHeld2
        try simp only [Act.put, List.setIfInBounds_toArray, List.set_cons_zero, List.set_cons_succ]
        refine late_one 17 (.succ (.succ (.succ (.succ (.succ (.succ (.succ (.succ (.succ (.succ (.succ (.succ (.succ (.succ (.succ (.succ (.succ .zero))))))))))))))))) (by kernel_rfl) (fun K hK => ?_)
        go_simp
        refine hK.out _ _ ?_ (fun hHeld2 => ?_)
        · (intro _; exact hHeld)
        clear hK K
        replace hHeld := hHeld2 (by decide)
        clear hHeld2
        try simp only [Act.put, List.setIfInBounds_toArray, List.set_cons_zero, List.set_cons_succ]
        refine late_one 18 (.succ (.succ (.succ (.succ (.succ (.succ (.succ (.succ (.succ (.succ (.succ (.succ (.succ (.succ (.succ (.succ (.succ (.succ .zero)))))))))))))))))) (by kernel_rfl) (fun K hK => ?_)
        go_simp
        refine hK.out _ _ ?_ (fun hHeld2 => ?_)
        · (intro _; exact hHeld)
        clear hK K
        replace hHeld := hHeld2 (by decide)
        clear hHeld2
        try simp only [Act.put, List.setIfInBounds_toArray, List.set_cons_zero, List.set_cons_succ]
        refine late_one 19 (.succ (.succ (.succ (.succ (.succ (.succ (.succ (.succ (.succ (.succ (.succ (.succ (.succ (.succ (.succ (.succ (.succ (.succ (.succ .zero))))))))))))))))))) (by kernel_rfl) (fun K hK => ?_)
        go_simp
        refine hK.out _ _ ?_ (fun hHeld2 => ?_)
        · (intro hne; exact absurd rfl hne)
        clear hK K hHeld2
        refine wpLate_done (by kernel_rfl) ?_ _
        have hML : (l.take i ++ splU (d + 1) t' ++ l.drop (i + 1)).length = ln + 1 := by
          rw [hspl, List.length_append, List.length_append, List.length_take, List.length_drop, HLn.out]
          simp only [List.length_cons, List.length_nil]
          omega
        have hgb5 : gg ≠ b := by rcases H5.out.1 with h | h <;> omega
        have HBlk : Hid (∀ x, x < w4.heap.size → x ≠ g → x ≠ b → (w5.setCell ⟨b, 1, none⟩ (.slice (some ⟨gg, 0, none⟩) (ln + 1) cc)).heap[x]? = w4.heap[x]?) := by
          intro x hx h1 h2
          rw [Below.heap_setCell _ _ _ _ (show x ≠ b from h2), H5.out.2.2.1.block x (by simp; omega) (fun e => h1 (by injection e))]
          exact (below_alloc w4 _).block x hx
        have HSz6 : Hid ((w5.setCell ⟨b, 1, none⟩ (.slice (some ⟨gg, 0, none⟩) (ln + 1) cc)).heap.size = w5.heap.size ∧ w4.heap.size + 1 ≤ w5.heap.size) := ⟨by simp [World.setCell], by have := H5.out.2.2.1.size; simpa using this⟩
        have HX6 : Hid (Bx (w5.setCell ⟨b, 1, none⟩ (.slice (some ⟨gg, 0, none⟩) (ln + 1) cc)) b 96 #[.int .i64 ((l.flatMap (keysR (d + 1))).length : Int), .slice (some ⟨gg, 0, none⟩) (ln + 1) cc]) := by
          exact HX5.out.set 1 (.slice (some ⟨gg, 0, none⟩) (ln + 1) cc)
        have HCe6 : Hid (∀ j v, (xs.take (i + 1) ++ (.iface ty pv) :: xs.drop (i + 1))[j]? = some v → (w5.setCell ⟨b, 1, none⟩ (.slice (some ⟨gg, 0, none⟩) (ln + 1) cc)).cell? ⟨gg, j, none⟩ = some v) := fun j v hj => (World.cell?_of_block (a := ⟨gg, j, none⟩) (Below.heap_setCell _ _ _ _ hgb5)).trans (H5.out.2.1 j v hj)
        have HFr6 : Hid (Frs (b :: g :: bss.flatten) w3 (w5.setCell ⟨b, 1, none⟩ (.slice (some ⟨gg, 0, none⟩) (ln + 1) cc))) := by
          have f1 : Frs (b :: g :: bss.flatten) w3 w4 := frs_fr2 H4.out.1 (List.mem_cons_of_mem _ (List.mem_cons_of_mem _ (HUs.out _ HKB.out)))
          have f2 : Frs (b :: g :: bss.flatten) w4 (w4.alloc (.cells #[(.iface ty pv)] 59)) := frs_below (below_alloc _ _)
          have f3 : Frs (b :: g :: bss.flatten) (w4.alloc (.cells #[(.iface ty pv)] 59)) w5 := frs_grown H5.out.2.2.1 (by simp)
          have f4 : Frs (b :: g :: bss.flatten) w5 (w5.setCell ⟨b, 1, none⟩ (.slice (some ⟨gg, 0, none⟩) (ln + 1) cc)) := ⟨rfl, rfl, rfl, by simp [World.setCell], fun k _ hn => Below.heap_setCell _ _ _ _ (fun e => hn (by rw [e]; simp))⟩
          exact ((f1.trans f2).trans f3).trans f4
        generalize w5.setCell ⟨b, 1, none⟩ (.slice (some ⟨gg, 0, none⟩) (ln + 1) cc) = W6 at HBlk HSz6 HX6 HCe6 HFr6 ⊢
        clear hHeld cb5 cz5 cf5 c1' c2' c1 c2
        have HFin : Hid (Calls Try.prog 57 #[.pointer (some ⟨b, 0, none⟩)] W6 fun e w' => e = .returned (.tuple #[]) ∧ W6.grownBy w' (some b) ∧ NdI (fun x => (x ∈ (b :: g :: bss.flatten) ∧ x ≠ b) ∨ w1.heap.size ≤ x) w' b (d + 2) (.inr (l.take i ++ splU (d + 1) t' ++ l.drop (i + 1))) (.iface 91 (.pointer (some ⟨b, 0, none⟩)))) := by
          have hs6 := HSz6.out
          have old : ∀ x, (((x ∈ us ∧ x ≠ kb') ∨ w1.heap.size ≤ x) ∧ x < w3.heap.size) ∨ x = kb' ∨ w3.heap.size ≤ x → x < w4.heap.size → ((x ∈ (b :: g :: bss.flatten) ∧ x ≠ b) ∨ w1.heap.size ≤ x) ∧ W6.heap[x]? = w4.heap[x]? := by
            intro x hx hl
            have hux : x ∈ us → ((x ∈ (b :: g :: bss.flatten) ∧ x ≠ b) ∨ w1.heap.size ≤ x) ∧ W6.heap[x]? = w4.heap[x]? := fun q => ⟨.inl ⟨List.mem_cons_of_mem _ (List.mem_cons_of_mem _ (HUs.out x q)), fun e => hnb (e ▸ q)⟩, HBlk.out x hl (fun e => hng (e ▸ q)) (fun e => hnb (e ▸ q))⟩
            rcases hx with ⟨q | q, _⟩ | q | q
            · exact hux q.1
            · exact ⟨.inr q, HBlk.out x hl (by omega) (by omega)⟩
            · exact hux (q ▸ HKB.out)
            · exact ⟨.inr (by omega), HBlk.out x hl (by omega) (by omega)⟩
          have k1 : TAo (fun x => (x ∈ (b :: g :: bss.flatten) ∧ x ≠ b) ∨ w1.heap.size ≤ x) W6 (d + 1) (cutR 0 3 t') (.iface 53 (.pointer (some ⟨kb', 0, none⟩))) := TAo.keep (by omega) (fun x hx hl => old x hx hl) H4.out.2.1
          have k2 : TAo (fun x => (x ∈ (b :: g :: bss.flatten) ∧ x ≠ b) ∨ w1.heap.size ≤ x) W6 (d + 1) (cutR 3 5 t') (.iface ty pv) := TAo.keep (by omega) (fun x hx hl => old x (by rcases hx with h | h; exact .inl h; exact .inr (.inr h)) hl) H4.out.2.2
          obtain ⟨o1, o2⟩ := HOth.out (fun x => (x ∈ (b :: g :: bss.flatten) ∧ x ≠ b) ∨ w1.heap.size ≤ x) W6 (by omega) (fun x hx hn => by
            have hxl := (HOlt.out x (List.mem_cons_of_mem _ (List.mem_cons_of_mem _ hx))).2
            have hxb : x ≠ b := fun e => HD.out.1 (by rw [← e]; exact List.mem_cons_of_mem _ hx)
            have hxg : x ≠ g := fun e => HD.out.2.1 (e ▸ hx)
            have hxk : x ≠ kb' := fun e => hn (e ▸ HKB.out)
            exact ⟨.inl ⟨List.mem_cons_of_mem _ (List.mem_cons_of_mem _ hx), hxb⟩, ((HBlk.out x (by omega) hxg hxb).trans (H4.out.1.2.2.2.2 x (by omega) hxk hxk)).trans (HF2.out.2.2.2.2 x hxl hn)⟩)
          have hxs : xs.take i ++ [.iface 53 (.pointer (some ⟨kb', 0, none⟩))] ++ [(.iface ty pv)] ++ xs.drop (i + 1) = xs.take (i + 1) ++ (.iface ty pv) :: xs.drop (i + 1) := by
            obtain ⟨q1, q2⟩ := List.getElem?_eq_some_iff.1 HEq.out.1
            rw [← List.take_append_getElem q1, q2]
            simp
          have hak : AllK (fun x => (x ∈ (b :: g :: bss.flatten) ∧ x ≠ b) ∨ w1.heap.size ≤ x) W6 (d + 1) (l.take i ++ splU (d + 1) t' ++ l.drop (i + 1)) (xs.take (i + 1) ++ (.iface ty pv) :: xs.drop (i + 1)) := by
            rw [hspl, ← hxs, show l.take i ++ [cutR 0 3 t', cutR 3 5 t'] = l.take i ++ [cutR 0 3 t'] ++ [cutR 3 5 t'] by simp]
            exact ((o1.app (AllK.one k1)).app (AllK.one k2)).app o2
          refine ins_fin (d + 1) b gg cc _ _ _ _ W6 (by rw [hML]; exact HX6.out) (by rw [hML]; exact H5.out.2.2.2.1) (by omega) (by omega) HCe6.out hak (fun q => ?_) ?_ (by have := H5.out.2.2.2.2; omega) ?_
          · rcases q with q | q
            · exact q.2 rfl
            · omega
          · rcases H5.out.1 with h | h
            · exact .inl ⟨by rw [h]; simp, hgb5⟩
            · exact .inr (by omega)
          · exact Nat.le_trans (keys_cat l i hi t' hspl HBal.out HSz.out.2.2 (keys_spl hn5)) (by omega)
        go_wp2_with fail
        (with_reducible refine HFin.out.mono ?_)
        rintro e w7 ⟨rfl, hg7, hnd7⟩
        have HR : Hid (RetO key (d + 2) (.inr l) (.iface 91 (.pointer (some ⟨b, 0, none⟩))) (b :: g :: bss.flatten) w1 (.returned (.bool true)) w7) := .inr ⟨HNM.out, rfl, ((HF2.out.mono (fun x hx => List.mem_cons_of_mem _ (List.mem_cons_of_mem _ (HUs.out x hx)))).trans HFr6.out).trans (frs_grown hg7 (by simp)), _, b, by simp, ⟨i, HKI.out, hi, t', HU.out, rfl⟩, hnd7⟩
        clear hg7 hnd7 HFin
        go_wp2
        go_ret
        exact HR.out
      · have hn4 : sizR t' ≤ 4 := by have := HSz.out; omega
        have h4d : decide (4 < n) = false := decide_eq_false h4
        have hspl : splU (d + 1) t' = [t'] := splR_one hn4
        have HFin : Hid (Calls Try.prog 57 #[.pointer (some ⟨b, 0, none⟩)] w3 fun e w' => e = .returned (.tuple #[]) ∧ w3.grownBy w' (some b) ∧ NdI (fun x => (x ∈ (b :: g :: bss.flatten) ∧ x ≠ b) ∨ w1.heap.size ≤ x) w' b (d + 2) (.inr (l.take i ++ splU (d + 1) t' ++ l.drop (i + 1))) (.iface 91 (.pointer (some ⟨b, 0, none⟩)))) := by
          have hML : (l.take i ++ splU (d + 1) t' ++ l.drop (i + 1)).length = ln := by
            rw [hspl, List.length_append, List.length_append, List.length_take, List.length_drop, HLn.out]
            simp only [List.length_cons, List.length_nil]
            omega
          have hkid : TAo (fun x => (x ∈ (b :: g :: bss.flatten) ∧ x ≠ b) ∨ w1.heap.size ≤ x) w3 (d + 1) t' (.iface 53 (.pointer (some ⟨kb', 0, none⟩))) := by
            refine TAo.wide (HND.out.tao (fun q => ?_)) (fun x hx _ => ?_)
            · rcases q with q | q
              · exact q.2 rfl
              · have := HUlt.out kb' HKB.out; omega
            · rcases hx with (hx | hx) | hx
              · exact .inl ⟨List.mem_cons_of_mem _ (List.mem_cons_of_mem _ (HUs.out x hx.1)), fun e => hnb (e ▸ hx.1)⟩
              · exact .inr hx
              · subst hx
                exact .inl ⟨List.mem_cons_of_mem _ (List.mem_cons_of_mem _ (HUs.out _ HKB.out)), fun e => hnb (e ▸ HKB.out)⟩
          obtain ⟨o1, o2⟩ := HOth.out (fun x => (x ∈ (b :: g :: bss.flatten) ∧ x ≠ b) ∨ w1.heap.size ≤ x) w3 hz2 (fun x hx hn => ⟨.inl ⟨List.mem_cons_of_mem _ (List.mem_cons_of_mem _ hx), fun e => HD.out.1 (by rw [← e]; exact List.mem_cons_of_mem _ hx)⟩, HF2.out.2.2.2.2 x (HOlt.out x (List.mem_cons_of_mem _ (List.mem_cons_of_mem _ hx))).2 hn⟩)
          have hak : AllK (fun x => (x ∈ (b :: g :: bss.flatten) ∧ x ≠ b) ∨ w1.heap.size ≤ x) w3 (d + 1) (l.take i ++ splU (d + 1) t' ++ l.drop (i + 1)) (xs.take i ++ [.iface 53 (.pointer (some ⟨kb', 0, none⟩))] ++ xs.drop (i + 1)) := by
            rw [hspl]
            exact (o1.app (AllK.one hkid)).app o2
          have hxs : xs.take i ++ [.iface 53 (.pointer (some ⟨kb', 0, none⟩))] ++ xs.drop (i + 1) = xs := by
            obtain ⟨q1, q2⟩ := List.getElem?_eq_some_iff.1 HEq.out.1
            rw [← q2, List.append_assoc, List.singleton_append, List.getElem_cons_drop, List.take_append_drop]
          rw [hxs] at hak
          refine ins_fin (d + 1) b g kc _ _ xs _ w3 (by rw [hML]; exact HX2.out) (by rw [hML]; exact hcap) (by omega) (by omega) (fun j u hj => ?_) hak (fun q => ?_) (.inl ⟨by simp, hgb⟩) (by omega) ?_
          · have hj2 := (List.getElem?_eq_some_iff.1 hj).1
            have hj3 := HO2.out.1
            rw [HO2.out.cellAt j (by omega)]
            exact hj
          · rcases q with q | q
            · exact q.2 rfl
            · omega
          · exact Nat.le_trans (keys_cat l i hi t' hspl HBal.out HSz.out.2.2) (by omega)
        clear c1 c2 HLg
        go_wp2_with fail
        (with_reducible refine HFin.out.mono ?_)
        rintro e w4 ⟨rfl, hg4, hnd4⟩
        have HR : Hid (RetO key (d + 2) (.inr l) (.iface 91 (.pointer (some ⟨b, 0, none⟩))) (b :: g :: bss.flatten) w1 (.returned (.bool true)) w4) := .inr ⟨HNM.out, rfl, (HF2.out.mono (fun x hx => List.mem_cons_of_mem _ (List.mem_cons_of_mem _ (HUs.out x hx)))).trans (frs_grown hg4 (by simp)), _, b, by simp, ⟨i, HKI.out, hi, t', HU.out, rfl⟩, hnd4⟩
        clear hg4 hnd4 HFin
        go_wp2
        go_ret
        exact HR.out
  · have HC : Hid (Calls Try.prog 123 #[.pointer (some ⟨kb, 0, none⟩), .string key] w1 (RetO key (d + 1) l[i] (.iface 91 (.pointer (some ⟨kb, 0, none⟩))) us w1)) := hcall
    clear hcall
    go_wp2_with fail
    (with_reducible refine HC.out.mono ?_)
    rintro e w2 (⟨hm, rfl, hb2⟩ | ⟨hm, rfl, hf2, t', kb', hkb', hu', hnd⟩)
    · have HR : Hid (RetO key (d + 2) (.inr l) (.iface 91 (.pointer (some ⟨b, 0, none⟩))) (b :: g :: bss.flatten) w1 (.returned (.bool false)) w2) := .inl ⟨(mem_kid HBal.out.2.1 HBal.out.2.2.1 HKI.out hi).2 hm, rfl, hb2⟩
      clear hb2 hm HC
      go_wp2
      go_ret
      exact HR.out
    · have HNM : Hid (key ∉ l.flatMap (keysR (d + 1))) := fun q => hm ((mem_kid HBal.out.2.1 HBal.out.2.2.1 HKI.out hi).1 q)
      have HU : Hid (InsU key (d + 1) l[i] t') := hu'
      have h5 : sizR t' ≤ 5 := sizU_le (HBal.out.1 _ (List.getElem_mem hi)) hu'
      have hkl : (keysR (d + 1) t').length ≤ 100000 := keysU_len (HBal.out.1 _ (List.getElem_mem hi)) hu' (by have := kid_le (d + 1) l i hi; have q : nodesR (d + 1 + 1) (.inr l) ≤ 5000 := HBal.out.2.2.2; omega) (by omega)
      obtain ⟨n, ka', kc', hkk, hn, hbx⟩ : ∃ n ka' kc', kb' = kb ∧ n = sizR t' ∧ Bx w2 kb 96 #[.int .i64 ((keysR (d + 1) t').length : Int), .slice ka' n kc'] := by
        rcases t' with L' | l'
        · obtain ⟨e, _⟩ := hnd
          injection e with e _
          exact absurd e (by decide)
        · obtain ⟨e, g', o', kc', xs', hx', _⟩ := hnd
          injection e with _ e
          injection e with e
          injection e with e
          injection e with e
          exact ⟨_, _, kc', e.symm, rfl, e ▸ hx'⟩
      subst hkk
      have HND : Hid (NdI (fun x => (x ∈ us ∧ x ≠ kb') ∨ w1.heap.size ≤ x) w2 kb' (d + 1) t' (.iface 91 (.pointer (some ⟨kb', 0, none⟩)))) := hnd
      have HF2 : Hid (Frs us w1 w2) := hf2
      have HKB : Hid (kb' ∈ us) := hkb'
      have HSz : Hid (n = sizR t' ∧ sizR t' ≤ 5 ∧ (keysR (d + 1) t').length ≤ 100000) := ⟨hn, h5, hkl⟩
      have hnb : b ∉ us := fun q => HD.out.1 (List.mem_cons_of_mem _ (HUs.out b q))
      have hng : g ∉ us := fun q => HD.out.2.1 (HUs.out g q)
      have hgb : g ≠ b := fun e => HD.out.1 (by rw [e]; simp)
      have hgl : g < w1.heap.size := (HOlt.out g (by simp)).2
      have HX2 : Hid (Bx w2 b 96 #[.int .i64 ((l.flatMap (keysR (d + 1))).length : Int), .slice (some ⟨g, 0, none⟩) ln kc]) := HX.out.of_block (hf2.2.2.2.2 b pz hnb)
      have HO2 : Hid (w2.ownsRow B 59 1 (.slice (some ⟨g, 0, none⟩) ln kc) ln xs) := own_keep HO.out (fun g' e => by injection e with e; subst e; exact hf2.2.2.2.2 g hgl hng)
      have HLg : Hid (Calls Try.prog 128 #[.pointer (some ⟨kb', 0, none⟩)] w2 fun e w' => e = .returned (.bool (decide (4 < n))) ∧ w' = w2) := largeInner_any kb' n kc' ka' _ w2 hbx
      have HOth : Hid (∀ (S' : Nat → Prop) (W : World), w1.heap.size ≤ W.heap.size → (∀ x, x ∈ bss.flatten → x ∉ us → S' x ∧ W.heap[x]? = w1.heap[x]?) → AllK S' W (d + 1) (l.take i) (xs.take i) ∧ AllK S' W (d + 1) (l.drop (i + 1)) (xs.drop (i + 1))) := by
        intro S' W hz hS
        have hxl : xs.length = l.length := by have := HO.out.1; rw [← HLn.out]; omega
        have each : ∀ k (h : k < l.length), k ≠ i → ∃ u, xs[k]? = some u ∧ TAo S' W (d + 1) l[k] u := by
          intro k hk hne
          obtain ⟨uk, usk, e1, e2, e3⟩ := HAll.out k hk
          have hmk : usk ∈ bss := List.mem_of_getElem? e2
          have hnk : usk.Nodup := by
            have := HD.out.2.2
            unfold List.Nodup at this
            rw [List.pairwise_flatten] at this
            exact this.1 usk hmk
          refine ⟨uk, e1, TAo.keep hz (fun x hx _ => ?_) (e3.tao hnk)⟩
          exact hS x (List.mem_flatten.2 ⟨usk, hmk, hx⟩) (nodup_ne HD.out.2.2 HEq.out.2 e2 hne hx)
        refine ⟨⟨by rw [List.length_take, List.length_take, hxl], fun k hk => ?_⟩, ⟨by rw [List.length_drop, List.length_drop, hxl], fun k hk => ?_⟩⟩
        · rw [List.length_take] at hk
          obtain ⟨u, e, q⟩ := each k (by omega) (by omega)
          exact ⟨u, by rw [List.getElem?_take, if_pos (by omega)]; exact e, by rw [List.getElem_take]; exact q⟩
        · rw [List.length_drop] at hk
          obtain ⟨u, e, q⟩ := each (i + 1 + k) (by omega) (by omega)
          exact ⟨u, by rw [List.getElem?_drop]; exact e, by rw [List.getElem_drop]; exact q⟩
      have c1 := HX2.out.cell 1
      simp at c1
      have cz := HX2.out.lt
      have c2 : w2.cell? ⟨g, i, none⟩ = some (.iface 91 (.pointer (some ⟨kb', 0, none⟩))) := by
        rw [HO2.out.cellAt i (by omega)]
        exact HEq.out.1
      have hz2 := hf2.2.2.2.1
      clear hnd hf2 hkb' hbx hm hu' HC cgi p1
      go_wp2_with fail
      (with_reducible refine HLg.out.mono ?_)
      rintro e w3 ⟨rfl, hw3⟩
      subst hw3
      by_cases h4 : 4 < n
      · have hn5 : sizR t' = 5 := by have := HSz.out; omega
        have h4d : decide (4 < n) = true := decide_eq_true h4
        have hspl : splU (d + 1) t' = [cutR 0 3 t', cutR 3 5 t'] := splR_two hn5
        have HPt : Hid (Calls Try.prog 56 #[.iface 91 (.pointer (some ⟨kb', 0, none⟩))] w3.drew (RetPart (fun x => ((x ∈ us ∧ x ≠ kb') ∨ w1.heap.size ≤ x) ∧ x < w3.heap.size) w3.drew kb' d t' (.iface 91 (.pointer (some ⟨kb', 0, none⟩))))) := by
          refine part_o d kb' t' _ _ w3.drew (NdI.keep (w := w3) (w' := w3.drew) (Nat.le_refl _) rfl (fun x hx hl => ⟨⟨hx, hl⟩, rfl⟩) HND.out) (fun q => ?_) (fun x hx => hx.2) hn5 (by have := HSz.out.2.2; omega)
          rcases q.1 with q | q
          · exact q.2 rfl
          · have := HUlt.out kb' HKB.out; omega
        have hbkb : b ≠ kb' := fun e => hnb (e ▸ HKB.out)
        have hgkb : g ≠ kb' := fun e => hng (e ▸ HKB.out)
        have h1c : ∀ v ∈ xs, v.oneCell' = true := by
          intro v hv
          obtain ⟨k, hkl, e⟩ := List.getElem_of_mem hv
          have hxl := HO.out.1
          obtain ⟨uk, usk, e1, e2, e3⟩ := HAll.out k (by rw [← HLn.out]; omega)
          rw [List.getElem?_eq_getElem hkl, e] at e1
          injection e1 with e1
          subst e1
          have := e3.tat
          rcases hlk : l[k]'(by rw [← HLn.out]; omega) with L' | l'
          · rw [hlk] at this; obtain ⟨_, _, _, rfl, _⟩ := this; rfl
          · rw [hlk] at this; obtain ⟨_, _, _, _, rfl, _⟩ := this; rfl
        have H1c : Hid (∀ v ∈ xs, v.oneCell' = true) := h1c
        have c1' : w3.drew.cell? ⟨b, 1, none⟩ = some (.slice (some ⟨g, 0, none⟩) ln kc) := c1
        have c2' : w3.drew.cell? ⟨g, i, none⟩ = some (.iface 91 (.pointer (some ⟨kb', 0, none⟩))) := c2
        clear h1c HLg
        go_upto_region 5 with fail
        refine wp_region_late (S := fun w' => w'.cell? ⟨b, 1, none⟩ = some (.slice (some ⟨g, 0, none⟩) ln kc)) 19 (by kernel_rfl) c1' (fun hHeld => ?_)
        refine late_take 0 .zero (v := ?_) (by kernel_rfl) (by kernel_rfl) (by kernel_rfl) (by kernel_rfl) (fun _ _ _ h => h) (by rfl) ?_ (by assumption) ?_
        rotate_left
        · (intro w hSw; (try dsimp only at hSw); go_simp) <;> with_reducible rfl
        simp only [Act.put, List.setIfInBounds_toArray, List.set_cons_zero, List.set_cons_succ]
        refine late_take 1 (.succ .zero) (v := ?_) (by kernel_rfl) (by kernel_rfl) (by kernel_rfl) (by kernel_rfl) (fun _ _ _ h => h) (by rfl) ?_ (by assumption) ?_
        rotate_left
        · (intro w hSw; (try dsimp only at hSw); go_simp) <;> with_reducible rfl
        simp only [Act.put, List.setIfInBounds_toArray, List.set_cons_zero, List.set_cons_succ]
        refine late_take 2 (.succ (.succ .zero)) (v := ?_) (by kernel_rfl) (by kernel_rfl) (by kernel_rfl) (by kernel_rfl) (fun _ _ _ h => h) (by rfl) ?_ (by assumption) ?_
        rotate_left
        · (intro w hSw; (try dsimp only at hSw); go_simp) <;> with_reducible rfl
        simp only [Act.put, List.setIfInBounds_toArray, List.set_cons_zero, List.set_cons_succ]
        refine late_take 3 (.succ (.succ (.succ .zero))) (v := ?_) (by kernel_rfl) (by kernel_rfl) (by kernel_rfl) (by kernel_rfl) (fun _ _ _ h => h) (by rfl) ?_ (by assumption) ?_
        rotate_left
        · (intro w hSw; (try dsimp only at hSw); go_simp) <;> with_reducible rfl
        simp only [Act.put, List.setIfInBounds_toArray, List.set_cons_zero, List.set_cons_succ]
        refine late_take 4 (.succ (.succ (.succ (.succ .zero)))) (v := ?_) (by kernel_rfl) (by kernel_rfl) (by kernel_rfl) (by kernel_rfl) (fun _ _ _ h => h) (by rfl) ?_ (by assumption) ?_
        rotate_left
        · (intro w hSw; (try dsimp only at hSw); go_simp) <;> with_reducible rfl
        simp only [Act.put, List.setIfInBounds_toArray, List.set_cons_zero, List.set_cons_succ]
        refine late_take 5 (.succ (.succ (.succ (.succ (.succ .zero))))) (v := ?_) (by kernel_rfl) (by kernel_rfl) (by kernel_rfl) (by kernel_rfl) (fun _ _ _ h => h) (by rfl) ?_ (by assumption) ?_
        rotate_left
        · (intro w hSw; (try dsimp only at hSw); go_simp) <;> with_reducible rfl
        simp only [Act.put, List.setIfInBounds_toArray, List.set_cons_zero, List.set_cons_succ]
        refine late_take 6 (.succ (.succ (.succ (.succ (.succ (.succ .zero)))))) (v := ?_) (by kernel_rfl) (by kernel_rfl) (by kernel_rfl) (by kernel_rfl) (fun _ _ _ h => h) (by rfl) ?_ (by assumption) ?_
        rotate_left
        · (intro w hSw; (try dsimp only at hSw); go_simp) <;> with_reducible rfl
        simp only [Act.put, List.setIfInBounds_toArray, List.set_cons_zero, List.set_cons_succ]
        refine late_take 7 (.succ (.succ (.succ (.succ (.succ (.succ (.succ .zero))))))) (v := ?_) (by kernel_rfl) (by kernel_rfl) (by kernel_rfl) (by kernel_rfl) (fun _ _ _ h => h) (by rfl) ?_ (by assumption) ?_
        rotate_left
        · (intro w hSw; (try dsimp only at hSw); go_simp) <;> with_reducible rfl
        simp only [Act.put, List.setIfInBounds_toArray, List.set_cons_zero, List.set_cons_succ]
        refine late_take 8 (.succ (.succ (.succ (.succ (.succ (.succ (.succ (.succ .zero)))))))) (v := ?_) (by kernel_rfl) (by kernel_rfl) (by kernel_rfl) (by kernel_rfl) (fun _ _ _ h => h) (by rfl) ?_ (by assumption) ?_
        rotate_left
        · (intro w hSw; (try dsimp only at hSw); go_simp) <;> with_reducible rfl
        simp only [Act.put, List.setIfInBounds_toArray, List.set_cons_zero, List.set_cons_succ]
        refine late_take 9 (.succ (.succ (.succ (.succ (.succ (.succ (.succ (.succ (.succ .zero))))))))) (v := ?_) (by kernel_rfl) (by kernel_rfl) (by kernel_rfl) (by kernel_rfl) (fun _ _ _ h => h) (by rfl) ?_ (by assumption) ?_
        rotate_left
        · (intro w hSw; (try dsimp only at hSw); go_simp) <;> with_reducible rfl
        simp only [Act.put, List.setIfInBounds_toArray, List.set_cons_zero, List.set_cons_succ]
        refine late_take 10 (.succ (.succ (.succ (.succ (.succ (.succ (.succ (.succ (.succ (.succ .zero)))))))))) (v := ?_) (by kernel_rfl) (by kernel_rfl) (by kernel_rfl) (by kernel_rfl) (fun _ _ _ h => h) (by rfl) ?_ (by assumption) ?_
        rotate_left
        · (intro w hSw; (try dsimp only at hSw); go_simp) <;> with_reducible rfl
        simp only [Act.put, List.setIfInBounds_toArray, List.set_cons_zero, List.set_cons_succ]
        refine late_take 11 (.succ (.succ (.succ (.succ (.succ (.succ (.succ (.succ (.succ (.succ (.succ .zero))))))))))) (v := ?_) (by kernel_rfl) (by kernel_rfl) (by kernel_rfl) (by kernel_rfl) (fun _ _ _ h => h) (by rfl) ?_ (by assumption) ?_
        rotate_left
        · (intro w hSw; (try dsimp only at hSw); go_simp) <;> with_reducible rfl
        simp only [Act.put, List.setIfInBounds_toArray, List.set_cons_zero, List.set_cons_succ]
        refine late_take 12 (.succ (.succ (.succ (.succ (.succ (.succ (.succ (.succ (.succ (.succ (.succ (.succ .zero)))))))))))) (v := ?_) (by kernel_rfl) (by kernel_rfl) (by kernel_rfl) (by kernel_rfl) (fun _ _ _ h => h) (by rfl) ?_ (by assumption) ?_
        rotate_left
        · (intro w hSw; (try dsimp only at hSw); go_simp) <;> with_reducible rfl
        simp only [Act.put, List.setIfInBounds_toArray, List.set_cons_zero, List.set_cons_succ]
        refine late_one 13 (.succ (.succ (.succ (.succ (.succ (.succ (.succ (.succ (.succ (.succ (.succ (.succ (.succ .zero))))))))))))) (by kernel_rfl) (fun K hK => ?_)
        go_simp
        refine hK.out _ _ ?_ (fun hHeld2 => ?_)
        · (intro _; exact hHeld)
        clear hK K
        replace hHeld := hHeld2 (by decide)
        clear hHeld2
        try simp only [Act.put, List.setIfInBounds_toArray, List.set_cons_zero, List.set_cons_succ]
        refine late_one 14 (.succ (.succ (.succ (.succ (.succ (.succ (.succ (.succ (.succ (.succ (.succ (.succ (.succ (.succ .zero)))))))))))))) (by kernel_rfl) (fun K hK => ?_)
        refine step_t1 (by rfl) 56 40 _ (by rfl) (.iface 91 (.pointer (some ⟨kb', 0, none⟩))) (by rfl) (fun _ _ => by rfl) ?_
        (with_reducible refine HPt.out.mono ?_)
        rintro e w4 ⟨ur, rfl, hf4, hta, htb⟩
        obtain ⟨ty, pv, hur⟩ : ∃ ty pv, ur = .iface ty pv := by
          obtain ⟨bb, _, _, _, q⟩ := htb.count
          rcases q with q | q <;> exact ⟨_, _, q⟩
        subst hur
        refine ⟨_, rfl, ?_⟩
        have H4 : Hid (Fr2 w3 w4 kb' kb' ∧ TAo (fun x => (((x ∈ us ∧ x ≠ kb') ∨ w1.heap.size ≤ x) ∧ x < w3.heap.size) ∨ x = kb' ∨ w3.heap.size ≤ x) w4 (d + 1) (cutR 0 3 t') (.iface 91 (.pointer (some ⟨kb', 0, none⟩))) ∧ TAo (fun x => (((x ∈ us ∧ x ≠ kb') ∨ w1.heap.size ≤ x) ∧ x < w3.heap.size) ∨ w3.heap.size ≤ x) w4 (d + 1) (cutR 3 5 t') (.iface ty pv)) := ⟨hf4, hta, htb⟩
        have HX4 : Hid (Bx w4 b 96 #[.int .i64 ((l.flatMap (keysR (d + 1))).length : Int), .slice (some ⟨g, 0, none⟩) ln kc]) := HX2.out.of_block (hf4.2.2.2.2 b cz hbkb hbkb)
        have HO4 : Hid (w4.ownsRow B 59 1 (.slice (some ⟨g, 0, none⟩) ln kc) ln xs) := own_keep HO2.out (fun g' e => by injection e with e; subst e; exact hf4.2.2.2.2 g (by show g < w3.heap.size; omega) hgkb hgkb)
        have hz4 : w3.heap.size ≤ w4.heap.size := hf4.2.2.2.1
        have cb4 : w4.cell? ⟨b, 1, none⟩ = some (.slice (some ⟨g, 0, none⟩) ln kc) := by have := HX4.out.cell 1; simpa using this
        have cz4 := HX4.out.lt
        clear hf4 hta htb
        refine hK.out _ _ ?_ (fun hHeld2 => ?_)
        · (intro _; exact cb4)
        clear hK K
        replace hHeld := hHeld2 (by decide)
        clear hHeld2
        try simp only [Act.put, List.setIfInBounds_toArray, List.set_cons_zero, List.set_cons_succ]
        refine late_one 15 (.succ (.succ (.succ (.succ (.succ (.succ (.succ (.succ (.succ (.succ (.succ (.succ (.succ (.succ (.succ .zero))))))))))))))) (by kernel_rfl) (fun K hK => ?_)
        go_simp
        refine hK.out _ _ ?_ (fun hHeld2 => ?_)
        · (intro _; exact ((below_alloc w4 _).cell (p := ⟨b, 1, none⟩) cz4).trans cb4)
        clear hK K
        replace hHeld := hHeld2 (by decide)
        clear hHeld2
        try simp only [Act.put, List.setIfInBounds_toArray, List.set_cons_zero, List.set_cons_succ]
        refine late_one 16 (.succ (.succ (.succ (.succ (.succ (.succ (.succ (.succ (.succ (.succ (.succ (.succ (.succ (.succ (.succ (.succ .zero)))))))))))))))) (by kernel_rfl) (fun K hK => ?_)
        have HIn : Hid (Calls Try.prog 130 #[.slice (some ⟨g, 0, none⟩) ln kc, .int .i64 (IntKind.i64.wrap ((i : Int) + 1)), .slice (some ⟨w4.heap.size, 0, none⟩) 1 1] (w4.alloc (.cells #[(.iface ty pv)] 59)) (RetIn (w4.alloc (.cells #[(.iface ty pv)] 59)) g ln (xs.take (i + 1) ++ (.iface ty pv) :: xs.drop (i + 1)))) := by
          have := insN_any B g ln kc (i + 1) w4.heap.size xs (.iface ty pv) (w4.alloc (.cells #[(.iface ty pv)] 59)) (own_below HO4.out (below_alloc _ _)) H1c.out (blk_alloc_new _ _) H4.out.2.2.oneCell (by omega) (by omega) (by omega) (by simp; omega)
          rw [show (((i + 1 : Nat)) : Int) = IntKind.i64.wrap ((i : Int) + 1) by rw [IntKind.wrap_i64]; omega] at this
          exact this
        refine step_t3 (by rfl) 130 31 33 42 _ (by rfl) (.slice (some ⟨g, 0, none⟩) ln kc) (.int .i64 (IntKind.i64.wrap ((i : Int) + 1))) (.slice (some ⟨w4.heap.size, 0, none⟩) 1 1) (by rfl) (by rfl) (by rfl) (fun _ _ => by rfl) ?_
        (with_reducible refine HIn.out.mono ?_)
        rintro e w5 ⟨gg, cc, rfl, hcap5, hgl5, hgg, hce5, hg5⟩
        refine ⟨_, rfl, ?_⟩
        have HX5 : Hid (Bx w5 b 96 #[.int .i64 ((l.flatMap (keysR (d + 1))).length : Int), .slice (some ⟨g, 0, none⟩) ln kc]) := (HX4.out.alloc _).grown hg5 (fun e => hgb (by injection e))
        have H5 : Hid ((gg = g ∨ w4.heap.size + 1 ≤ gg) ∧ (∀ j v, (xs.take (i + 1) ++ (.iface ty pv) :: xs.drop (i + 1))[j]? = some v → w5.cell? ⟨gg, j, none⟩ = some v) ∧ (w4.alloc (.cells #[(.iface ty pv)] 59)).grownBy w5 (some g) ∧ (ln + 1 ≤ cc ∧ cc ≤ 9223372036854775807) ∧ gg < w5.heap.size) := ⟨by rcases hgg with h | h; exact .inl h; exact .inr (by simpa using h), hce5, hg5, hcap5, hgl5⟩
        have cb5 : w5.cell? ⟨b, 1, none⟩ = some (.slice (some ⟨g, 0, none⟩) ln kc) := by have := HX5.out.cell 1; simpa using this
        have cz5 := HX5.out.lt
        have cf5 := HX5.out.frozen 1
        clear hgg hce5 hg5 HIn cb4 hcap5 hgl5
        refine hK.out _ _ ?_ (fun hHeld2 => ?_)
        · (intro _; exact cb5)
        clear hK K
        replace hHeld := hHeld2 (by decide)
        clear hHeld2
        try simp only [Act.put, List.setIfInBounds_toArray, List.set_cons_zero, List.set_cons_succ]
        refine late_one 17 (.succ (.succ (.succ (.succ (.succ (.succ (.succ (.succ (.succ (.succ (.succ (.succ (.succ (.succ (.succ (.succ (.succ .zero))))))))))))))))) (by kernel_rfl) (fun K hK => ?_)
        go_simp
        refine hK.out _ _ ?_ (fun hHeld2 => ?_)
        · (intro _; exact hHeld)
        clear hK K
        replace hHeld := hHeld2 (by decide)
        clear hHeld2
        try simp only [Act.put, List.setIfInBounds_toArray, List.set_cons_zero, List.set_cons_succ]
        refine late_one 18 (.succ (.succ (.succ (.succ (.succ (.succ (.succ (.succ (.succ (.succ (.succ (.succ (.succ (.succ (.succ (.succ (.succ (.succ .zero)))))))))))))))))) (by kernel_rfl) (fun K hK => ?_)
        go_simp
        refine hK.out _ _ ?_ (fun hHeld2 => ?_)
        · (intro _; exact hHeld)
        clear hK K
        replace hHeld := hHeld2 (by decide)
        clear hHeld2
        try simp only [Act.put, List.setIfInBounds_toArray, List.set_cons_zero, List.set_cons_succ]
        refine late_one 19 (.succ (.succ (.succ (.succ (.succ (.succ (.succ (.succ (.succ (.succ (.succ (.succ (.succ (.succ (.succ (.succ (.succ (.succ (.succ .zero))))))))))))))))))) (by kernel_rfl) (fun K hK => ?_)
        go_simp
        refine hK.out _ _ ?_ (fun hHeld2 => ?_)
        · (intro hne; exact absurd rfl hne)
        clear hK K hHeld2
        refine wpLate_done (by kernel_rfl) ?_ _
        have hML : (l.take i ++ splU (d + 1) t' ++ l.drop (i + 1)).length = ln + 1 := by
          rw [hspl, List.length_append, List.length_append, List.length_take, List.length_drop, HLn.out]
          simp only [List.length_cons, List.length_nil]
          omega
        have hgb5 : gg ≠ b := by rcases H5.out.1 with h | h <;> omega
        have HBlk : Hid (∀ x, x < w4.heap.size → x ≠ g → x ≠ b → (w5.setCell ⟨b, 1, none⟩ (.slice (some ⟨gg, 0, none⟩) (ln + 1) cc)).heap[x]? = w4.heap[x]?) := by
          intro x hx h1 h2
          rw [Below.heap_setCell _ _ _ _ (show x ≠ b from h2), H5.out.2.2.1.block x (by simp; omega) (fun e => h1 (by injection e))]
          exact (below_alloc w4 _).block x hx
        have HSz6 : Hid ((w5.setCell ⟨b, 1, none⟩ (.slice (some ⟨gg, 0, none⟩) (ln + 1) cc)).heap.size = w5.heap.size ∧ w4.heap.size + 1 ≤ w5.heap.size) := ⟨by simp [World.setCell], by have := H5.out.2.2.1.size; simpa using this⟩
        have HX6 : Hid (Bx (w5.setCell ⟨b, 1, none⟩ (.slice (some ⟨gg, 0, none⟩) (ln + 1) cc)) b 96 #[.int .i64 ((l.flatMap (keysR (d + 1))).length : Int), .slice (some ⟨gg, 0, none⟩) (ln + 1) cc]) := by
          exact HX5.out.set 1 (.slice (some ⟨gg, 0, none⟩) (ln + 1) cc)
        have HCe6 : Hid (∀ j v, (xs.take (i + 1) ++ (.iface ty pv) :: xs.drop (i + 1))[j]? = some v → (w5.setCell ⟨b, 1, none⟩ (.slice (some ⟨gg, 0, none⟩) (ln + 1) cc)).cell? ⟨gg, j, none⟩ = some v) := fun j v hj => (World.cell?_of_block (a := ⟨gg, j, none⟩) (Below.heap_setCell _ _ _ _ hgb5)).trans (H5.out.2.1 j v hj)
        have HFr6 : Hid (Frs (b :: g :: bss.flatten) w3 (w5.setCell ⟨b, 1, none⟩ (.slice (some ⟨gg, 0, none⟩) (ln + 1) cc))) := by
          have f1 : Frs (b :: g :: bss.flatten) w3 w4 := frs_fr2 H4.out.1 (List.mem_cons_of_mem _ (List.mem_cons_of_mem _ (HUs.out _ HKB.out)))
          have f2 : Frs (b :: g :: bss.flatten) w4 (w4.alloc (.cells #[(.iface ty pv)] 59)) := frs_below (below_alloc _ _)
          have f3 : Frs (b :: g :: bss.flatten) (w4.alloc (.cells #[(.iface ty pv)] 59)) w5 := frs_grown H5.out.2.2.1 (by simp)
          have f4 : Frs (b :: g :: bss.flatten) w5 (w5.setCell ⟨b, 1, none⟩ (.slice (some ⟨gg, 0, none⟩) (ln + 1) cc)) := ⟨rfl, rfl, rfl, by simp [World.setCell], fun k _ hn => Below.heap_setCell _ _ _ _ (fun e => hn (by rw [e]; simp))⟩
          exact ((f1.trans f2).trans f3).trans f4
        generalize w5.setCell ⟨b, 1, none⟩ (.slice (some ⟨gg, 0, none⟩) (ln + 1) cc) = W6 at HBlk HSz6 HX6 HCe6 HFr6 ⊢
        clear hHeld cb5 cz5 cf5 c1' c2' c1 c2
        have HFin : Hid (Calls Try.prog 57 #[.pointer (some ⟨b, 0, none⟩)] W6 fun e w' => e = .returned (.tuple #[]) ∧ W6.grownBy w' (some b) ∧ NdI (fun x => (x ∈ (b :: g :: bss.flatten) ∧ x ≠ b) ∨ w1.heap.size ≤ x) w' b (d + 2) (.inr (l.take i ++ splU (d + 1) t' ++ l.drop (i + 1))) (.iface 91 (.pointer (some ⟨b, 0, none⟩)))) := by
          have hs6 := HSz6.out
          have old : ∀ x, (((x ∈ us ∧ x ≠ kb') ∨ w1.heap.size ≤ x) ∧ x < w3.heap.size) ∨ x = kb' ∨ w3.heap.size ≤ x → x < w4.heap.size → ((x ∈ (b :: g :: bss.flatten) ∧ x ≠ b) ∨ w1.heap.size ≤ x) ∧ W6.heap[x]? = w4.heap[x]? := by
            intro x hx hl
            have hux : x ∈ us → ((x ∈ (b :: g :: bss.flatten) ∧ x ≠ b) ∨ w1.heap.size ≤ x) ∧ W6.heap[x]? = w4.heap[x]? := fun q => ⟨.inl ⟨List.mem_cons_of_mem _ (List.mem_cons_of_mem _ (HUs.out x q)), fun e => hnb (e ▸ q)⟩, HBlk.out x hl (fun e => hng (e ▸ q)) (fun e => hnb (e ▸ q))⟩
            rcases hx with ⟨q | q, _⟩ | q | q
            · exact hux q.1
            · exact ⟨.inr q, HBlk.out x hl (by omega) (by omega)⟩
            · exact hux (q ▸ HKB.out)
            · exact ⟨.inr (by omega), HBlk.out x hl (by omega) (by omega)⟩
          have k1 : TAo (fun x => (x ∈ (b :: g :: bss.flatten) ∧ x ≠ b) ∨ w1.heap.size ≤ x) W6 (d + 1) (cutR 0 3 t') (.iface 91 (.pointer (some ⟨kb', 0, none⟩))) := TAo.keep (by omega) (fun x hx hl => old x hx hl) H4.out.2.1
          have k2 : TAo (fun x => (x ∈ (b :: g :: bss.flatten) ∧ x ≠ b) ∨ w1.heap.size ≤ x) W6 (d + 1) (cutR 3 5 t') (.iface ty pv) := TAo.keep (by omega) (fun x hx hl => old x (by rcases hx with h | h; exact .inl h; exact .inr (.inr h)) hl) H4.out.2.2
          obtain ⟨o1, o2⟩ := HOth.out (fun x => (x ∈ (b :: g :: bss.flatten) ∧ x ≠ b) ∨ w1.heap.size ≤ x) W6 (by omega) (fun x hx hn => by
            have hxl := (HOlt.out x (List.mem_cons_of_mem _ (List.mem_cons_of_mem _ hx))).2
            have hxb : x ≠ b := fun e => HD.out.1 (by rw [← e]; exact List.mem_cons_of_mem _ hx)
            have hxg : x ≠ g := fun e => HD.out.2.1 (e ▸ hx)
            have hxk : x ≠ kb' := fun e => hn (e ▸ HKB.out)
            exact ⟨.inl ⟨List.mem_cons_of_mem _ (List.mem_cons_of_mem _ hx), hxb⟩, ((HBlk.out x (by omega) hxg hxb).trans (H4.out.1.2.2.2.2 x (by omega) hxk hxk)).trans (HF2.out.2.2.2.2 x hxl hn)⟩)
          have hxs : xs.take i ++ [.iface 91 (.pointer (some ⟨kb', 0, none⟩))] ++ [(.iface ty pv)] ++ xs.drop (i + 1) = xs.take (i + 1) ++ (.iface ty pv) :: xs.drop (i + 1) := by
            obtain ⟨q1, q2⟩ := List.getElem?_eq_some_iff.1 HEq.out.1
            rw [← List.take_append_getElem q1, q2]
            simp
          have hak : AllK (fun x => (x ∈ (b :: g :: bss.flatten) ∧ x ≠ b) ∨ w1.heap.size ≤ x) W6 (d + 1) (l.take i ++ splU (d + 1) t' ++ l.drop (i + 1)) (xs.take (i + 1) ++ (.iface ty pv) :: xs.drop (i + 1)) := by
            rw [hspl, ← hxs, show l.take i ++ [cutR 0 3 t', cutR 3 5 t'] = l.take i ++ [cutR 0 3 t'] ++ [cutR 3 5 t'] by simp]
            exact ((o1.app (AllK.one k1)).app (AllK.one k2)).app o2
          refine ins_fin (d + 1) b gg cc _ _ _ _ W6 (by rw [hML]; exact HX6.out) (by rw [hML]; exact H5.out.2.2.2.1) (by omega) (by omega) HCe6.out hak (fun q => ?_) ?_ (by have := H5.out.2.2.2.2; omega) ?_
          · rcases q with q | q
            · exact q.2 rfl
            · omega
          · rcases H5.out.1 with h | h
            · exact .inl ⟨by rw [h]; simp, hgb5⟩
            · exact .inr (by omega)
          · exact Nat.le_trans (keys_cat l i hi t' hspl HBal.out HSz.out.2.2 (keys_spl hn5)) (by omega)
        go_wp2_with fail
        (with_reducible refine HFin.out.mono ?_)
        rintro e w7 ⟨rfl, hg7, hnd7⟩
        have HR : Hid (RetO key (d + 2) (.inr l) (.iface 91 (.pointer (some ⟨b, 0, none⟩))) (b :: g :: bss.flatten) w1 (.returned (.bool true)) w7) := .inr ⟨HNM.out, rfl, ((HF2.out.mono (fun x hx => List.mem_cons_of_mem _ (List.mem_cons_of_mem _ (HUs.out x hx)))).trans HFr6.out).trans (frs_grown hg7 (by simp)), _, b, by simp, ⟨i, HKI.out, hi, t', HU.out, rfl⟩, hnd7⟩
        clear hg7 hnd7 HFin
        go_wp2
        go_ret
        exact HR.out
      · have hn4 : sizR t' ≤ 4 := by have := HSz.out; omega
        have h4d : decide (4 < n) = false := decide_eq_false h4
        have hspl : splU (d + 1) t' = [t'] := splR_one hn4
        have HFin : Hid (Calls Try.prog 57 #[.pointer (some ⟨b, 0, none⟩)] w3 fun e w' => e = .returned (.tuple #[]) ∧ w3.grownBy w' (some b) ∧ NdI (fun x => (x ∈ (b :: g :: bss.flatten) ∧ x ≠ b) ∨ w1.heap.size ≤ x) w' b (d + 2) (.inr (l.take i ++ splU (d + 1) t' ++ l.drop (i + 1))) (.iface 91 (.pointer (some ⟨b, 0, none⟩)))) := by
          have hML : (l.take i ++ splU (d + 1) t' ++ l.drop (i + 1)).length = ln := by
            rw [hspl, List.length_append, List.length_append, List.length_take, List.length_drop, HLn.out]
            simp only [List.length_cons, List.length_nil]
            omega
          have hkid : TAo (fun x => (x ∈ (b :: g :: bss.flatten) ∧ x ≠ b) ∨ w1.heap.size ≤ x) w3 (d + 1) t' (.iface 91 (.pointer (some ⟨kb', 0, none⟩))) := by
            refine TAo.wide (HND.out.tao (fun q => ?_)) (fun x hx _ => ?_)
            · rcases q with q | q
              · exact q.2 rfl
              · have := HUlt.out kb' HKB.out; omega
            · rcases hx with (hx | hx) | hx
              · exact .inl ⟨List.mem_cons_of_mem _ (List.mem_cons_of_mem _ (HUs.out x hx.1)), fun e => hnb (e ▸ hx.1)⟩
              · exact .inr hx
              · subst hx
                exact .inl ⟨List.mem_cons_of_mem _ (List.mem_cons_of_mem _ (HUs.out _ HKB.out)), fun e => hnb (e ▸ HKB.out)⟩
          obtain ⟨o1, o2⟩ := HOth.out (fun x => (x ∈ (b :: g :: bss.flatten) ∧ x ≠ b) ∨ w1.heap.size ≤ x) w3 hz2 (fun x hx hn => ⟨.inl ⟨List.mem_cons_of_mem _ (List.mem_cons_of_mem _ hx), fun e => HD.out.1 (by rw [← e]; exact List.mem_cons_of_mem _ hx)⟩, HF2.out.2.2.2.2 x (HOlt.out x (List.mem_cons_of_mem _ (List.mem_cons_of_mem _ hx))).2 hn⟩)
          have hak : AllK (fun x => (x ∈ (b :: g :: bss.flatten) ∧ x ≠ b) ∨ w1.heap.size ≤ x) w3 (d + 1) (l.take i ++ splU (d + 1) t' ++ l.drop (i + 1)) (xs.take i ++ [.iface 91 (.pointer (some ⟨kb', 0, none⟩))] ++ xs.drop (i + 1)) := by
            rw [hspl]
            exact (o1.app (AllK.one hkid)).app o2
          have hxs : xs.take i ++ [.iface 91 (.pointer (some ⟨kb', 0, none⟩))] ++ xs.drop (i + 1) = xs := by
            obtain ⟨q1, q2⟩ := List.getElem?_eq_some_iff.1 HEq.out.1
            rw [← q2, List.append_assoc, List.singleton_append, List.getElem_cons_drop, List.take_append_drop]
          rw [hxs] at hak
          refine ins_fin (d + 1) b g kc _ _ xs _ w3 (by rw [hML]; exact HX2.out) (by rw [hML]; exact hcap) (by omega) (by omega) (fun j u hj => ?_) hak (fun q => ?_) (.inl ⟨by simp, hgb⟩) (by omega) ?_
          · have hj2 := (List.getElem?_eq_some_iff.1 hj).1
            have hj3 := HO2.out.1
            rw [HO2.out.cellAt j (by omega)]
            exact hj
          · rcases q with q | q
            · exact q.2 rfl
            · omega
          · exact Nat.le_trans (keys_cat l i hi t' hspl HBal.out HSz.out.2.2) (by omega)
        clear c1 c2 HLg
        go_wp2_with fail
        (with_reducible refine HFin.out.mono ?_)
        rintro e w4 ⟨rfl, hg4, hnd4⟩
        have HR : Hid (RetO key (d + 2) (.inr l) (.iface 91 (.pointer (some ⟨b, 0, none⟩))) (b :: g :: bss.flatten) w1 (.returned (.bool true)) w4) := .inr ⟨HNM.out, rfl, (HF2.out.mono (fun x hx => List.mem_cons_of_mem _ (List.mem_cons_of_mem _ (HUs.out x hx)))).trans (frs_grown hg4 (by simp)), _, b, by simp, ⟨i, HKI.out, hi, t', HU.out, rfl⟩, hnd4⟩
        clear hg4 hnd4 HFin
        go_wp2
        go_ret
        exact HR.out
end Go.Proofs.Ytakemeccigpbaaa

namespace Go.Proofs.Ytakemeccigpbaaa
open Go.RowKit Go.Deep
set_option linter.unusedVariables false
set_option maxRecDepth 100000

theorem insO (key : ByteArray) : ∀ (d : Nat) (t : Ro d) (v : Value) (bs : List Nat) (root : Bool) (h B : Nat) (w : World), TOw B w d t v bs → bs.Nodup → BalR d root t h → Asc (keysR d t) → nodesR d t ≤ 5000 → d ≤ 22 → B ≤ w.heap.size → CallI v key w (RetO key d t v bs w)
  | 0, _, _, _, _, _, _, _, hO, _, _, _, _, _, _ => hO.elim
  | d + 1, .inl L, v, bs, root, h, B, w, hO, hd, hb, ha, hn, hd2, hB => insLeafO key d B L v bs w hO hb.2.1 ha hB hd
  | 1, .inr l, v, bs, root, h, B, w, hO, hd, hb, ha, hn, hd2, hB => by
    obtain ⟨b, g, kc, xs, bss, rfl, hBb, hx, ho, hl0, hbl, rfl, hall⟩ := hO
    obtain ⟨_, _, _, _, q⟩ := hall 0 hl0
    exact q.elim
  | d + 2, .inr l, v, bs, root, h, B, w, hO, hd, hb, ha, hn, hd2, hB => by
    have hb2 := hb
    obtain ⟨b2, b4, h', _, hbk⟩ := hb2
    exact insInnerO key d B l v bs w root h hO hd hb ha hn hd2 hB (fun i hi u us ht hu => insO key (d + 1) l[i] u us false h' B w ht hu (hbk _ (List.getElem_mem hi)) (asc_kid ha i hi) (by have := kid_le (d + 1) l i hi; have q : nodesR (d + 1 + 1) (.inr l) ≤ 5000 := hn; omega) (by omega) hB)

theorem NdI.form {S : Nat → Prop} {w : World} {b d : Nat} {t : Ro (d + 1)} {v : Value} (h : NdI S w b (d + 1) t v) : (v = .iface 53 (.pointer (some ⟨b, 0, none⟩)) ∧ ∃ x ka kc, Bx w b 57 #[x, .slice ka (sizR t) kc]) ∨ (v = .iface 91 (.pointer (some ⟨b, 0, none⟩)) ∧ ∃ x ka kc, Bx w b 96 #[x, .slice ka (sizR t) kc]) := by
  rcases t with L | l
  · obtain ⟨rfl, ka, kc, hx, _⟩ := h
    exact .inl ⟨rfl, _, ka, kc, hx⟩
  · obtain ⟨rfl, g, o, kc, xs, hx, _⟩ := h
    exact .inr ⟨rfl, _, _, kc, hx⟩

set_option maxHeartbeats 1000000 in
theorem grown_small (d b : Nat) (t : Ro (d + 1)) (v : Value) (S : Nat → Prop) (w : World) (h : NdI S w b (d + 1) t v) (h4 : sizR t ≤ 4) : Calls Try.prog 38 #[v] w fun e w' => e = .returned v ∧ w' = w := by
  have hd : decide (4 < sizR t) = false := decide_eq_false (by omega)
  rcases h.form with ⟨rfl, x, ka, kc, hx⟩ | ⟨rfl, x, ka, kc, hx⟩
  · have HL : Hid (Calls Try.prog 111 #[.pointer (some ⟨b, 0, none⟩)] w fun e w' => e = .returned (.bool false) ∧ w' = w) := by
      have := largeLeaf_any b (sizR t) kc ka x w hx
      rw [hd] at this
      exact this
    clear h hx hd
    go_enter Try.func38, Try.ntmps38
    go_wp2_with fail
    (with_reducible refine HL.out.mono ?_)
    rintro e w1 ⟨rfl, rfl⟩
    go_wp2
    go_ret
    exact ⟨rfl, rfl⟩
  · have HL : Hid (Calls Try.prog 128 #[.pointer (some ⟨b, 0, none⟩)] w fun e w' => e = .returned (.bool false) ∧ w' = w) := by
      have := largeInner_any b (sizR t) kc ka x w hx
      rw [hd] at this
      exact this
    clear h hx hd
    go_enter Try.func38, Try.ntmps38
    go_wp2_with fail
    (with_reducible refine HL.out.mono ?_)
    rintro e w1 ⟨rfl, rfl⟩
    go_wp2
    go_ret
    exact ⟨rfl, rfl⟩

/-- What grownRoot leaves of a root that is too large. -/
def RetGr (S : Nat → Prop) (w : World) (b d : Nat) (t : Ro (d + 1)) (e : Ending) (w' : World) : Prop :=
  ∃ v', e = .returned v' ∧ Fr2 w w' b b ∧ TAo (fun x => S x ∨ x = b ∨ w.heap.size ≤ x) w' (d + 2) (.inr [cutR 0 3 t, cutR 3 5 t]) v'

set_option maxHeartbeats 4000000 in
theorem grown_big (d b : Nat) (t : Ro (d + 1)) (v : Value) (S : Nat → Prop) (w : World) (h : NdI S w b (d + 1) t v) (hb : ¬ S b) (hS : ∀ x, S x → x < w.heap.size) (h5 : sizR t = 5) (hk : (keysR (d + 1) t).length ≤ 100000) : Calls Try.prog 38 #[v] w (RetGr S w b d t) := by
  have hd : decide (4 < sizR t) = true := decide_eq_true (by omega)
  rcases h.form with ⟨rfl, x, ka, kc, hx⟩ | ⟨rfl, x, ka, kc, hx⟩
  · have HL : Hid (Calls Try.prog 111 #[.pointer (some ⟨b, 0, none⟩)] w fun e w' => e = .returned (.bool true) ∧ w' = w) := by
      have := largeLeaf_any b (sizR t) kc ka x w hx
      rw [hd] at this
      exact this
    have HPt : Hid (Calls Try.prog 56 #[.iface 53 (.pointer (some ⟨b, 0, none⟩))] w (RetPart S w b d t (.iface 53 (.pointer (some ⟨b, 0, none⟩))))) := part_o d b t _ S w h hb hS h5 (by omega)
    clear h hx hd
    go_enter Try.func38, Try.ntmps38
    go_wp2_with fail
    (with_reducible refine HL.out.mono ?_)
    rintro e w1 ⟨rfl, hw1⟩
    subst hw1
    go_wp2_with fail
    (with_reducible refine HPt.out.mono ?_)
    rintro e w2 ⟨ur, rfl, hf2, hta, htb⟩
    obtain ⟨ty, pv, hur⟩ : ∃ ty pv, ur = .iface ty pv := by
      obtain ⟨bb, _, _, _, q⟩ := htb.count
      rcases q with q | q <;> exact ⟨_, _, q⟩
    subst hur
    have H2 : Hid (Fr2 w1 w2 b b ∧ TAo (fun x => S x ∨ x = b ∨ w1.heap.size ≤ x) w2 (d + 1) (cutR 0 3 t) (.iface 53 (.pointer (some ⟨b, 0, none⟩))) ∧ TAo (fun x => S x ∨ w1.heap.size ≤ x) w2 (d + 1) (cutR 3 5 t) (.iface ty pv)) := ⟨hf2, hta, htb⟩
    have hz2 := hf2.2.2.2.1
    have HFin : Hid (Calls Try.prog 57 #[.pointer (some ⟨w2.heap.size + 1, 0, none⟩)] ((w2.alloc (.cells #[.iface 53 (.pointer (some ⟨b, 0, none⟩)), .iface ty pv] 59)).alloc (.cells #[.int .i64 0, .slice (some ⟨w2.heap.size, 0, none⟩) 2 2] 96)) fun e w' => e = .returned (.tuple #[]) ∧ ((w2.alloc (.cells #[.iface 53 (.pointer (some ⟨b, 0, none⟩)), .iface ty pv] 59)).alloc (.cells #[.int .i64 0, .slice (some ⟨w2.heap.size, 0, none⟩) 2 2] 96)).grownBy w' (some (w2.heap.size + 1)) ∧ NdI (fun x => (S x ∨ x = b ∨ w1.heap.size ≤ x) ∧ x ≤ w2.heap.size) w' (w2.heap.size + 1) (d + 2) (.inr [cutR 0 3 t, cutR 3 5 t]) (.iface 91 (.pointer (some ⟨w2.heap.size + 1, 0, none⟩)))) := by
      have bx := Bx.new (w2.alloc (.cells #[.iface 53 (.pointer (some ⟨b, 0, none⟩)), .iface ty pv] 59)) #[.int .i64 0, .slice (some ⟨w2.heap.size, 0, none⟩) 2 2] 96
      rw [World.size_alloc] at bx
      have rx := (Bx.new w2 #[.iface 53 (.pointer (some ⟨b, 0, none⟩)), .iface ty pv] 59).alloc (.cells #[.int .i64 0, .slice (some ⟨w2.heap.size, 0, none⟩) 2 2] 96)
      have bl : Below w2.heap.size w2 ((w2.alloc (.cells #[.iface 53 (.pointer (some ⟨b, 0, none⟩)), .iface ty pv] 59)).alloc (.cells #[.int .i64 0, .slice (some ⟨w2.heap.size, 0, none⟩) 2 2] 96)) := (below_alloc _ _).alloc (by simp) _
      have k1 : TAo (fun x => (S x ∨ x = b ∨ w1.heap.size ≤ x) ∧ x ≤ w2.heap.size) ((w2.alloc (.cells #[.iface 53 (.pointer (some ⟨b, 0, none⟩)), .iface ty pv] 59)).alloc (.cells #[.int .i64 0, .slice (some ⟨w2.heap.size, 0, none⟩) 2 2] 96)) (d + 1) (cutR 0 3 t) (.iface 53 (.pointer (some ⟨b, 0, none⟩))) := TAo.keep bl.size (fun x hx hl => ⟨⟨hx, by omega⟩, bl.block x hl⟩) H2.out.2.1
      have k2 : TAo (fun x => (S x ∨ x = b ∨ w1.heap.size ≤ x) ∧ x ≤ w2.heap.size) ((w2.alloc (.cells #[.iface 53 (.pointer (some ⟨b, 0, none⟩)), .iface ty pv] 59)).alloc (.cells #[.int .i64 0, .slice (some ⟨w2.heap.size, 0, none⟩) 2 2] 96)) (d + 1) (cutR 3 5 t) (.iface ty pv) := TAo.keep bl.size (fun x hx hl => ⟨⟨by rcases hx with h | h; exact .inl h; exact .inr (.inr h), by omega⟩, bl.block x hl⟩) H2.out.2.2
      have hkk := keys_spl h5
      refine ins_fin (d + 1) (w2.heap.size + 1) w2.heap.size 2 0 [cutR 0 3 t, cutR 3 5 t] [.iface 53 (.pointer (some ⟨b, 0, none⟩)), .iface ty pv] _ _ bx (by simp) (by simp) (by simp) (fun j u hj => ?_) ((AllK.one k1).app (AllK.one k2)) (fun q => by omega) ⟨.inr (.inr hz2), Nat.le_refl _⟩ (by simp; omega) (by omega)
      rw [rx.cell j]
      simpa using hj
    clear hf2 hta htb HL HPt
    go_wp2_with fail
    (with_reducible refine HFin.out.mono ?_)
    rintro e w3 ⟨rfl, hg3, hnd3⟩
    have HR : Hid (RetGr S w1 b d t (.returned (.iface 91 (.pointer (some ⟨w2.heap.size + 1, 0, none⟩)))) w3) := by
      have bl : Below w2.heap.size w2 ((w2.alloc (.cells #[.iface 53 (.pointer (some ⟨b, 0, none⟩)), .iface ty pv] 59)).alloc (.cells #[.int .i64 0, .slice (some ⟨w2.heap.size, 0, none⟩) 2 2] 96)) := (below_alloc _ _).alloc (by simp) _
      have bl3 := bl.grown hg3 (by simp; omega) (fun g e => by injection e with e; omega)
      refine ⟨_, rfl, H2.out.1.trans (fr2_of b b bl3), TAo.wide (hnd3.tao (fun q => by omega)) (fun x hx _ => ?_)⟩
      rcases hx with hx | hx
      · exact hx.1
      · exact .inr (.inr (by omega))
    clear hg3 hnd3 HFin
    go_wp2
    go_ret
    exact HR.out
  · have HL : Hid (Calls Try.prog 128 #[.pointer (some ⟨b, 0, none⟩)] w fun e w' => e = .returned (.bool true) ∧ w' = w) := by
      have := largeInner_any b (sizR t) kc ka x w hx
      rw [hd] at this
      exact this
    have HPt : Hid (Calls Try.prog 56 #[.iface 91 (.pointer (some ⟨b, 0, none⟩))] w (RetPart S w b d t (.iface 91 (.pointer (some ⟨b, 0, none⟩))))) := part_o d b t _ S w h hb hS h5 (by omega)
    clear h hx hd
    go_enter Try.func38, Try.ntmps38
    go_wp2_with fail
    (with_reducible refine HL.out.mono ?_)
    rintro e w1 ⟨rfl, hw1⟩
    subst hw1
    go_wp2_with fail
    (with_reducible refine HPt.out.mono ?_)
    rintro e w2 ⟨ur, rfl, hf2, hta, htb⟩
    obtain ⟨ty, pv, hur⟩ : ∃ ty pv, ur = .iface ty pv := by
      obtain ⟨bb, _, _, _, q⟩ := htb.count
      rcases q with q | q <;> exact ⟨_, _, q⟩
    subst hur
    have H2 : Hid (Fr2 w1 w2 b b ∧ TAo (fun x => S x ∨ x = b ∨ w1.heap.size ≤ x) w2 (d + 1) (cutR 0 3 t) (.iface 91 (.pointer (some ⟨b, 0, none⟩))) ∧ TAo (fun x => S x ∨ w1.heap.size ≤ x) w2 (d + 1) (cutR 3 5 t) (.iface ty pv)) := ⟨hf2, hta, htb⟩
    have hz2 := hf2.2.2.2.1
    have HFin : Hid (Calls Try.prog 57 #[.pointer (some ⟨w2.heap.size + 1, 0, none⟩)] ((w2.alloc (.cells #[.iface 91 (.pointer (some ⟨b, 0, none⟩)), .iface ty pv] 59)).alloc (.cells #[.int .i64 0, .slice (some ⟨w2.heap.size, 0, none⟩) 2 2] 96)) fun e w' => e = .returned (.tuple #[]) ∧ ((w2.alloc (.cells #[.iface 91 (.pointer (some ⟨b, 0, none⟩)), .iface ty pv] 59)).alloc (.cells #[.int .i64 0, .slice (some ⟨w2.heap.size, 0, none⟩) 2 2] 96)).grownBy w' (some (w2.heap.size + 1)) ∧ NdI (fun x => (S x ∨ x = b ∨ w1.heap.size ≤ x) ∧ x ≤ w2.heap.size) w' (w2.heap.size + 1) (d + 2) (.inr [cutR 0 3 t, cutR 3 5 t]) (.iface 91 (.pointer (some ⟨w2.heap.size + 1, 0, none⟩)))) := by
      have bx := Bx.new (w2.alloc (.cells #[.iface 91 (.pointer (some ⟨b, 0, none⟩)), .iface ty pv] 59)) #[.int .i64 0, .slice (some ⟨w2.heap.size, 0, none⟩) 2 2] 96
      rw [World.size_alloc] at bx
      have rx := (Bx.new w2 #[.iface 91 (.pointer (some ⟨b, 0, none⟩)), .iface ty pv] 59).alloc (.cells #[.int .i64 0, .slice (some ⟨w2.heap.size, 0, none⟩) 2 2] 96)
      have bl : Below w2.heap.size w2 ((w2.alloc (.cells #[.iface 91 (.pointer (some ⟨b, 0, none⟩)), .iface ty pv] 59)).alloc (.cells #[.int .i64 0, .slice (some ⟨w2.heap.size, 0, none⟩) 2 2] 96)) := (below_alloc _ _).alloc (by simp) _
      have k1 : TAo (fun x => (S x ∨ x = b ∨ w1.heap.size ≤ x) ∧ x ≤ w2.heap.size) ((w2.alloc (.cells #[.iface 91 (.pointer (some ⟨b, 0, none⟩)), .iface ty pv] 59)).alloc (.cells #[.int .i64 0, .slice (some ⟨w2.heap.size, 0, none⟩) 2 2] 96)) (d + 1) (cutR 0 3 t) (.iface 91 (.pointer (some ⟨b, 0, none⟩))) := TAo.keep bl.size (fun x hx hl => ⟨⟨hx, by omega⟩, bl.block x hl⟩) H2.out.2.1
      have k2 : TAo (fun x => (S x ∨ x = b ∨ w1.heap.size ≤ x) ∧ x ≤ w2.heap.size) ((w2.alloc (.cells #[.iface 91 (.pointer (some ⟨b, 0, none⟩)), .iface ty pv] 59)).alloc (.cells #[.int .i64 0, .slice (some ⟨w2.heap.size, 0, none⟩) 2 2] 96)) (d + 1) (cutR 3 5 t) (.iface ty pv) := TAo.keep bl.size (fun x hx hl => ⟨⟨by rcases hx with h | h; exact .inl h; exact .inr (.inr h), by omega⟩, bl.block x hl⟩) H2.out.2.2
      have hkk := keys_spl h5
      refine ins_fin (d + 1) (w2.heap.size + 1) w2.heap.size 2 0 [cutR 0 3 t, cutR 3 5 t] [.iface 91 (.pointer (some ⟨b, 0, none⟩)), .iface ty pv] _ _ bx (by simp) (by simp) (by simp) (fun j u hj => ?_) ((AllK.one k1).app (AllK.one k2)) (fun q => by omega) ⟨.inr (.inr hz2), Nat.le_refl _⟩ (by simp; omega) (by omega)
      rw [rx.cell j]
      simpa using hj
    clear hf2 hta htb HL HPt
    go_wp2_with fail
    (with_reducible refine HFin.out.mono ?_)
    rintro e w3 ⟨rfl, hg3, hnd3⟩
    have HR : Hid (RetGr S w1 b d t (.returned (.iface 91 (.pointer (some ⟨w2.heap.size + 1, 0, none⟩)))) w3) := by
      have bl : Below w2.heap.size w2 ((w2.alloc (.cells #[.iface 91 (.pointer (some ⟨b, 0, none⟩)), .iface ty pv] 59)).alloc (.cells #[.int .i64 0, .slice (some ⟨w2.heap.size, 0, none⟩) 2 2] 96)) := (below_alloc _ _).alloc (by simp) _
      have bl3 := bl.grown hg3 (by simp; omega) (fun g e => by injection e with e; omega)
      refine ⟨_, rfl, H2.out.1.trans (fr2_of b b bl3), TAo.wide (hnd3.tao (fun q => by omega)) (fun x hx _ => ?_)⟩
      rcases hx with hx | hx
      · exact hx.1
      · exact .inr (.inr (by omega))
    clear hg3 hnd3 HFin
    go_wp2
    go_ret
    exact HR.out
end Go.Proofs.Ytakemeccigpbaaa
