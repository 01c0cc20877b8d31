import Derived.Test.YthcclkeeekppmaaPlM
import Derived.Test.YthcclkeeekppmaaPiC
import Derived.Maps.AppendAt
import Derived.Deep.RegionHeld3
import Derived.WalkKit
import Derived.Handy
namespace Go.Proofs.Ythcclkeeekppmaa
open Go.RowKit Go.Deep
set_option linter.unusedVariables false
set_option maxRecDepth 100000

theorem infoPl : (Try.prog.info? 65).map (fun i => (i.zero, i.size, i.bytes)) = some (some (.agg #[.int .i64 0, .string { data := #[] }, .string { data := #[] }, .bool false, .string { data := #[] }, .slice none 0 0, .int .i64 0]), 7, 96) := by kernel_rfl
theorem underPls : Try.prog.underlying 57 = some (.slice 65) := by kernel_rfl

/-- What a place holds. -/
structure Plc where
  kind : Int
  s : ByteArray
  t : ByteArray
  bound : Bool
  label : ByteArray
  ad : Option Addr
  cnt : Nat
  cap : Nat
  height : Int

/-- A place's cells. -/
def Plc.cells (p : Plc) : List Value := [.int .i64 p.kind, .string p.s, .string p.t, .bool p.bound, .string p.label, .slice p.ad p.cnt p.cap, .int .i64 p.height]
theorem Plc.len (p : Plc) : p.cells.length = 7 := rfl

/-- The cells of a row of places. -/
def plRow (f : Nat → Plc) (n : Nat) : List Value := (List.range n).flatMap fun i => (f i).cells
theorem plRow_zero (f : Nat → Plc) : plRow f 0 = [] := rfl
theorem plRow_succ (f : Nat → Plc) (n : Nat) : plRow f (n + 1) = plRow f n ++ (f n).cells := by
  unfold plRow
  rw [List.range_succ, List.flatMap_append]
  simp
theorem plRow_length (f : Nat → Plc) : ∀ n, (plRow f n).length = n * 7
  | 0 => rfl
  | n + 1 => by rw [plRow_succ, List.length_append, plRow_length f n, Plc.len]; omega
theorem plRow_get (f : Nat → Plc) : ∀ (n i r : Nat), i < n → r < 7 → (plRow f n)[i * 7 + r]? = (f i).cells[r]?
  | 0, _, _, h, _ => absurd h (Nat.not_lt_zero _)
  | n + 1, i, r, h, hr => by
    rw [plRow_succ]
    by_cases e : i = n
    · subst e
      rw [List.getElem?_append_right (by rw [plRow_length]; omega), plRow_length, show i * 7 + r - i * 7 = r by omega]
    · rw [List.getElem?_append_left (by rw [plRow_length]; omega)]
      exact plRow_get f n i r (by omega) hr
theorem plRow_congr {f f' : Nat → Plc} : ∀ {n : Nat}, (∀ i, i < n → f i = f' i) → plRow f n = plRow f' n
  | 0, _ => rfl
  | n + 1, h => by rw [plRow_succ, plRow_succ, plRow_congr (n := n) (fun i hi => h i (by omega)), h n (by omega)]

/-- One more. -/
def more (f : Nat → Plc) (n : Nat) (p : Plc) (i : Nat) : Plc := if i = n then p else f i
theorem more_at (f : Nat → Plc) (n : Nat) (p : Plc) : more f n p n = p := if_pos rfl
theorem more_ne {f : Nat → Plc} {n i : Nat} {p : Plc} (h : i ≠ n) : more f n p i = f i := if_neg h
theorem plRow_more (f : Nat → Plc) (n : Nat) (p : Plc) : plRow f n ++ p.cells = plRow (more f n p) (n + 1) := by
  rw [plRow_succ, more_at, plRow_congr (f := more f n p) (f' := f) (fun i hi => more_ne (by omega))]

/-- A row of places in the block g. -/
def PlAt (w : World) (g n : Nat) (f : Nat → Plc) : Prop :=
  ∃ cur, w.heap[g]? = some (.cells cur 65 (0, 0)) ∧ n * 7 ≤ cur.size ∧ ∀ i r, i < n → r < 7 → cur[i * 7 + r]? = (f i).cells[r]?

theorem PlAt.lt {w : World} {g n : Nat} {f : Nat → Plc} (h : PlAt w g n f) : g < w.heap.size := by
  obtain ⟨cur, hh, _⟩ := h
  exact (Array.getElem?_eq_some_iff.1 hh).1
theorem PlAt.cell {w : World} {g n : Nat} {f : Nat → Plc} (h : PlAt w g n f) {i r : Nat} (hi : i < n) (hr : r < 7) : w.cell? ⟨g, i * 7 + r, none⟩ = (f i).cells[r]? := by
  obtain ⟨cur, hh, _, hc⟩ := h
  rw [← hc i r hi hr]
  simp [World.cell?, hh]
theorem PlAt.of_block {w w' : World} {g n : Nat} {f : Nat → Plc} (h : PlAt w g n f) (hb : w'.heap[g]? = w.heap[g]?) : PlAt w' g n f := by
  obtain ⟨cur, hh, h1, hc⟩ := h
  exact ⟨cur, hb.trans hh, h1, hc⟩
theorem PlAt.below {w w' : World} {g n : Nat} {f : Nat → Plc} (h : PlAt w g n f) (hb : Below w.heap.size w w') : PlAt w' g n f := h.of_block (hb.block g h.lt)
theorem PlAt.other {w : World} {g n : Nat} {f : Nat → Plc} (h : PlAt w g n f) {p : Addr} (hp : g ≠ p.block) (v : Value) : PlAt (w.setCell p v) g n f := h.of_block (Below.heap_setCell _ _ _ _ hp)

theorem PlAt.seven {w : World} {g n : Nat} {f : Nat → Plc} (h : PlAt w g n f) {i : Nat} (hi : i < n) :
    w.cell? ⟨g, i * 7, none⟩ = some (.int .i64 (f i).kind) ∧ w.cell? ⟨g, i * 7 + 1, none⟩ = some (.string (f i).s) ∧ w.cell? ⟨g, i * 7 + 2, none⟩ = some (.string (f i).t) ∧ w.cell? ⟨g, i * 7 + 3, none⟩ = some (.bool (f i).bound) ∧ w.cell? ⟨g, i * 7 + 4, none⟩ = some (.string (f i).label) ∧ w.cell? ⟨g, i * 7 + 5, none⟩ = some (.slice (f i).ad (f i).cnt (f i).cap) ∧ w.cell? ⟨g, i * 7 + 6, none⟩ = some (.int .i64 (f i).height) :=
  ⟨h.cell (r := 0) hi (by decide), h.cell (r := 1) hi (by decide), h.cell (r := 2) hi (by decide), h.cell (r := 3) hi (by decide), h.cell (r := 4) hi (by decide), h.cell (r := 5) hi (by decide), h.cell (r := 6) hi (by decide)⟩

theorem plAt_ofRow {w : World} {B : Nat} {v : Value} {n : Nat} {f : Nat → Plc} (h : w.ownsRow B 65 7 v n (plRow f n)) (hn : 0 < n) : ∃ g c, v = .slice (some ⟨g, 0, none⟩) n c ∧ B ≤ g ∧ PlAt w g n f ∧ n ≤ c ∧ c ≤ 9223372036854775807 := by
  obtain ⟨_, h⟩ := h
  rcases h with ⟨rfl, rfl⟩ | ⟨g, cap, cur, rfl, hg, hh, h1, h2, h3, h4⟩
  · omega
  · unfold maxLen at h2
    refine ⟨g, cap, rfl, hg, ⟨cur, hh, by omega, fun i r hi hr => ?_⟩, h1, h2⟩
    rw [← plRow_get f n i r hi hr, ← h4, List.getElem?_take, if_pos (by omega)]
    simp

/-- The operands that a place names lie in ints of the call's own. -/
def OpsAt (w : World) (B : Nat) (p : Plc) (F : Nat → Nat) : Prop := OwnI w B p.ad p.cnt (fun j => (F j : Int))

/-- A place's seven cells, newly made. -/
theorem plc_new (w : World) (p : Plc) : ∀ j u, p.cells[j]? = some u → (w.alloc (.cells #[.int .i64 p.kind, .string p.s, .string p.t, .bool p.bound, .string p.label, .slice p.ad p.cnt p.cap, .int .i64 p.height] 65)).cell? ((⟨w.heap.size, 0, none⟩ : Addr).add j) = some u := by
  intro j u hj
  match j, hj with
  | 0, hj | 1, hj | 2, hj | 3, hj | 4, hj | 5, hj | 6, hj => simp [Plc.cells] at hj; subst hj; simp [Addr.add]
  | j + 7, hj => simp [Plc.cells] at hj

theorem plc_one (p : Plc) : ∀ u ∈ p.cells, u.oneCell' = true := by
  intro u hu
  simp [Plc.cells] at hu
  rcases hu with rfl | rfl | rfl | rfl | rfl | rfl | rfl <;> rfl

theorem PlAt.ne {w : World} {g n : Nat} {f : Nat → Plc} (h : PlAt w g n f) {g' : Nat} {t' : TypeId} {n' : Nat} {F : Nat → Value} (h' : rowIn w g' t' n' F) (ht : 65 ≠ t') : g' ≠ g := by
  rintro rfl
  obtain ⟨c, hb, _⟩ := h
  obtain ⟨c', hb', _, _⟩ := h'
  rw [hb] at hb'
  injection hb' with e
  injection e with _ e2 _
  exact ht e2

/-- One cell of one place set. -/
theorem PlAt.set {w : World} {g n : Nat} {f f' : Nat → Plc} (h : PlAt w g n f) (i r : Nat) (v : Value) (hr : r < 7) (hne : ∀ j, j ≠ i → f' j = f j) (hi : (f' i).cells = (f i).cells.set r v) : PlAt (w.setCell ⟨g, i * 7 + r, none⟩ v) g n f' := by
  obtain ⟨c, hb, hn, hc⟩ := h
  refine ⟨c.setIfInBounds (i * 7 + r) v, ?_, by simpa using hn, fun j q hj hq => ?_⟩
  · simp [World.setCell, Array.getElem?_modify, hb]
  · rw [Array.getElem?_setIfInBounds]
    by_cases e : j = i
    · subst e
      rw [hi, List.getElem?_set]
      by_cases e2 : r = q
      · subst e2
        have h1 : j * 7 + r < c.size := by omega
        have h2 : r < (f j).cells.length := by rw [Plc.len]; exact hr
        simp [h1, h2]
      · rw [if_neg (by omega), if_neg e2]
        exact hc j q hj hq
    · rw [if_neg (by omega), hne j e]
      exact hc j q hj hq

theorem PlAt.congr {w : World} {g n : Nat} {f f' : Nat → Plc} (h : PlAt w g n f) (e : ∀ i, i < n → f i = f' i) : PlAt w g n f' := by
  obtain ⟨c, hb, hn, hc⟩ := h
  exact ⟨c, hb, hn, fun j q hj hq => by rw [← e j hj]; exact hc j q hj hq⟩

/-- The stack's ints behind the first l. -/
def slAd (p : Option Addr) (l c : Nat) : Option Addr := if c = l then p else p.map (·.add (l * 1))
theorem rd_slice {W : World} {B : Nat} {p : Option Addr} {d c l : Nat} {S : Nat → Int} (h : W.ownsRow B 3 1 (.slice p d c) d (intRow S d)) (hl : l ≤ d) : Rd .i64 W (slAd p l c) (d - l) (fun j => S (l + j)) := by
  by_cases e : d - l = 0
  · exact Or.inl e
  · rcases h.2 with ⟨_, h0⟩ | ⟨g, cap, cur, hv, hg, hh, h1, h2, h3, h4⟩
    · omega
    · injection hv with e1 e2 e3
      subst e1 e3
      refine Or.inr ⟨g, l, ?_, fun i hi => ?_⟩
      · unfold slAd
        rw [if_neg (by omega), Nat.mul_one]
        show some (Addr.add ⟨g, 0, none⟩ l) = _
        unfold Addr.add
        by_cases h0 : l = 0
        · subst h0; simp
        · simp [h0]
      · have e1 : cur[l + i]? = some (.int .i64 (S (l + i))) := by
          rw [← intRow_get S d (l + i) (by omega), ← h4, List.getElem?_take, if_pos (by omega)]
          simp
        simp [World.cell?, hh, e1]

/-- The stack's first l ints. -/
theorem owns_cut {W : World} {B : Nat} {p : Option Addr} {d c l : Nat} {S : Nat → Int} (h : W.ownsRow B 3 1 (.slice p d c) d (intRow S d)) (hl : l ≤ d) : W.ownsRow B 3 1 (.slice p l c) l (intRow S l) := by
  refine ⟨by rw [intRow_length]; omega, ?_⟩
  rcases h.2 with ⟨hv, h0⟩ | ⟨g, cap, cur, hv, hg, hh, h1, h2, h3, h4⟩
  · injection hv with e1 e2 e3
    subst e1 e2 e3
    exact Or.inl ⟨by rw [show l = 0 by omega], by omega⟩
  · injection hv with e1 e2 e3
    subst e1 e3
    refine Or.inr ⟨g, c, cur, rfl, hg, hh, by omega, h2, h3, ?_⟩
    have e : cur.toList.take (l * 1) = (cur.toList.take (d * 1)).take (l * 1) := by rw [List.take_take, Nat.min_eq_left (by omega)]
    rw [e, h4]
    apply List.ext_getElem?
    intro i
    rw [List.getElem?_take]
    by_cases hi : i < l * 1
    · rw [if_pos hi, intRow_get _ _ _ (by omega), intRow_get _ _ _ (by omega)]
    · rw [if_neg hi, List.getElem?_eq_none (by rw [intRow_length]; omega)]

theorem intRow_more (S : Nat → Int) (l : Nat) (x : Int) : intRow S l ++ [.int .i64 x] = intRow (fun j => if j = l then x else S j) (l + 1) := by
  unfold intRow
  rw [List.range_succ, List.map_append]
  congr 1
  · refine List.map_congr_left (fun j hj => ?_)
    have := List.mem_range.1 hj
    simp only [if_neg (show j ≠ l by omega)]
  · simp

/-- Kinds that are none have one operand. -/
theorem arOf_none {k : Int} (h : ¬ (1 ≤ k ∧ k ≤ 9)) : gnB k = fun _ _ => false := by
  funext s t
  unfold gnB
  rw [if_neg (by omega), if_neg (by omega), if_neg (by omega)]

set_option maxHeartbeats 400000 in
theorem opCount_none (k : Int) (w : World) (hk : ¬ (1 ≤ k ∧ k ≤ 9)) : Calls Try.prog 58 #[.int .i64 k] w fun e w' => e = .returned (.int .i64 1) ∧ w' = w := by
  have e1 : (k == 1) = false := by simp; omega
  have e2 : (k == 2) = false := by simp; omega
  have e3 : (k == 3) = false := by simp; omega
  have e4 : (k == 4) = false := by simp; omega
  have e5 : (k == 5) = false := by simp; omega
  have e6 : (k == 6) = false := by simp; omega
  have e7 : (k == 7) = false := by simp; omega
  have e8 : (k == 8) = false := by simp; omega
  have e9 : (k == 9) = false := by simp; omega
  have f1 : ¬ k = 1 := by omega
  have f2 : ¬ k = 2 := by omega
  have f3 : ¬ k = 3 := by omega
  have f4 : ¬ k = 4 := by omega
  have f5 : ¬ k = 5 := by omega
  have f6 : ¬ k = 6 := by omega
  have f7 : ¬ k = 7 := by omega
  have f8 : ¬ k = 8 := by omega
  have f9 : ¬ k = 9 := by omega
  clear hk
  go_enter Try.func58, Try.ntmps58
  go_wp2
  go_ret
  exact ⟨rfl, rfl⟩

theorem step_append_pl {ops : Array Oper} {o : Oper} {a : Act} {w2 : World} {K : Act → World → Prop} {Q : Exit → Act → World → Prop} {E : Prop} (hgd : o.guard = none) (x y : Operand)
    (ho : o.op = .call { callee := .builtin .append, args := #[x, y], argTypes := #[57, 57] })
    (B k : Nat) (v : Value) (xs : List Value) (p : Plc) (hx : a.eval x = v) (hown : w2.ownsRow B 65 7 v k xs) (hy : a.eval y = .slice (some ⟨w2.heap.size, 0, none⟩) 1 1)
    (hk : k ≤ 1048576) (hB : B ≤ w2.heap.size)
    (h : ∀ v' w', w'.ownsRow B 65 7 v' (k + 1) (xs ++ p.cells) → (w2.alloc (.cells #[.int .i64 p.kind, .string p.s, .string p.t, .bool p.bound, .string p.label, .slice p.ad p.cnt p.cap, .int .i64 p.height] 65)).grownBy w' v.ownBlock → K (a.put o.dst v') w') :
    if Region.wanted o (yielded ops a.tmps) = true then Oper.wp Try.prog o a (w2.alloc (.cells #[.int .i64 p.kind, .string p.s, .string p.t, .bool p.bound, .string p.label, .slice p.ad p.cnt p.cap, .int .i64 p.height] 65)) K Q else E := by
  have hw : Region.wanted o (yielded ops a.tmps) = true := by simp [Region.wanted, hgd]
  rw [if_pos hw]
  obtain ⟨i0, hi, hz0, hz1, hz2⟩ := info_parts infoPl
  exact wp_append_own _ x y 57 ho B 65 i0 _ 7 96 underPls hi hz0 hz1 hz2 rfl (by decide) v k xs hx (hown.alloc _) ⟨w2.heap.size, 0, none⟩ 1 1 p.cells hy rfl (plc_new w2 p) (plc_one p) (by unfold maxLen; omega) (by omega) (by simp; omega) (fun v' w' q1 q2 _ => h v' w' q1 q2)

theorem grown_cellP {w2 w3 : World} {O : Obj} {row : Option Nat} (hg : (w2.alloc O).grownBy w3 row) {x : Addr} (hx : x.block < w2.heap.size) (hne : row ≠ some x.block) : w3.cell? x = w2.cell? x := by
  rw [World.cell?_of_block (w := w2.alloc O) (hg.block x.block (by simp; omega) (fun e => hne e.symm))]
  exact World.cell?_of_block (w := w2) (Below.heap_alloc _ _ _ hx)
end Go.Proofs.Ythcclkeeekppmaa
