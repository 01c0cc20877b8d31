import Derived.Test.YtfbhlegkpmcfoaaDevG
import Derived.Deep.CutRange
import Derived.Test.YtfbhlegkpmcfoaaLate
namespace Go.Proofs.Ytfbhlegkpmcfoaa
open Go.RowKit Go.Deep
set_option linter.unusedVariables false
set_option maxRecDepth 100000

/-- Bytes that can be read, appended to an empty slice of the call's own, as a step of a region that draws its order. -/
theorem step_append_rd0 {ops : Array Oper} {o : Oper} {act : Act} {w : World} {K : Act → World → Prop} {Q : Exit → Act → World → Prop} {E : Prop} (hgd : o.guard = none) (x y : Operand)
    (ho : o.op = .call { callee := .builtin .append, args := #[x, y], argTypes := #[28, 28] })
    (B g : Nat) (hx : act.eval x = .slice (some ⟨g, 0, none⟩) 0 0) (hg : w.heap[g]? = some (.cells #[] 5 (0, 0))) (hBg : B ≤ g)
    (a : Option Addr) (m c : Nat) (f : Nat → Int) (hy : act.eval y = .slice a m c) (hrd : Rd .u8 w a m f) (hm : m ≤ 1048576) (hB : B ≤ w.heap.size)
    (h : ∀ a' c' w', OwnB w' B a' m f → w.grownBy w' (some g) → m ≤ c' → c' ≤ 9223372036854775807 → K (act.put o.dst (.slice a' m c')) w') :
    if Region.wanted o (yielded ops act.tmps) = true then Oper.wp Try.prog o act w K Q else E := by
  have hw : Region.wanted o (yielded ops act.tmps) = true := by simp [Region.wanted, hgd]
  rw [if_pos hw]
  have hown : w.ownsRow B 5 1 (.slice (some ⟨g, 0, none⟩) 0 0) 0 [] := ⟨rfl, Or.inr ⟨g, 0, #[], rfl, hBg, hg, Nat.le_refl _, Nat.zero_le _, rfl, rfl⟩⟩
  obtain ⟨i0, hi, hz0, hz1, hz2⟩ := info_parts Try.info5
  by_cases hm0 : m = 0
  · subst hm0
    have hsrc : Src Try.prog i0.size 28 (.slice a 0 c) 0 [] w := by
      cases a with
      | none => exact Src.ofNil w Try.underlying28 c
      | some ad => exact Src.ofSlice w Try.underlying28 ad 0 c [] (by simp) (by simp) (by simp)
    have hrun := run_append_nothing (P := Try.prog) w 28 28 o.type 5 i0 Try.underlying28 hi (some ⟨g, 0, none⟩) 0 0 (Nat.le_refl _) (.slice a 0 c) hsrc
    unfold Oper.wp
    simp [execOp, ho, resolve, invoke, builtin, hx, hy, hrun, Result.andThen]
    exact h _ _ _ (Or.inl rfl) ⟨rfl, rfl, rfl, Nat.le_refl _, fun _ _ _ => rfl⟩ (Nat.le_refl _) (by omega)
  · rcases hrd with h0 | ⟨b, off, rfl, hc⟩
    · exact absurd h0 hm0
    · refine wp_append_own w x y 28 ho B 5 i0 (.int .u8 0) 1 1 Try.underlying28 hi hz0 hz1 hz2 rfl (by decide) _ 0 [] hx hown ⟨b, off, none⟩ m c (byteRow f m) hy (by simp [byteRow]) (fun j u hj => ?_) (fun u hu => ?_) (by unfold maxLen; omega) (by omega) hB (fun v' w' h1 h2 _ => ?_)
      · have hjm : j < m := by
          have := (List.getElem?_eq_some_iff.1 hj).1
          rwa [byteRow_length] at this
        rw [byteRow_get f m j hjm] at hj
        injection hj with hj
        subst hj
        have e : (Addr.add ⟨b, off, none⟩ j) = ⟨b, off + j, none⟩ := by
          unfold Addr.add
          by_cases h : j = 0
          · subst h; simp
          · simp [h]
        rw [e]
        exact hc j hjm
      · simp only [byteRow, List.mem_map] at hu
        obtain ⟨i, _, rfl⟩ := hu
        rfl
      · rw [Nat.zero_add, List.nil_append] at h1
        obtain ⟨a', c', hv, q1, q2, q3⟩ := ownB_ofRow h1
        subst hv
        exact h a' c' w' q1 h2 q2 q3

/-- The cells of a boxed disk. -/
def diskCell (v0 v1 : Value) (fuel : Int) (dead : Bool) (i : Nat) : Value := if i = 0 then v0 else if i = 1 then v1 else if i = 2 then .int .i64 fuel else .bool dead

theorem below_alloc2 (w : World) (o o' : Obj) : Below w.heap.size w ((w.alloc o).alloc o') := (below_alloc _ _).trans ((below_alloc _ _).mono (by simp))
theorem way1 (W : World) (o : Obj) {g : Nat} (hz : W.heap.size = g) : (W.alloc o).drew.heap[g]? = some o := by subst hz; exact blk_alloc_new W o
theorem way2 (W : World) (o o' : Obj) {g : Nat} (hz : W.heap.size = g) : ((W.alloc o).alloc o').drew.heap[g]? = some o := by
  subst hz
  exact (Below.heap_alloc (W.alloc o) o' _ (by simp)).trans (blk_alloc_new W o)
theorem way3 (W : World) (o o' : Obj) {g : Nat} (hz : W.heap.size = g) : ((W.alloc o').alloc o).drew.heap[g + 1]? = some o := by
  have := blk_alloc_new (W.alloc o') o
  rw [alloc_size, hz] at this
  exact this
theorem rowInNew (W : World) (v0 v1 : Value) (fuel : Int) (dead : Bool) : rowIn (W.alloc (.cells #[v0, v1, .int .i64 fuel, .bool dead] 40)) W.heap.size 40 4 (diskCell v0 v1 fuel dead) := by
  refine ⟨_, blk_alloc_new _ _, by simp, fun i hi => ?_⟩
  match i, hi with
  | 0, _ => rfl
  | 1, _ => rfl
  | 2, _ => rfl
  | 3, _ => rfl
theorem rowIn2 (W : World) (o : Obj) (v0 v1 : Value) (fuel : Int) (dead : Bool) {g : Nat} (hz : W.heap.size = g) : rowIn ((W.alloc o).alloc (.cells #[v0, v1, .int .i64 fuel, .bool dead] 40)).drew (g + 1) 40 4 (diskCell v0 v1 fuel dead) := by
  have := rowInNew (W.alloc o) v0 v1 fuel dead
  rw [alloc_size, hz] at this
  exact this
theorem rowIn3 (W : World) (o : Obj) (v0 v1 : Value) (fuel : Int) (dead : Bool) {g : Nat} (hz : W.heap.size = g) : rowIn ((W.alloc (.cells #[v0, v1, .int .i64 fuel, .bool dead] 40)).alloc o).drew g 40 4 (diskCell v0 v1 fuel dead) := by
  subst hz
  exact rowIn.below (rowInNew W v0 v1 fuel dead) (below_alloc _ _).drew

theorem diskRow {w : World} {b : Nat} {v0 v1 : Value} {fuel : Int} {dead : Bool} (h : rowIn w b 40 4 (diskCell v0 v1 fuel dead)) :
    w.cell? ⟨b, 0, none⟩ = some v0 ∧ w.cell? ⟨b, 1, none⟩ = some v1 ∧ w.cell? ⟨b, 2, none⟩ = some (.int .i64 fuel) ∧ w.cell? ⟨b, 3, none⟩ = some (.bool dead) ∧ (∀ o, w.frozen? ⟨b, o, none⟩ = false) ∧ b < w.heap.size :=
  ⟨by simpa [diskCell] using rowIn.cell h (i := 0) (by omega), by simpa [diskCell] using rowIn.cell h (i := 1) (by omega), by simpa [diskCell] using rowIn.cell h (i := 2) (by omega), by simpa [diskCell] using rowIn.cell h (i := 3) (by omega), fun o => rowIn.frozen h o, rowIn.lt h⟩

/-- A boxed disk, in block b. -/
def DkRow (w : World) (b : Nat) (v0 v1 : Value) (fuel : Int) (dead : Bool) : Prop := rowIn w b 40 4 (diskCell v0 v1 fuel dead)
theorem DkRow.cells {w : World} {b : Nat} {v0 v1 : Value} {fuel : Int} {dead : Bool} (h : DkRow w b v0 v1 fuel dead) :
    w.cell? ⟨b, 0, none⟩ = some v0 ∧ w.cell? ⟨b, 1, none⟩ = some v1 ∧ w.cell? ⟨b, 2, none⟩ = some (.int .i64 fuel) ∧ w.cell? ⟨b, 3, none⟩ = some (.bool dead) ∧ (∀ o, w.frozen? ⟨b, o, none⟩ = false) ∧ b < w.heap.size := diskRow h
theorem DkRow.setCache {w : World} {b : Nat} {v0 v1 : Value} {fuel : Int} {dead : Bool} (h : DkRow w b v0 v1 fuel dead) (x : Value) : DkRow (w.setCell ⟨b, 1, none⟩ x) b v0 x fuel dead :=
  (rowIn.set h 1 _).congr (fun i hi => by
    unfold diskCell
    by_cases e : i = 1
    · subst e; simp
    · simp [e])
theorem DkRow.below {w w' : World} {b : Nat} {v0 v1 : Value} {fuel : Int} {dead : Bool} (h : DkRow w b v0 v1 fuel dead) (hb : Below w.heap.size w w') : DkRow w' b v0 v1 fuel dead := rowIn.below h hb
theorem OwnB.onlyDk {w w' : World} {b B : Nat} {a : Option Addr} {n : Nat} {f : Nat → Int} {v0 v1 : Value} {fuel : Int} {dead : Bool} (h : OwnB w B a n f) (hd : DkRow w b v0 v1 fuel dead) (ho : OnlyAt (some ⟨b, 0, none⟩) w w') : OwnB w' B a n f := by
  rcases h with h | ⟨g, rfl, hg, hr⟩
  · exact Or.inl h
  · exact Or.inr ⟨g, rfl, hg, hr.only (hr.ne hd (by decide)) ho⟩
theorem Gath.onlyDk {w w' : World} {b B : Nat} {v : Value} {k : Nat} {S : Nat → Int} {L : Nat → Nat} {F : Nat → Nat → Int} {A : Nat → Option Addr} {C : Nat → Nat} {v0 v1 : Value} {fuel : Int} {dead : Bool} (h : Gath w B v k S L F A C) (hd : DkRow w b v0 v1 fuel dead) (ho : OnlyAt (some ⟨b, 0, none⟩) w w') : Gath w' B v k S L F A C := by
  refine ⟨⟨h.row.1, ?_⟩, fun i hi => (h.each i hi).onlyDk hd ho, h.apart⟩
  rcases h.row.2 with h2 | ⟨g, cap, cur, hv, hg, hh, r⟩
  · exact Or.inl h2
  · have hne : g ≠ b := by
      have hr : rowIn w g 86 0 (fun _ => undef) := ⟨cur, hh, Nat.zero_le _, fun i hi => absurd hi (Nat.not_lt_zero _)⟩
      exact hr.ne hd (by decide)
    exact Or.inr ⟨g, cap, cur, hv, hg, (ho.block g (fun x e => by injection e with e; subst e; exact fun e => hne e.symm)).trans hh, r⟩
theorem Gath.notDk {w : World} {b B : Nat} {v : Value} {k : Nat} {S : Nat → Int} {L : Nat → Nat} {F : Nat → Nat → Int} {A : Nat → Option Addr} {C : Nat → Nat} {v0 v1 : Value} {fuel : Int} {dead : Bool} (h : Gath w B v k S L F A C) (hd : DkRow w b v0 v1 fuel dead) : v.ownBlock ≠ some b := by
  intro e
  rcases h.row.2 with ⟨h2, _⟩ | ⟨g, cap, cur, hv, hg, hh, r⟩
  · rw [h2] at e; simp [Value.ownBlock] at e
  · rw [hv] at e
    simp [Value.ownBlock] at e
    subst e
    have hr : rowIn w g 86 0 (fun _ => undef) := ⟨cur, hh, Nat.zero_le _, fun i hi => absurd hi (Nat.not_lt_zero _)⟩
    exact hr.ne hd (by decide) rfl

theorem copy_more {W w1 w3 wr : World} {B bo n k c1 c2 qv q3 : Nat} {a1 a2 pv p3 : Option Addr} {d S : Nat → Int} {L : Nat → Nat} {F : Nat → Nat → Int} {A : Nat → Option Addr} {C : Nat → Nat} {fuel : Int} {dead : Bool} {O : Obj} (hbo : B ≤ bo) (hz : B ≤ wr.heap.size)
    (hd : DkRow wr bo (.slice a1 n c1) (.slice pv k qv) fuel dead) (ho : OwnB wr B a1 n d) (hga : Gath wr B (.slice pv k qv) k S L F A C) (hap : n ≠ 0 → ∀ i, i < k → L i ≠ 0 → A i ≠ a1) (hB : Below B W wr)
    (hb : Below wr.heap.size wr w1) (ho1 : OwnB w1 wr.heap.size a2 (L k) (F k))
    (hr3 : w3.ownsRow B 86 2 (.slice p3 (k + 1) q3) (k + 1) (pendRow S A L C k ++ [.int .i64 (S k), .slice a2 (L k) c2])) (hg3 : (w1.alloc O).grownBy w3 (Value.ownBlock (.slice pv k qv))) (yd : DkRow w3 bo (.slice a1 n c1) (.slice pv k qv) fuel dead) :
    DkRow (w3.setCell ⟨bo, 1, none⟩ (.slice p3 (k + 1) q3)) bo (.slice a1 n c1) (.slice p3 (k + 1) q3) fuel dead ∧ OwnB (w3.setCell ⟨bo, 1, none⟩ (.slice p3 (k + 1) q3)) B a1 n d ∧ Gath (w3.setCell ⟨bo, 1, none⟩ (.slice p3 (k + 1) q3)) B (.slice p3 (k + 1) q3) (k + 1) S L F (fun i => if i = k then a2 else A i) (fun i => if i = k then c2 else C i) ∧ (n ≠ 0 → ∀ i, i < k + 1 → L i ≠ 0 → (if i = k then a2 else A i) ≠ a1) ∧ Below B W (w3.setCell ⟨bo, 1, none⟩ (.slice p3 (k + 1) q3)) := by
  have hs := hb.size
  have hbA : Below wr.heap.size wr (w1.alloc O) := hb.alloc hs _
  have hon : OnlyAt (some ⟨bo, 0, none⟩) w3 (w3.setCell ⟨bo, 1, none⟩ (.slice p3 (k + 1) q3)) := (OnlyAt.refl _ _).setCell 1 _
  have g3 := hga.more hz hbA a2 c2 (ho1.below (below_alloc _ _)) hr3 hg3
  have o3 : OwnB w3 B a1 n d := by
    rcases ho with h | ⟨g, rfl, hg, hr⟩
    · exact Or.inl h
    · exact Or.inr ⟨g, rfl, hg, KeepB.grown (owns_below hga.row hbA) hg3 _ _ _ (hr.below hbA)⟩
  refine ⟨yd.setCache _, o3.onlyDk yd hon, g3.onlyDk yd hon, fun hn i hi hl e => ?_, ?_⟩
  · by_cases h : i = k
    · subst h
      simp only [if_true] at e
      subst e
      rcases ho with h | ⟨g, rfl, hg, hr⟩
      · exact hn h
      · rcases ho1 with h | ⟨g', e', hg', _⟩
        · exact hl h
        · injection e' with e'
          injection e' with e'
          have := hr.lt
          omega
    · rw [if_neg h] at e
      exact hap hn i (by omega) hl e
  · refine Below.setCell ?_ (by simpa using hbo) _
    exact (hB.trans (hbA.mono hz)).grown hg3 (by simp; omega) (fun j e => (hga.row.lt j e).1)

theorem first_new {W w1 : World} {B n c1 : Nat} {a1 : Option Addr} {d : Nat → Int} {fuel : Int} {dead : Bool} (hB : Below B W w1) (hz : B ≤ w1.heap.size) (ho : OwnB w1 B a1 n d) :
    B ≤ w1.heap.size ∧ DkRow (w1.alloc (.cells #[.slice a1 n c1, .slice none 0 0, .int .i64 fuel, .bool dead] 40)) w1.heap.size (.slice a1 n c1) (.slice none 0 0) fuel dead ∧ OwnB (w1.alloc (.cells #[.slice a1 n c1, .slice none 0 0, .int .i64 fuel, .bool dead] 40)) B a1 n d ∧ Below B W (w1.alloc (.cells #[.slice a1 n c1, .slice none 0 0, .int .i64 fuel, .bool dead] 40)) :=
  ⟨hz, rowInNew _ _ _ _ _, ho.below (below_alloc _ _), hB.alloc hz _⟩
theorem first_set {W w1 : World} {B n c1 g : Nat} {a1 : Option Addr} {d : Nat → Int} {fuel : Int} {dead : Bool} (hB : Below B W w1) (hz : B ≤ g) (hr : DkRow w1 g (.slice none 0 0) (.slice none 0 0) 0 false) (ho : OwnB w1 B a1 n d) :
    B ≤ g ∧ DkRow ((((w1.setCell ⟨g, 0, none⟩ (.slice a1 n c1)).setCell ⟨g, 1, none⟩ (.slice none 0 0)).setCell ⟨g, 2, none⟩ (.int .i64 fuel)).setCell ⟨g, 3, none⟩ (.bool dead)) g (.slice a1 n c1) (.slice none 0 0) fuel dead ∧ OwnB ((((w1.setCell ⟨g, 0, none⟩ (.slice a1 n c1)).setCell ⟨g, 1, none⟩ (.slice none 0 0)).setCell ⟨g, 2, none⟩ (.int .i64 fuel)).setCell ⟨g, 3, none⟩ (.bool dead)) B a1 n d ∧ Below B W ((((w1.setCell ⟨g, 0, none⟩ (.slice a1 n c1)).setCell ⟨g, 1, none⟩ (.slice none 0 0)).setCell ⟨g, 2, none⟩ (.int .i64 fuel)).setCell ⟨g, 3, none⟩ (.bool dead)) := by
  refine ⟨hz, ?_, ?_, ?_⟩
  · refine (rowIn.set (rowIn.set (rowIn.set (rowIn.set hr 0 _) 1 _) 2 _) 3 _).congr (fun i hi => ?_)
    unfold diskCell
    match i, hi with
    | 0, _ => simp
    | 1, _ => simp
    | 2, _ => simp
    | 3, _ => simp
  · exact ho.onlyDk hr (((((OnlyAt.refl _ _).setCell 0 _).setCell 1 _).setCell 2 _).setCell 3 _)
  · exact ((((hB.setCell (by simpa using hz) _).setCell (by simpa using hz) _).setCell (by simpa using hz) _).setCell (by simpa using hz) _)

set_option maxHeartbeats 2000000 in
theorem l1Copy_gath (a p : Option Addr) (n c m q : Nat) (d S : Nat → Int) (L : Nat → Nat) (F : Nat → Nat → Int) (fuel : Int) (dead : Bool) (w : World) (ha : Rd .u8 w a n d) (hp : RdP w p m S L F) (hn : n ≤ 1048576) (hm : m ≤ 1048576) (hL : ∀ i, i < m → L i ≤ 1048576) :
    Calls Try.prog 37 #[.agg #[.slice a n c, .slice p m q, .int .i64 fuel, .bool dead]] w fun e w' => RetG w e w' n d m S L F fuel dead := by
  have HA : Hid (Rd .u8 w a n d) := ha
  have HP : Hid (RdP w p m S L F) := hp
  have HL : Hid (∀ i, i < m → L i ≤ 1048576) := hL
  have HJ : Hid (∀ {W : World}, Below (w.heap.size + 2) ((w.alloc (.cells #[.slice a n c, .slice p m q, .int .i64 fuel, .bool dead] 40)).alloc (.cells #[.slice none 0 0, .slice none 0 0, .int .i64 0, .bool false] 40)) W → Below w.heap.size w W) := fun h => (((below_alloc _ _).trans ((below_alloc _ _).mono (by simp)))).trans (h.mono (by omega))
  clear ha hp hL
  have Z0 : ((w.alloc (.cells #[.slice a n c, .slice p m q, .int .i64 fuel, .bool dead] 40)).alloc (.cells #[.slice none 0 0, .slice none 0 0, .int .i64 0, .bool false] 40)).heap.size = w.heap.size + 1 + 1 := by simp
  have BW : Below w.heap.size w ((w.alloc (.cells #[.slice a n c, .slice p m q, .int .i64 fuel, .bool dead] 40)).alloc (.cells #[.slice none 0 0, .slice none 0 0, .int .i64 0, .bool false] 40)) := (below_alloc _ _).trans ((below_alloc _ _).mono (by simp))
  have X0 : ((w.alloc (.cells #[.slice a n c, .slice p m q, .int .i64 fuel, .bool dead] 40)).alloc (.cells #[.slice none 0 0, .slice none 0 0, .int .i64 0, .bool false] 40)).cell? ⟨w.heap.size, 0, none⟩ = some (.slice a n c) ∧ ((w.alloc (.cells #[.slice a n c, .slice p m q, .int .i64 fuel, .bool dead] 40)).alloc (.cells #[.slice none 0 0, .slice none 0 0, .int .i64 0, .bool false] 40)).cell? ⟨w.heap.size, 2, none⟩ = some (.int .i64 fuel) ∧ ((w.alloc (.cells #[.slice a n c, .slice p m q, .int .i64 fuel, .bool dead] 40)).alloc (.cells #[.slice none 0 0, .slice none 0 0, .int .i64 0, .bool false] 40)).cell? ⟨w.heap.size, 3, none⟩ = some (.bool dead) := by simp
  have B1 : Below ((w.alloc (.cells #[.slice a n c, .slice p m q, .int .i64 fuel, .bool dead] 40)).alloc (.cells #[.slice none 0 0, .slice none 0 0, .int .i64 0, .bool false] 40)).heap.size ((w.alloc (.cells #[.slice a n c, .slice p m q, .int .i64 fuel, .bool dead] 40)).alloc (.cells #[.slice none 0 0, .slice none 0 0, .int .i64 0, .bool false] 40)) (((w.alloc (.cells #[.slice a n c, .slice p m q, .int .i64 fuel, .bool dead] 40)).alloc (.cells #[.slice none 0 0, .slice none 0 0, .int .i64 0, .bool false] 40)).alloc (.cells #[] 5)).drew := (below_alloc _ _).drew
  have HB1 : Hid ((((w.alloc (.cells #[.slice a n c, .slice p m q, .int .i64 fuel, .bool dead] 40)).alloc (.cells #[.slice none 0 0, .slice none 0 0, .int .i64 0, .bool false] 40)).alloc (.cells #[] 5)).drew.heap[w.heap.size + 1 + 1]? = some (.cells #[] 5 (0, 0)) ∧ Rd .u8 (((w.alloc (.cells #[.slice a n c, .slice p m q, .int .i64 fuel, .bool dead] 40)).alloc (.cells #[.slice none 0 0, .slice none 0 0, .int .i64 0, .bool false] 40)).alloc (.cells #[] 5)).drew a n d ∧ w.heap.size + 2 ≤ (((w.alloc (.cells #[.slice a n c, .slice p m q, .int .i64 fuel, .bool dead] 40)).alloc (.cells #[.slice none 0 0, .slice none 0 0, .int .i64 0, .bool false] 40)).alloc (.cells #[] 5)).drew.heap.size) :=
    ⟨way1 _ _ Z0, HA.out.below (BW.trans (B1.mono BW.size)), by have := B1.size; rw [Z0] at this; exact this⟩
  have HK1 : Hid (∀ w1 : World, (((w.alloc (.cells #[.slice a n c, .slice p m q, .int .i64 fuel, .bool dead] 40)).alloc (.cells #[.slice none 0 0, .slice none 0 0, .int .i64 0, .bool false] 40)).alloc (.cells #[] 5)).drew.grownBy w1 (some (w.heap.size + 1 + 1)) → (w1.cell? ⟨w.heap.size, 0, none⟩ = some (.slice a n c) ∧ w1.cell? ⟨w.heap.size, 2, none⟩ = some (.int .i64 fuel) ∧ w1.cell? ⟨w.heap.size, 3, none⟩ = some (.bool dead)) ∧ Below (w.heap.size + 2) ((w.alloc (.cells #[.slice a n c, .slice p m q, .int .i64 fuel, .bool dead] 40)).alloc (.cells #[.slice none 0 0, .slice none 0 0, .int .i64 0, .bool false] 40)) w1) := by
    intro w1 hg
    have q : Below (w.heap.size + 2) ((w.alloc (.cells #[.slice a n c, .slice p m q, .int .i64 fuel, .bool dead] 40)).alloc (.cells #[.slice none 0 0, .slice none 0 0, .int .i64 0, .bool false] 40)) w1 := (B1.mono (by rw [Z0]; exact Nat.le_refl _)).grown hg (by have := B1.size; rw [Z0] at this; exact this) (fun j e => by injection e with e; omega)
    refine ⟨⟨(q.cell (p := ⟨w.heap.size, 0, none⟩) (by show w.heap.size < w.heap.size + 2; omega)).trans X0.1, (q.cell (p := ⟨w.heap.size, 2, none⟩) (by show w.heap.size < w.heap.size + 2; omega)).trans X0.2.1, (q.cell (p := ⟨w.heap.size, 3, none⟩) (by show w.heap.size < w.heap.size + 2; omega)).trans X0.2.2⟩, q⟩
  have B2 : Below ((w.alloc (.cells #[.slice a n c, .slice p m q, .int .i64 fuel, .bool dead] 40)).alloc (.cells #[.slice none 0 0, .slice none 0 0, .int .i64 0, .bool false] 40)).heap.size ((w.alloc (.cells #[.slice a n c, .slice p m q, .int .i64 fuel, .bool dead] 40)).alloc (.cells #[.slice none 0 0, .slice none 0 0, .int .i64 0, .bool false] 40)) ((((w.alloc (.cells #[.slice a n c, .slice p m q, .int .i64 fuel, .bool dead] 40)).alloc (.cells #[.slice none 0 0, .slice none 0 0, .int .i64 0, .bool false] 40)).alloc (.cells #[] 5)).alloc (.cells #[.slice none 0 0, .slice none 0 0, .int .i64 0, .bool false] 40)).drew := (below_alloc2 _ _ _).drew
  have HB2 : Hid (((((w.alloc (.cells #[.slice a n c, .slice p m q, .int .i64 fuel, .bool dead] 40)).alloc (.cells #[.slice none 0 0, .slice none 0 0, .int .i64 0, .bool false] 40)).alloc (.cells #[] 5)).alloc (.cells #[.slice none 0 0, .slice none 0 0, .int .i64 0, .bool false] 40)).drew.heap[w.heap.size + 1 + 1]? = some (.cells #[] 5 (0, 0)) ∧ Rd .u8 ((((w.alloc (.cells #[.slice a n c, .slice p m q, .int .i64 fuel, .bool dead] 40)).alloc (.cells #[.slice none 0 0, .slice none 0 0, .int .i64 0, .bool false] 40)).alloc (.cells #[] 5)).alloc (.cells #[.slice none 0 0, .slice none 0 0, .int .i64 0, .bool false] 40)).drew a n d ∧ w.heap.size + 2 ≤ ((((w.alloc (.cells #[.slice a n c, .slice p m q, .int .i64 fuel, .bool dead] 40)).alloc (.cells #[.slice none 0 0, .slice none 0 0, .int .i64 0, .bool false] 40)).alloc (.cells #[] 5)).alloc (.cells #[.slice none 0 0, .slice none 0 0, .int .i64 0, .bool false] 40)).drew.heap.size) :=
    ⟨way2 _ _ _ Z0, HA.out.below (BW.trans (B2.mono BW.size)), by have := B2.size; rw [Z0] at this; exact this⟩
  have HK2 : Hid (∀ w1 : World, ((((w.alloc (.cells #[.slice a n c, .slice p m q, .int .i64 fuel, .bool dead] 40)).alloc (.cells #[.slice none 0 0, .slice none 0 0, .int .i64 0, .bool false] 40)).alloc (.cells #[] 5)).alloc (.cells #[.slice none 0 0, .slice none 0 0, .int .i64 0, .bool false] 40)).drew.grownBy w1 (some (w.heap.size + 1 + 1)) → (w1.cell? ⟨w.heap.size, 0, none⟩ = some (.slice a n c) ∧ w1.cell? ⟨w.heap.size, 2, none⟩ = some (.int .i64 fuel) ∧ w1.cell? ⟨w.heap.size, 3, none⟩ = some (.bool dead)) ∧ Below (w.heap.size + 2) ((w.alloc (.cells #[.slice a n c, .slice p m q, .int .i64 fuel, .bool dead] 40)).alloc (.cells #[.slice none 0 0, .slice none 0 0, .int .i64 0, .bool false] 40)) w1 ∧ rowIn w1 (w.heap.size + 1 + 1 + 1) 40 4 (diskCell (.slice none 0 0) (.slice none 0 0) 0 false)) := by
    intro w1 hg
    have q : Below (w.heap.size + 2) ((w.alloc (.cells #[.slice a n c, .slice p m q, .int .i64 fuel, .bool dead] 40)).alloc (.cells #[.slice none 0 0, .slice none 0 0, .int .i64 0, .bool false] 40)) w1 := (B2.mono (by rw [Z0]; exact Nat.le_refl _)).grown hg (by have := B2.size; rw [Z0] at this; exact this) (fun j e => by injection e with e; omega)
    refine ⟨⟨(q.cell (p := ⟨w.heap.size, 0, none⟩) (by show w.heap.size < w.heap.size + 2; omega)).trans X0.1, (q.cell (p := ⟨w.heap.size, 2, none⟩) (by show w.heap.size < w.heap.size + 2; omega)).trans X0.2.1, (q.cell (p := ⟨w.heap.size, 3, none⟩) (by show w.heap.size < w.heap.size + 2; omega)).trans X0.2.2⟩, q, ?_⟩
    have hr := rowIn2 _ (.cells #[] 5) (.slice none 0 0) (.slice none 0 0) 0 false Z0
    exact hr.of_block (hg.block _ hr.lt (by simp))
  have B3 : Below ((w.alloc (.cells #[.slice a n c, .slice p m q, .int .i64 fuel, .bool dead] 40)).alloc (.cells #[.slice none 0 0, .slice none 0 0, .int .i64 0, .bool false] 40)).heap.size ((w.alloc (.cells #[.slice a n c, .slice p m q, .int .i64 fuel, .bool dead] 40)).alloc (.cells #[.slice none 0 0, .slice none 0 0, .int .i64 0, .bool false] 40)) ((((w.alloc (.cells #[.slice a n c, .slice p m q, .int .i64 fuel, .bool dead] 40)).alloc (.cells #[.slice none 0 0, .slice none 0 0, .int .i64 0, .bool false] 40)).alloc (.cells #[.slice none 0 0, .slice none 0 0, .int .i64 0, .bool false] 40)).alloc (.cells #[] 5)).drew := (below_alloc2 _ _ _).drew
  have HB3 : Hid (((((w.alloc (.cells #[.slice a n c, .slice p m q, .int .i64 fuel, .bool dead] 40)).alloc (.cells #[.slice none 0 0, .slice none 0 0, .int .i64 0, .bool false] 40)).alloc (.cells #[.slice none 0 0, .slice none 0 0, .int .i64 0, .bool false] 40)).alloc (.cells #[] 5)).drew.heap[w.heap.size + 1 + 1 + 1]? = some (.cells #[] 5 (0, 0)) ∧ Rd .u8 ((((w.alloc (.cells #[.slice a n c, .slice p m q, .int .i64 fuel, .bool dead] 40)).alloc (.cells #[.slice none 0 0, .slice none 0 0, .int .i64 0, .bool false] 40)).alloc (.cells #[.slice none 0 0, .slice none 0 0, .int .i64 0, .bool false] 40)).alloc (.cells #[] 5)).drew a n d ∧ w.heap.size + 2 ≤ ((((w.alloc (.cells #[.slice a n c, .slice p m q, .int .i64 fuel, .bool dead] 40)).alloc (.cells #[.slice none 0 0, .slice none 0 0, .int .i64 0, .bool false] 40)).alloc (.cells #[.slice none 0 0, .slice none 0 0, .int .i64 0, .bool false] 40)).alloc (.cells #[] 5)).drew.heap.size) :=
    ⟨way3 _ _ _ Z0, HA.out.below (BW.trans (B3.mono BW.size)), by have := B3.size; rw [Z0] at this; exact this⟩
  have HK3 : Hid (∀ w1 : World, ((((w.alloc (.cells #[.slice a n c, .slice p m q, .int .i64 fuel, .bool dead] 40)).alloc (.cells #[.slice none 0 0, .slice none 0 0, .int .i64 0, .bool false] 40)).alloc (.cells #[.slice none 0 0, .slice none 0 0, .int .i64 0, .bool false] 40)).alloc (.cells #[] 5)).drew.grownBy w1 (some (w.heap.size + 1 + 1 + 1)) → (w1.cell? ⟨w.heap.size, 0, none⟩ = some (.slice a n c) ∧ w1.cell? ⟨w.heap.size, 2, none⟩ = some (.int .i64 fuel) ∧ w1.cell? ⟨w.heap.size, 3, none⟩ = some (.bool dead)) ∧ Below (w.heap.size + 2) ((w.alloc (.cells #[.slice a n c, .slice p m q, .int .i64 fuel, .bool dead] 40)).alloc (.cells #[.slice none 0 0, .slice none 0 0, .int .i64 0, .bool false] 40)) w1 ∧ rowIn w1 (w.heap.size + 1 + 1) 40 4 (diskCell (.slice none 0 0) (.slice none 0 0) 0 false)) := by
    intro w1 hg
    have q : Below (w.heap.size + 2) ((w.alloc (.cells #[.slice a n c, .slice p m q, .int .i64 fuel, .bool dead] 40)).alloc (.cells #[.slice none 0 0, .slice none 0 0, .int .i64 0, .bool false] 40)) w1 := (B3.mono (by rw [Z0]; exact Nat.le_refl _)).grown hg (by have := B3.size; rw [Z0] at this; exact this) (fun j e => by injection e with e; omega)
    refine ⟨⟨(q.cell (p := ⟨w.heap.size, 0, none⟩) (by show w.heap.size < w.heap.size + 2; omega)).trans X0.1, (q.cell (p := ⟨w.heap.size, 2, none⟩) (by show w.heap.size < w.heap.size + 2; omega)).trans X0.2.1, (q.cell (p := ⟨w.heap.size, 3, none⟩) (by show w.heap.size < w.heap.size + 2; omega)).trans X0.2.2⟩, q, ?_⟩
    have hr := rowIn3 _ (.cells #[] 5) (.slice none 0 0) (.slice none 0 0) 0 false Z0
    exact hr.of_block (hg.block _ hr.lt (by simp))
  clear Z0 BW X0 B1 B2 B3
  have ne2 : ¬ w.heap.size = w.heap.size + 1 + 1 := by omega
  have ne3 : ¬ w.heap.size = w.heap.size + 1 + 1 + 1 := by omega
  have ne2' : ¬ w.heap.size + 1 + 1 = w.heap.size := by omega
  have ne3' : ¬ w.heap.size + 1 + 1 + 1 = w.heap.size := by omega
  go_enter Try.func37, Try.ntmps37
  go_wp2
  go_cut [3] from 5 to 13 (fun s3 wx => ∃ (bo : Nat) (a1 : Option Addr) (c1 : Nat), s3 = .pointer (some ⟨bo, 0, none⟩) ∧ w.heap.size + 2 ≤ bo ∧ DkRow wx bo (.slice a1 n c1) (.slice none 0 0) fuel dead ∧ OwnB wx (w.heap.size + 2) a1 n d ∧ n ≤ c1 ∧ c1 ≤ 9223372036854775807 ∧ Below (w.heap.size + 2) ((w.alloc (.cells #[.slice a n c, .slice p m q, .int .i64 fuel, .bool dead] 40)).alloc (.cells #[.slice none 0 0, .slice none 0 0, .int .i64 0, .bool false] 40)) wx)
  case first =>
    go_region_held3 (fun w' => w'.cell? ⟨w.heap.size, 0, none⟩ = some (.slice a n c) ∧ w'.cell? ⟨w.heap.size, 2, none⟩ = some (.int .i64 fuel) ∧ w'.cell? ⟨w.heap.size, 3, none⟩ = some (.bool dead)) (go_keep)
    (first
    | (refine step_append_rd0 (by rfl) (.tmp 5) (.tmp 7) (by rfl) (w.heap.size + 2) (w.heap.size + 1 + 1) (by rfl) HB1.out.1 (Nat.le_refl _) a n c d (by rfl) HB1.out.2.1 hn HB1.out.2.2 ?_; intro a1 c1 w1 ho1 hg1 hl1 hm1; obtain ⟨⟨k0, k2, k3⟩, kb⟩ := HK1.out w1 hg1)
    | (refine step_append_rd0 (by rfl) (.tmp 5) (.tmp 7) (by rfl) (w.heap.size + 2) (w.heap.size + 1 + 1) (by rfl) HB2.out.1 (Nat.le_refl _) a n c d (by rfl) HB2.out.2.1 hn HB2.out.2.2 ?_; intro a1 c1 w1 ho1 hg1 hl1 hm1; obtain ⟨⟨k0, k2, k3⟩, kb, kr⟩ := HK2.out w1 hg1; obtain ⟨r0, r1, r2, r3, rf, rl⟩ := diskRow kr)
    | (refine step_append_rd0 (by rfl) (.tmp 5) (.tmp 7) (by rfl) (w.heap.size + 2) (w.heap.size + 1 + 1 + 1) (by rfl) HB3.out.1 (Nat.le_succ _) a n c d (by rfl) HB3.out.2.1 hn HB3.out.2.2 ?_; intro a1 c1 w1 ho1 hg1 hl1 hm1; obtain ⟨⟨k0, k2, k3⟩, kb, kr⟩ := HK3.out w1 hg1; obtain ⟨r0, r1, r2, r3, rf, rl⟩ := diskRow kr))
    · go_wp2
      go_meet
      case rel => exact by obtain ⟨q1, q2, q3, q4⟩ := first_new (c1 := c1) (fuel := fuel) (dead := dead) kb (by have := kb.size; simpa using this) ho1; exact ⟨_, a1, c1, rfl, q1, q2, q3, hl1, hm1, q4⟩
    · go_wp2
      go_meet
      case rel => exact by obtain ⟨q1, q2, q3, q4⟩ := first_set (c1 := c1) (fuel := fuel) (dead := dead) kb (by omega) kr ho1; exact ⟨_, a1, c1, rfl, q1, q2, q3, hl1, hm1, q4⟩
    · go_wp2
      go_meet
      case rel => exact by obtain ⟨q1, q2, q3, q4⟩ := first_set (c1 := c1) (fuel := fuel) (dead := dead) kb (by omega) kr ho1; exact ⟨_, a1, c1, rfl, q1, q2, q3, hl1, hm1, q4⟩
  case rest =>
    clear HB1 HK1 HB2 HK2 HB3 HK3 ne2 ne3 ne2' ne3'
    obtain ⟨bo, a1, c1, rfl, hbo, hrow, hown, hl1, hm1, hbel⟩ := hcut
    have R0 : Hid (DkRow wc bo (.slice a1 n c1) (.slice none 0 0) fuel dead ∧ OwnB wc (w.heap.size + 2) a1 n d ∧ Below (w.heap.size + 2) ((w.alloc (.cells #[.slice a n c, .slice p m q, .int .i64 fuel, .bool dead] 40)).alloc (.cells #[.slice none 0 0, .slice none 0 0, .int .i64 0, .bool false] 40)) wc) := ⟨hrow, hown, hbel⟩
    clear hrow hown hbel
    go_wp2
    go_loopw [4] (fun i wr => ∃ (k : Nat) (pv : Option Addr) (qv : Nat) (A : Nat → Option Addr) (C : Nat → Nat), k ≤ m ∧ i = .int .i64 k ∧ DkRow wr bo (.slice a1 n c1) (.slice pv k qv) fuel dead ∧ OwnB wr (w.heap.size + 2) a1 n d ∧ Gath wr (w.heap.size + 2) (.slice pv k qv) k S L F A C ∧ (n ≠ 0 → ∀ i, i < k → L i ≠ 0 → A i ≠ a1) ∧ Below (w.heap.size + 2) ((w.alloc (.cells #[.slice a n c, .slice p m q, .int .i64 fuel, .bool dead] 40)).alloc (.cells #[.slice none 0 0, .slice none 0 0, .int .i64 0, .bool false] 40)) wr) (fun i _ => m - (intOf i).toNat)
    case atStart => exact ⟨0, _, _, _, _, Nat.zero_le _, rfl, R0.out.1, R0.out.2.1, Gath.start _ _ _ _ _, fun _ i hi => absurd hi (Nat.not_lt_zero _), R0.out.2.2⟩
    case round =>
      obtain ⟨k, pv, qv, A, C, hkm, rfl, hrow, hown, hga, hap, hbel⟩ := hrel
      have hz3 : w.heap.size + 2 ≤ wr.heap.size := by have := hbel.size; simpa using this
      have HRW : Hid (DkRow wr bo (.slice a1 n c1) (.slice pv k qv) fuel dead) := hrow
      have HOW : Hid (OwnB wr (w.heap.size + 2) a1 n d) := hown
      have GA : Hid (Gath wr (w.heap.size + 2) (.slice pv k qv) k S L F A C) := hga
      have HAP : Hid (n ≠ 0 → ∀ i, i < k → L i ≠ 0 → A i ≠ a1) := hap
      have K3 : Hid (Below (w.heap.size + 2) ((w.alloc (.cells #[.slice a n c, .slice p m q, .int .i64 fuel, .bool dead] 40)).alloc (.cells #[.slice none 0 0, .slice none 0 0, .int .i64 0, .bool false] 40)) wr) := hbel
      clear hrow hown hga hap hbel R0
      obtain ⟨d0, d1, d2, d3, df, dl⟩ := HRW.out.cells
      have hc3 : ∀ b o, b < w.heap.size + 2 → wr.cell? ⟨b, o, none⟩ = _ := fun b o hb => K3.out.cell (p := ⟨b, o, none⟩) hb
      have hf3 : ∀ b o, b < w.heap.size + 2 → wr.frozen? ⟨b, o, none⟩ = _ := fun b o hb => K3.out.frozen (p := ⟨b, o, none⟩) hb
      have x1 := hc3 w.heap.size 1 (by omega)
      simp at x1
      by_cases hlt : k < m
      · rcases HP.out.below (HJ.out K3.out) with h | ⟨b, o, hpa, hc⟩
        · omega
        subst hpa
        obtain ⟨e1, ad, cp, e2, e3⟩ := hc k hlt
        have HLk := HL.out k hlt
        clear hc hc3 hf3
        have B1 : Hid (Below wr.heap.size wr (wr.alloc (.cells #[] 5)).drew) := (below_alloc _ _).drew
        have E3 : Hid (Rd .u8 (wr.alloc (.cells #[] 5)).drew ad (L k) (F k) ∧ (wr.alloc (.cells #[] 5)).drew.heap[wr.heap.size]? = some (.cells #[] 5 (0, 0)) ∧ wr.heap.size ≤ (wr.alloc (.cells #[] 5)).drew.heap.size) := ⟨e3.below (below_alloc _ _).drew, blk_alloc_new _ _, B1.out.size⟩
        clear e3
        have HT : Hid (∀ w1 : World, (wr.alloc (.cells #[] 5)).drew.grownBy w1 (some wr.heap.size) → Below wr.heap.size wr w1) := fun w1 hg => B1.out.grown hg B1.out.size (fun j e => by injection e with e; omega)
        have hbw : b < w.heap.size := by
          rcases HP.out with h | ⟨b', o', hpa, hc⟩
          · omega
          · injection hpa with hpa
            injection hpa with hpa
            subst hpa
            exact lt_cell (hc k hlt).1
        have hbl : b < wr.heap.size := by omega
        have HC : Hid (∀ w1 : World, Below wr.heap.size wr w1 → (w1.cell? ⟨bo, 1, none⟩ = some (.slice pv k qv) ∧ w1.cell? ⟨w.heap.size, 1, none⟩ = some (.slice (some ⟨b, o, none⟩) m q) ∧ w1.cell? ⟨b, o + k * 2, none⟩ = some (.int .i64 (S k)) ∧ w1.cell? ⟨b, o + k * 2 + 1, none⟩ = some (.slice ad (L k) cp))) := by
          intro w1 hb
          exact ⟨(hb.cell (p := ⟨bo, 1, none⟩) dl).trans d1, (hb.cell (p := ⟨w.heap.size, 1, none⟩) (by show w.heap.size < wr.heap.size; omega)).trans x1, (hb.cell (p := ⟨b, _, none⟩) hbl).trans e1, (hb.cell (p := ⟨b, _, none⟩) hbl).trans e2⟩
        have HD : Hid (∀ (w1 w3 : World) (O : Obj), Below wr.heap.size wr w1 → (w1.alloc O).grownBy w3 (Value.ownBlock (.slice pv k qv)) → (w3.cell? ⟨bo, 1, none⟩ = some (.slice pv k qv) ∧ w3.cell? ⟨w.heap.size, 1, none⟩ = some (.slice (some ⟨b, o, none⟩) m q) ∧ w3.cell? ⟨b, o + k * 2, none⟩ = some (.int .i64 (S k)) ∧ w3.cell? ⟨b, o + k * 2 + 1, none⟩ = some (.slice ad (L k) cp)) ∧ DkRow w3 bo (.slice a1 n c1) (.slice pv k qv) fuel dead) := by
          intro w1 w3 O hb hg
          have hs := hb.size
          have hne : Value.ownBlock (.slice pv k qv) ≠ some bo := GA.out.notDk HRW.out
          have hd3 : DkRow w3 bo (.slice a1 n c1) (.slice pv k qv) fuel dead := rowIn.of_block (HRW.out.below hb) ((hg.block bo (by simp; omega) (fun e => hne e.symm)).trans (Below.heap_alloc _ _ _ (by omega)))
          obtain ⟨q0, q1, q2, q3⟩ := HC.out w1 hb
          have nb : Value.ownBlock (.slice pv k qv) ≠ some b := fun e => by have := (GA.out.row.lt _ e).1; omega
          have nw : Value.ownBlock (.slice pv k qv) ≠ some w.heap.size := fun e => by have := (GA.out.row.lt _ e).1; omega
          exact ⟨⟨hd3.cells.2.1, (grown_cell hg (x := ⟨w.heap.size, 1, none⟩) (by show w.heap.size < _; omega) nw).trans q1, (grown_cell hg (x := ⟨b, _, none⟩) (by show b < _; omega) nb).trans q2, (grown_cell hg (x := ⟨b, _, none⟩) (by show b < _; omega) nb).trans q3⟩, hd3⟩
        have hk2 : k ≤ 1048576 := by omega
        go_wp2
        refine wp_region_late (S := (fun w' => w'.cell? ⟨bo, 1, none⟩ = some (.slice pv k qv) ∧ w'.cell? ⟨w.heap.size, 1, none⟩ = some (.slice (some ⟨b, o, none⟩) m q) ∧ w'.cell? ⟨b, o + k * 2, none⟩ = some (.int .i64 (S k)) ∧ w'.cell? ⟨b, o + k * 2 + 1, none⟩ = some (.slice ad (L k) cp))) 20 (by kernel_rfl) ?_ (fun hHeld => ?_)
        · ((try dsimp only); go_keep)
        refine late_take 0 .zero (v := ?_) (by kernel_rfl) (by kernel_rfl) (by kernel_rfl) (by kernel_rfl) (fun _ _ _ h => h) (by rfl) ?_ (by assumption) ?_
        rotate_left
        · (intro w hSw; (try dsimp only at hSw); go_simp) <;> with_reducible rfl
        simp only [Act.put, List.setIfInBounds_toArray, List.set_cons_zero, List.set_cons_succ]
        refine late_take 1 (.succ .zero) (v := ?_) (by kernel_rfl) (by kernel_rfl) (by kernel_rfl) (by kernel_rfl) (fun _ _ _ h => h) (by rfl) ?_ (by assumption) ?_
        rotate_left
        · (intro w hSw; (try dsimp only at hSw); go_simp) <;> with_reducible rfl
        simp only [Act.put, List.setIfInBounds_toArray, List.set_cons_zero, List.set_cons_succ]
        refine late_take 2 (.succ (.succ .zero)) (v := ?_) (by kernel_rfl) (by kernel_rfl) (by kernel_rfl) (by kernel_rfl) (fun _ _ _ h => h) (by rfl) ?_ (by assumption) ?_
        rotate_left
        · (intro w hSw; (try dsimp only at hSw); go_simp) <;> with_reducible rfl
        simp only [Act.put, List.setIfInBounds_toArray, List.set_cons_zero, List.set_cons_succ]
        refine late_take 3 (.succ (.succ (.succ .zero))) (v := ?_) (by kernel_rfl) (by kernel_rfl) (by kernel_rfl) (by kernel_rfl) (fun _ _ _ h => h) (by rfl) ?_ (by assumption) ?_
        rotate_left
        · (intro w hSw; (try dsimp only at hSw); go_simp) <;> with_reducible rfl
        simp only [Act.put, List.setIfInBounds_toArray, List.set_cons_zero, List.set_cons_succ]
        refine late_take 4 (.succ (.succ (.succ (.succ .zero)))) (v := ?_) (by kernel_rfl) (by kernel_rfl) (by kernel_rfl) (by kernel_rfl) (fun _ _ _ h => h) (by rfl) ?_ (by assumption) ?_
        rotate_left
        · (intro w hSw; (try dsimp only at hSw); go_simp) <;> with_reducible rfl
        simp only [Act.put, List.setIfInBounds_toArray, List.set_cons_zero, List.set_cons_succ]
        refine late_take 5 (.succ (.succ (.succ (.succ (.succ .zero))))) (v := ?_) (by kernel_rfl) (by kernel_rfl) (by kernel_rfl) (by kernel_rfl) (fun _ _ _ h => h) (by rfl) ?_ (by assumption) ?_
        rotate_left
        · (intro w hSw; (try dsimp only at hSw); go_simp) <;> with_reducible rfl
        simp only [Act.put, List.setIfInBounds_toArray, List.set_cons_zero, List.set_cons_succ]
        refine late_take 6 (.succ (.succ (.succ (.succ (.succ (.succ .zero)))))) (v := ?_) (by kernel_rfl) (by kernel_rfl) (by kernel_rfl) (by kernel_rfl) (fun _ _ _ h => h) (by rfl) ?_ (by assumption) ?_
        rotate_left
        · (intro w hSw; (try dsimp only at hSw); go_simp) <;> with_reducible rfl
        simp only [Act.put, List.setIfInBounds_toArray, List.set_cons_zero, List.set_cons_succ]
        refine late_take 7 (.succ (.succ (.succ (.succ (.succ (.succ (.succ .zero))))))) (v := ?_) (by kernel_rfl) (by kernel_rfl) (by kernel_rfl) (by kernel_rfl) (fun _ _ _ h => h) (by rfl) ?_ (by assumption) ?_
        rotate_left
        · (intro w hSw; (try dsimp only at hSw); go_simp) <;> with_reducible rfl
        simp only [Act.put, List.setIfInBounds_toArray, List.set_cons_zero, List.set_cons_succ]
        refine late_take 9 (.succ (.succ (.succ (.succ (.succ (.succ (.succ (.succ (.succ .zero))))))))) (v := ?_) (by kernel_rfl) (by kernel_rfl) (by kernel_rfl) (by kernel_rfl) (fun _ _ _ h => h) (by rfl) ?_ (by assumption) ?_
        rotate_left
        · (intro w hSw; (try dsimp only at hSw); go_simp) <;> with_reducible rfl
        simp only [Act.put, List.setIfInBounds_toArray, List.set_cons_zero, List.set_cons_succ]
        refine late_take 10 (.succ (.succ (.succ (.succ (.succ (.succ (.succ (.succ (.succ (.succ .zero)))))))))) (v := ?_) (by kernel_rfl) (by kernel_rfl) (by kernel_rfl) (by kernel_rfl) (fun _ _ _ h => h) (by rfl) ?_ (by assumption) ?_
        rotate_left
        · (intro w hSw; (try dsimp only at hSw); go_simp) <;> with_reducible rfl
        simp only [Act.put, List.setIfInBounds_toArray, List.set_cons_zero, List.set_cons_succ]
        refine late_take 11 (.succ (.succ (.succ (.succ (.succ (.succ (.succ (.succ (.succ (.succ (.succ .zero))))))))))) (v := ?_) (by kernel_rfl) (by kernel_rfl) (by kernel_rfl) (by kernel_rfl) (fun _ _ _ h => h) (by rfl) ?_ (by assumption) ?_
        rotate_left
        · (intro w hSw; (try dsimp only at hSw); go_simp) <;> with_reducible rfl
        simp only [Act.put, List.setIfInBounds_toArray, List.set_cons_zero, List.set_cons_succ]
        refine late_take 12 (.succ (.succ (.succ (.succ (.succ (.succ (.succ (.succ (.succ (.succ (.succ (.succ .zero)))))))))))) (v := ?_) (by kernel_rfl) (by kernel_rfl) (by kernel_rfl) (by kernel_rfl) (fun _ _ _ h => h) (by rfl) ?_ (by assumption) ?_
        rotate_left
        · (intro w hSw; (try dsimp only at hSw); go_simp) <;> with_reducible rfl
        simp only [Act.put, List.setIfInBounds_toArray, List.set_cons_zero, List.set_cons_succ]
        refine late_take 13 (.succ (.succ (.succ (.succ (.succ (.succ (.succ (.succ (.succ (.succ (.succ (.succ (.succ .zero))))))))))))) (v := ?_) (by kernel_rfl) (by kernel_rfl) (by kernel_rfl) (by kernel_rfl) (fun _ _ _ h => h) (by rfl) ?_ (by assumption) ?_
        rotate_left
        · (intro w hSw; (try dsimp only at hSw); go_simp) <;> with_reducible rfl
        simp only [Act.put, List.setIfInBounds_toArray, List.set_cons_zero, List.set_cons_succ]
        refine late_take 14 (.succ (.succ (.succ (.succ (.succ (.succ (.succ (.succ (.succ (.succ (.succ (.succ (.succ (.succ .zero)))))))))))))) (v := ?_) (by kernel_rfl) (by kernel_rfl) (by kernel_rfl) (by kernel_rfl) (fun _ _ _ h => h) (by rfl) ?_ (by assumption) ?_
        rotate_left
        · (intro w hSw; (try dsimp only at hSw); go_simp) <;> with_reducible rfl
        simp only [Act.put, List.setIfInBounds_toArray, List.set_cons_zero, List.set_cons_succ]
        refine late_one 8 (.succ (.succ (.succ (.succ (.succ (.succ (.succ (.succ .zero)))))))) (by kernel_rfl) (fun K hK => ?_)
        go_simp
        refine hK.out _ _ ?_ (fun hHeld2 => ?_)
        · (intro _; (try dsimp only); go_keep)
        clear hK K
        replace hHeld := hHeld2 (by decide)
        clear hHeld2
        try simp only [Act.put, List.setIfInBounds_toArray, List.set_cons_zero, List.set_cons_succ]
        refine late_one 15 (.succ (.succ (.succ (.succ (.succ (.succ (.succ (.succ (.succ (.succ (.succ (.succ (.succ (.succ (.succ .zero))))))))))))))) (by kernel_rfl) (fun K hK => ?_)
        (refine step_append_rd0 (by rfl) (.tmp 29) (.tmp 35) (by rfl) wr.heap.size wr.heap.size (by rfl) E3.out.2.1 (Nat.le_refl _) ad (L k) cp (F k) (by rfl) E3.out.1 HLk E3.out.2.2 ?_; intro a2 c2 w1 ho1 hg1 _ _; obtain ⟨k0, k1, k2, k3⟩ := HC.out w1 (HT.out w1 hg1))
        refine hK.out _ _ ?_ (fun hHeld2 => ?_)
        · (intro _; (try dsimp only); go_keep)
        clear hK K
        replace hHeld := hHeld2 (by decide)
        clear hHeld2
        try simp only [Act.put, List.setIfInBounds_toArray, List.set_cons_zero, List.set_cons_succ]
        refine late_take 16 (.succ (.succ (.succ (.succ (.succ (.succ (.succ (.succ (.succ (.succ (.succ (.succ (.succ (.succ (.succ (.succ .zero)))))))))))))))) (v := ?_) (by kernel_rfl) (by kernel_rfl) (by kernel_rfl) (by kernel_rfl) (fun _ _ _ h => h) (by rfl) ?_ (by assumption) ?_
        rotate_left
        · (intro w hSw; (try dsimp only at hSw); go_simp) <;> with_reducible rfl
        simp only [Act.put, List.setIfInBounds_toArray, List.set_cons_zero, List.set_cons_succ]
        refine late_one 17 (.succ (.succ (.succ (.succ (.succ (.succ (.succ (.succ (.succ (.succ (.succ (.succ (.succ (.succ (.succ (.succ (.succ .zero))))))))))))))))) (by kernel_rfl) (fun K hK => ?_)
        go_simp
        refine hK.out _ _ ?_ (fun hHeld2 => ?_)
        · (intro _; (try dsimp only); go_keep)
        clear hK K
        replace hHeld := hHeld2 (by decide)
        clear hHeld2
        try simp only [Act.put, List.setIfInBounds_toArray, List.set_cons_zero, List.set_cons_succ]
        refine late_one 18 (.succ (.succ (.succ (.succ (.succ (.succ (.succ (.succ (.succ (.succ (.succ (.succ (.succ (.succ (.succ (.succ (.succ (.succ .zero)))))))))))))))))) (by kernel_rfl) (fun K hK => ?_)
        (refine step_append_made (by rfl) (.tmp 22) (.tmp 38) (by rfl) (w.heap.size + 2) k (.slice pv k qv) (pendRow S A L C k) (S k) a2 (L k) c2 (by rfl) (owns_below GA.out.row (HT.out w1 hg1)) (by rfl) hk2 (Nat.le_trans hz3 (HT.out w1 hg1).size) ?_; intro v3 w3 hr3 hg3; obtain ⟨p3, q3, hv3⟩ := owns_shape hr3; subst hv3; obtain ⟨⟨k0, k1, k2, k3⟩, yd⟩ := HD.out w1 w3 _ (HT.out w1 hg1) hg3; obtain ⟨y0, y1, y2, y3, yf, yl⟩ := yd.cells)
        refine hK.out _ _ ?_ (fun hHeld2 => ?_)
        · (intro _; (try dsimp only); go_keep)
        clear hK K
        replace hHeld := hHeld2 (by decide)
        clear hHeld2
        try simp only [Act.put, List.setIfInBounds_toArray, List.set_cons_zero, List.set_cons_succ]
        refine late_take 19 (.succ (.succ (.succ (.succ (.succ (.succ (.succ (.succ (.succ (.succ (.succ (.succ (.succ (.succ (.succ (.succ (.succ (.succ (.succ .zero))))))))))))))))))) (v := ?_) (by kernel_rfl) (by kernel_rfl) (by kernel_rfl) (by kernel_rfl) (fun _ _ _ h => h) (by rfl) ?_ (by assumption) ?_
        rotate_left
        · (intro w hSw; (try dsimp only at hSw); go_simp) <;> with_reducible rfl
        simp only [Act.put, List.setIfInBounds_toArray, List.set_cons_zero, List.set_cons_succ]
        refine late_one 20 (.succ (.succ (.succ (.succ (.succ (.succ (.succ (.succ (.succ (.succ (.succ (.succ (.succ (.succ (.succ (.succ (.succ (.succ (.succ (.succ .zero)))))))))))))))))))) (by kernel_rfl) (fun K hK => ?_)
        go_simp
        refine hK.out _ _ ?_ (fun hHeld2 => ?_)
        · (intro hne; exact absurd rfl hne)
        clear hK K hHeld2
        refine wpLate_done (by kernel_rfl) ?_ _
        have HX : Hid (DkRow (w3.setCell ⟨bo, 1, none⟩ (.slice p3 (k + 1) q3)) bo (.slice a1 n c1) (.slice p3 (k + 1) q3) fuel dead ∧ OwnB (w3.setCell ⟨bo, 1, none⟩ (.slice p3 (k + 1) q3)) (w.heap.size + 2) a1 n d ∧ Gath (w3.setCell ⟨bo, 1, none⟩ (.slice p3 (k + 1) q3)) (w.heap.size + 2) (.slice p3 (k + 1) q3) (k + 1) S L F (fun i => if i = k then a2 else A i) (fun i => if i = k then c2 else C i) ∧ (n ≠ 0 → ∀ i, i < k + 1 → L i ≠ 0 → (if i = k then a2 else A i) ≠ a1) ∧ Below (w.heap.size + 2) ((w.alloc (.cells #[.slice a n c, .slice (some ⟨b, o, none⟩) m q, .int .i64 fuel, .bool dead] 40)).alloc (.cells #[.slice none 0 0, .slice none 0 0, .int .i64 0, .bool false] 40)) (w3.setCell ⟨bo, 1, none⟩ (.slice p3 (k + 1) q3))) :=
          copy_more hbo hz3 HRW.out HOW.out GA.out HAP.out K3.out (HT.out w1 hg1) ho1 hr3 hg3 yd
        clear hr3 hg3 ho1 hg1 yd y0 y1 y2 y3 k0 k1 k2 k3 hHeld HD HC HT E3 B1
        go_wp2
        go_roundw
        case rel => exact ⟨k + 1, _, _, _, _, by omega, by go_num, HX.out⟩
        case measure => simp [intOf]; omega
      · have e : k = m := by omega
        subst e
        have r0 := hc3 (w.heap.size + 1) 0 (by omega)
        have r1 := hc3 (w.heap.size + 1) 1 (by omega)
        have r2 := hc3 (w.heap.size + 1) 2 (by omega)
        have r3 := hc3 (w.heap.size + 1) 3 (by omega)
        simp at r0 r1 r2 r3
        go_wp2
        refine bodyPost_ret (v := .agg #[.slice a1 n c1, .slice pv k qv, .int .i64 fuel, .bool dead]) (by simp [results, Try.results37, go_sem, r0, r1, r2, r3]) rfl ⟨a1, c1, pv, qv, A, C, rfl, ?_, ?_, HAP.out, ?_, hl1, hm1⟩
        · exact (((((HOW.out.setOther (by simp) _).setOther (by simp) _).setOther (by simp) _).setOther (by simp) _)).mono (by omega)
        · exact (((((GA.out.setOther (by simp) _).setOther (by simp) _).setOther (by simp) _).setOther (by simp) _)).mono (by omega)
        · exact (((((HJ.out K3.out).setCell (by simp) _).setCell (by simp) _).setCell (by simp) _).setCell (by simp) _)
end Go.Proofs.Ytfbhlegkpmcfoaa
