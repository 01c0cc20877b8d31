import Derived.Test.YtfbhlegkpmcfoaaL1Copy
namespace Go.Proofs.Ytfbhlegkpmcfoaa
open Go.RowKit Go.Deep
set_option linter.unusedVariables false
set_option maxRecDepth 100000

theorem box_res {w w1 : World} {O : Obj} (h : Below (w.heap.size + 2) ((w.alloc O).alloc (.cells #[.slice none 0 0, .slice none 0 0, .int .i64 0, .bool false] 40)) w1) : DkRow w1 (w.heap.size + 1) (.slice none 0 0) (.slice none 0 0) 0 false := by
  have r := rowInNew (w.alloc O) (.slice none 0 0) (.slice none 0 0) 0 false
  rw [alloc_size] at r
  exact rowIn.of_block r (h.block _ (by omega))
/-- The four cells of the result laid. -/
def set4 (w : World) (g : Nat) (v0 v1 : Value) (fuel : Int) (dead : Bool) : World := (((w.setCell ⟨g, 0, none⟩ v0).setCell ⟨g, 1, none⟩ v1).setCell ⟨g, 2, none⟩ (.int .i64 fuel)).setCell ⟨g, 3, none⟩ (.bool dead)
theorem dk_set4 {w1 : World} {g : Nat} {u0 u1 v0 v1 : Value} {f0 fuel : Int} {d0 dead : Bool} (hr : DkRow w1 g u0 u1 f0 d0) : DkRow (set4 w1 g v0 v1 fuel dead) g v0 v1 fuel dead := by
  refine (rowIn.set (rowIn.set (rowIn.set (rowIn.set hr 0 _) 1 _) 2 _) 3 _).congr (fun i hi => ?_)
  unfold diskCell
  match i, hi with
  | 0, _ => simp
  | 1, _ => simp
  | 2, _ => simp
  | 3, _ => simp

set_option maxHeartbeats 1000000 in
theorem l1Step_zero (a p : Option Addr) (n c m q : Nat) (d S : Nat → Int) (L : Nat → Nat) (F : Nat → Nat → Int) (dead : Bool) (w : World) (ha : Rd .u8 w a n d) (hp : RdP w p m S L F) (hn : n ≤ 1048576) (hm : m ≤ 1048576) (hL : ∀ i, i < m → L i ≤ 1048576) :
    Calls Try.prog 70 #[.agg #[.slice a n c, .slice p m q, .int .i64 0, .bool dead]] w fun e w' => RetG w e w' n d m S L F 0 true := by
  have HA : Hid (Rd .u8 w a n d) := ha
  have HP : Hid (RdP w p m S L F) := hp
  have HLL : Hid (∀ i, i < m → L i ≤ 1048576) := hL
  clear ha hp hL
  go_enter Try.func70, Try.ntmps70
  go_wp2_with fail
  refine (l1Copy_gath a p n c m q d S L F 0 dead _ (HA.out.below (below_alloc2' _ _ _)) (HP.out.below (below_alloc2' _ _ _)) hn hm HLL.out).mono ?_
  rintro e w1 ⟨a1, c1, p1, q1, A1, C1, rfl, ho1, hg1, hx1, hb1, hl1, hm9⟩
  have E2 : ∀ O O', ((w.alloc O).alloc O').heap.size = w.heap.size + 2 := fun O O' => by simp
  rw [E2] at ho1 hg1 hb1
  have z1 : w.heap.size + 2 ≤ w1.heap.size := by have := hb1.size; simpa using this
  have hc3 : ∀ b o, b < w.heap.size + 2 → w1.cell? ⟨b, o, none⟩ = _ := fun b o hb => hb1.cell (p := ⟨b, o, none⟩) hb
  have hf3 : ∀ b o, b < w.heap.size + 2 → w1.frozen? ⟨b, o, none⟩ = _ := fun b o hb => hb1.frozen (p := ⟨b, o, none⟩) hb
  have DB : Hid (DkRow w1 (w.heap.size + 1) (.slice none 0 0) (.slice none 0 0) 0 false) := box_res hb1
  have al : ∀ O o, (w1.alloc O).cell? ⟨w.heap.size + 1, o, none⟩ = w1.cell? ⟨w.heap.size + 1, o, none⟩ := fun O o => World.cell?_of_block (Below.heap_alloc _ _ _ (by show w.heap.size + 1 < _; omega))
  have af : ∀ O o, (w1.alloc O).frozen? ⟨w.heap.size + 1, o, none⟩ = w1.frozen? ⟨w.heap.size + 1, o, none⟩ := fun O o => (below_alloc w1 O).frozen (p := ⟨w.heap.size + 1, o, none⟩) (by show w.heap.size + 1 < _; omega)
  have r0 : ∀ O, (w1.alloc O).cell? ⟨w.heap.size + 1, 0, none⟩ = some (.slice none 0 0) := fun O => (al O 0).trans DB.out.cells.1
  have r1 : ∀ O, (w1.alloc O).cell? ⟨w.heap.size + 1, 1, none⟩ = some (.slice none 0 0) := fun O => (al O 1).trans DB.out.cells.2.1
  have r2 : ∀ O, (w1.alloc O).cell? ⟨w.heap.size + 1, 2, none⟩ = some (.int .i64 0) := fun O => (al O 2).trans DB.out.cells.2.2.1
  have r3 : ∀ O, (w1.alloc O).cell? ⟨w.heap.size + 1, 3, none⟩ = some (.bool false) := fun O => (al O 3).trans DB.out.cells.2.2.2.1
  have rf : ∀ O o, (w1.alloc O).frozen? ⟨w.heap.size + 1, o, none⟩ = false := fun O o => (af O o).trans (DB.out.cells.2.2.2.2.1 o)
  have rl : w.heap.size + 1 < w1.heap.size := by omega
  clear al af hc3 hf3
  obtain ⟨d0, d1, d2, d3, df, dl⟩ := DB.out.cells
  have HX : Hid ((OwnB w1 (w.heap.size + 2) a1 n d ∧ Gath w1 (w.heap.size + 2) (.slice p1 m q1) m S L F A1 C1 ∧ (n ≠ 0 → ∀ i, i < m → L i ≠ 0 → A1 i ≠ a1)) ∧ Below w.heap.size w w1) := ⟨⟨ho1, hg1, hx1⟩, (below_alloc2' _ _ _).trans (hb1.mono (by omega))⟩
  clear ho1 hg1 hx1 hb1 E2
  go_wp2
  have DR : Hid (DkRow ((set4 w1 (w.heap.size + 1) (.slice a1 n c1) (.slice p1 m q1) 0 true).alloc (.cells #[.slice a1 n c1, .slice p1 m q1, .int .i64 0, .bool true] 40)) (w.heap.size + 1) (.slice a1 n c1) (.slice p1 m q1) 0 true) := (dk_set4 DB.out).below (below_alloc _ _)
  obtain ⟨y0, y1, y2, y3, yf, yl⟩ := DR.out.cells
  clear r0 r1 r2 r3 rf d0 d1 d2 d3 df
  unfold set4 at y0 y1 y2 y3
  refine bodyPost_ret (v := .agg #[.slice a1 n c1, .slice p1 m q1, .int .i64 0, .bool true]) (by simp [results, Try.results70, go_sem, y0, y1, y2, y3]) rfl ⟨a1, c1, p1, q1, A1, C1, rfl, ?_, ?_, HX.out.1.2.2, ?_, hl1, hm9⟩
  · exact (((((HX.out.1.1.setOther (by simp) _).setOther (by simp) _).setOther (by simp) _).setOther (by simp) _).below (below_alloc _ _)).mono (by omega)
  · exact (((((HX.out.1.2.1.setOther (by simp) _).setOther (by simp) _).setOther (by simp) _).setOther (by simp) _).below (below_alloc _ _)).mono (by omega)
  · exact (((((HX.out.2.setCell (by simp) _).setCell (by simp) _).setCell (by simp) _).setCell (by simp) _).alloc (by simpa using HX.out.2.size) _)

set_option maxHeartbeats 1000000 in
theorem l1Step_live (a p : Option Addr) (n c m q : Nat) (d S : Nat → Int) (L : Nat → Nat) (F : Nat → Nat → Int) (fuel : Int) (dead : Bool) (w : World) (ha : Rd .u8 w a n d) (hp : RdP w p m S L F) (hf : fuel ≠ 0) (h1 : -1 ≤ fuel) (h2 : fuel ≤ 1000000) (hn : n ≤ 1048576) (hm : m ≤ 1048576) (hL : ∀ i, i < m → L i ≤ 1048576) :
    Calls Try.prog 70 #[.agg #[.slice a n c, .slice p m q, .int .i64 fuel, .bool dead]] w fun e w' => RetG w e w' n d m S L F (fuelAfter fuel) dead := by
  have HA : Hid (Rd .u8 w a n d) := ha
  have HP : Hid (RdP w p m S L F) := hp
  have HLL : Hid (∀ i, i < m → L i ≤ 1048576) := hL
  have hf' : (fuel == 0) = false := by simp [hf]
  clear ha hp hL
  by_cases hm1 : fuel = -1
  · subst hm1
    go_enter Try.func70, Try.ntmps70
    go_wp2_with fail
    refine (l1Copy_gath a p n c m q d S L F (-1) dead _ (HA.out.below (below_alloc2' _ _ _)) (HP.out.below (below_alloc2' _ _ _)) hn hm HLL.out).mono ?_
    rintro e w1 ⟨a1, c1, p1, q1, A1, C1, rfl, ho1, hg1, hx1, hb1, hl1, hm9⟩
    have E2 : ∀ O O', ((w.alloc O).alloc O').heap.size = w.heap.size + 2 := fun O O' => by simp
    rw [E2] at ho1 hg1 hb1
    have z1 : w.heap.size + 2 ≤ w1.heap.size := by have := hb1.size; simpa using this
    have hc3 : ∀ b o, b < w.heap.size + 2 → w1.cell? ⟨b, o, none⟩ = _ := fun b o hb => hb1.cell (p := ⟨b, o, none⟩) hb
    have hf3 : ∀ b o, b < w.heap.size + 2 → w1.frozen? ⟨b, o, none⟩ = _ := fun b o hb => hb1.frozen (p := ⟨b, o, none⟩) hb
    have DB : Hid (DkRow w1 (w.heap.size + 1) (.slice none 0 0) (.slice none 0 0) 0 false) := box_res hb1
    have al : ∀ O o, (w1.alloc O).cell? ⟨w.heap.size + 1, o, none⟩ = w1.cell? ⟨w.heap.size + 1, o, none⟩ := fun O o => World.cell?_of_block (Below.heap_alloc _ _ _ (by show w.heap.size + 1 < _; omega))
    have af : ∀ O o, (w1.alloc O).frozen? ⟨w.heap.size + 1, o, none⟩ = w1.frozen? ⟨w.heap.size + 1, o, none⟩ := fun O o => (below_alloc w1 O).frozen (p := ⟨w.heap.size + 1, o, none⟩) (by show w.heap.size + 1 < _; omega)
    have r0 : ∀ O, (w1.alloc O).cell? ⟨w.heap.size + 1, 0, none⟩ = some (.slice none 0 0) := fun O => (al O 0).trans DB.out.cells.1
    have r1 : ∀ O, (w1.alloc O).cell? ⟨w.heap.size + 1, 1, none⟩ = some (.slice none 0 0) := fun O => (al O 1).trans DB.out.cells.2.1
    have r2 : ∀ O, (w1.alloc O).cell? ⟨w.heap.size + 1, 2, none⟩ = some (.int .i64 0) := fun O => (al O 2).trans DB.out.cells.2.2.1
    have r3 : ∀ O, (w1.alloc O).cell? ⟨w.heap.size + 1, 3, none⟩ = some (.bool false) := fun O => (al O 3).trans DB.out.cells.2.2.2.1
    have rf : ∀ O o, (w1.alloc O).frozen? ⟨w.heap.size + 1, o, none⟩ = false := fun O o => (af O o).trans (DB.out.cells.2.2.2.2.1 o)
    have rl : w.heap.size + 1 < w1.heap.size := by omega
    clear al af hc3 hf3
    obtain ⟨d0, d1, d2, d3, df, dl⟩ := DB.out.cells
    have HX : Hid ((OwnB w1 (w.heap.size + 2) a1 n d ∧ Gath w1 (w.heap.size + 2) (.slice p1 m q1) m S L F A1 C1 ∧ (n ≠ 0 → ∀ i, i < m → L i ≠ 0 → A1 i ≠ a1)) ∧ Below w.heap.size w w1) := ⟨⟨ho1, hg1, hx1⟩, (below_alloc2' _ _ _).trans (hb1.mono (by omega))⟩
    clear ho1 hg1 hx1 hb1 E2
    go_wp2
    have DR : Hid (DkRow ((set4 w1 (w.heap.size + 1) (.slice a1 n c1) (.slice p1 m q1) (-1) dead).alloc (.cells #[.slice a1 n c1, .slice p1 m q1, .int .i64 (-1), .bool dead] 40)) (w.heap.size + 1) (.slice a1 n c1) (.slice p1 m q1) (-1) dead) := (dk_set4 DB.out).below (below_alloc _ _)
    obtain ⟨y0, y1, y2, y3, yf, yl⟩ := DR.out.cells
    clear r0 r1 r2 r3 rf d0 d1 d2 d3 df
    unfold set4 at y0 y1 y2 y3
    refine bodyPost_ret (v := .agg #[.slice a1 n c1, .slice p1 m q1, .int .i64 (-1), .bool dead]) (by simp [results, Try.results70, go_sem, y0, y1, y2, y3]) rfl ⟨a1, c1, p1, q1, A1, C1, by simp [fuelAfter], ?_, ?_, HX.out.1.2.2, ?_, hl1, hm9⟩
    · exact (((((HX.out.1.1.setOther (by simp) _).setOther (by simp) _).setOther (by simp) _).setOther (by simp) _).below (below_alloc _ _)).mono (by omega)
    · exact (((((HX.out.1.2.1.setOther (by simp) _).setOther (by simp) _).setOther (by simp) _).setOther (by simp) _).below (below_alloc _ _)).mono (by omega)
    · exact (((((HX.out.2.setCell (by simp) _).setCell (by simp) _).setCell (by simp) _).setCell (by simp) _).alloc (by simpa using HX.out.2.size) _)
  · have hp1 : 0 < fuel := by omega
    go_enter Try.func70, Try.ntmps70
    go_wp2_with fail
    refine (l1Copy_gath a p n c m q d S L F fuel dead _ (HA.out.below (below_alloc2' _ _ _)) (HP.out.below (below_alloc2' _ _ _)) hn hm HLL.out).mono ?_
    rintro e w1 ⟨a1, c1, p1, q1, A1, C1, rfl, ho1, hg1, hx1, hb1, hl1, hm9⟩
    have E2 : ∀ O O', ((w.alloc O).alloc O').heap.size = w.heap.size + 2 := fun O O' => by simp
    rw [E2] at ho1 hg1 hb1
    have z1 : w.heap.size + 2 ≤ w1.heap.size := by have := hb1.size; simpa using this
    have hc3 : ∀ b o, b < w.heap.size + 2 → w1.cell? ⟨b, o, none⟩ = _ := fun b o hb => hb1.cell (p := ⟨b, o, none⟩) hb
    have hf3 : ∀ b o, b < w.heap.size + 2 → w1.frozen? ⟨b, o, none⟩ = _ := fun b o hb => hb1.frozen (p := ⟨b, o, none⟩) hb
    have DB : Hid (DkRow w1 (w.heap.size + 1) (.slice none 0 0) (.slice none 0 0) 0 false) := box_res hb1
    have al : ∀ O o, (w1.alloc O).cell? ⟨w.heap.size + 1, o, none⟩ = w1.cell? ⟨w.heap.size + 1, o, none⟩ := fun O o => World.cell?_of_block (Below.heap_alloc _ _ _ (by show w.heap.size + 1 < _; omega))
    have af : ∀ O o, (w1.alloc O).frozen? ⟨w.heap.size + 1, o, none⟩ = w1.frozen? ⟨w.heap.size + 1, o, none⟩ := fun O o => (below_alloc w1 O).frozen (p := ⟨w.heap.size + 1, o, none⟩) (by show w.heap.size + 1 < _; omega)
    have r0 : ∀ O, (w1.alloc O).cell? ⟨w.heap.size + 1, 0, none⟩ = some (.slice none 0 0) := fun O => (al O 0).trans DB.out.cells.1
    have r1 : ∀ O, (w1.alloc O).cell? ⟨w.heap.size + 1, 1, none⟩ = some (.slice none 0 0) := fun O => (al O 1).trans DB.out.cells.2.1
    have r2 : ∀ O, (w1.alloc O).cell? ⟨w.heap.size + 1, 2, none⟩ = some (.int .i64 0) := fun O => (al O 2).trans DB.out.cells.2.2.1
    have r3 : ∀ O, (w1.alloc O).cell? ⟨w.heap.size + 1, 3, none⟩ = some (.bool false) := fun O => (al O 3).trans DB.out.cells.2.2.2.1
    have rf : ∀ O o, (w1.alloc O).frozen? ⟨w.heap.size + 1, o, none⟩ = false := fun O o => (af O o).trans (DB.out.cells.2.2.2.2.1 o)
    have rl : w.heap.size + 1 < w1.heap.size := by omega
    clear al af hc3 hf3
    obtain ⟨d0, d1, d2, d3, df, dl⟩ := DB.out.cells
    have HX : Hid ((OwnB w1 (w.heap.size + 2) a1 n d ∧ Gath w1 (w.heap.size + 2) (.slice p1 m q1) m S L F A1 C1 ∧ (n ≠ 0 → ∀ i, i < m → L i ≠ 0 → A1 i ≠ a1)) ∧ Below w.heap.size w w1) := ⟨⟨ho1, hg1, hx1⟩, (below_alloc2' _ _ _).trans (hb1.mono (by omega))⟩
    clear ho1 hg1 hx1 hb1 E2
    go_wp2
    have DR : Hid (DkRow ((set4 w1 (w.heap.size + 1) (.slice a1 n c1) (.slice p1 m q1) (fuel - 1) dead).alloc (.cells #[.slice a1 n c1, .slice p1 m q1, .int .i64 (fuel - 1), .bool dead] 40)) (w.heap.size + 1) (.slice a1 n c1) (.slice p1 m q1) (fuel - 1) dead) := (dk_set4 DB.out).below (below_alloc _ _)
    obtain ⟨y0, y1, y2, y3, yf, yl⟩ := DR.out.cells
    clear r0 r1 r2 r3 rf d0 d1 d2 d3 df
    unfold set4 at y0 y1 y2 y3
    refine bodyPost_ret (v := .agg #[.slice a1 n c1, .slice p1 m q1, .int .i64 (fuel - 1), .bool dead]) (by simp [results, Try.results70, go_sem, y0, y1, y2, y3]) rfl ⟨a1, c1, p1, q1, A1, C1, by simp [fuelAfter, hm1], ?_, ?_, HX.out.1.2.2, ?_, hl1, hm9⟩
    · exact (((((HX.out.1.1.setOther (by simp) _).setOther (by simp) _).setOther (by simp) _).setOther (by simp) _).below (below_alloc _ _)).mono (by omega)
    · exact (((((HX.out.1.2.1.setOther (by simp) _).setOther (by simp) _).setOther (by simp) _).setOther (by simp) _).below (below_alloc _ _)).mono (by omega)
    · exact (((((HX.out.2.setCell (by simp) _).setCell (by simp) _).setCell (by simp) _).setCell (by simp) _).alloc (by simpa using HX.out.2.size) _)
theorem l1Copy_any (a p : Option Addr) (n c m q : Nat) (d S : Nat → Int) (L : Nat → Nat) (F : Nat → Nat → Int) (fuel : Int) (dead : Bool) (w : World) (ha : Rd .u8 w a n d) (hp : RdP w p m S L F) (hn : n ≤ 1048576) (hm : m ≤ 1048576) (hL : ∀ i, i < m → L i ≤ 1048576) :
    Calls Try.prog 37 #[.agg #[.slice a n c, .slice p m q, .int .i64 fuel, .bool dead]] w fun e w' => RetD w e w' n d m S L F fuel dead :=
  (l1Copy_gath a p n c m q d S L F fuel dead w ha hp hn hm hL).mono (fun e w' h => h.retD)
end Go.Proofs.Ytfbhlegkpmcfoaa
