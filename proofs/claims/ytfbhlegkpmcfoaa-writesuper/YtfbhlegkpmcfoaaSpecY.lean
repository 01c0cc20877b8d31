import Derived.Test.YtfbhlegkpmcfoaaL1Step
import Derived.Test.YtfbhlegkpmcfoaaDevY
namespace Go.Proofs.Ytfbhlegkpmcfoaa
open Go.RowKit Go.Deep
set_option linter.unusedVariables false
set_option maxRecDepth 100000

set_option maxHeartbeats 1000000 in
theorem specY_1 (a p : Option Addr) (n c m q : Nat) (d S : Nat → Int) (L : Nat → Nat) (F : Nat → Nat → Int) (fuel : Int) (dead : Bool) (w : World) (ha : Rd .u8 w a n d) (hp : RdP w p m S L F) (hn : n ≤ 1048576) (hm : m ≤ 1048576) (hL : ∀ i, i < m → L i ≤ 1048576) (hv : ¬ VD n m S L fuel) :
    Calls Try.prog 38 #[.agg #[.slice a n c, .slice p m q, .int .i64 fuel, .bool dead]] w fun e w' => RetD w e w' n d m S L F fuel dead := by
  have HA : Hid (Rd .u8 w a n d) := ha
  have HP : Hid (RdP w p m S L F) := hp
  have HLL : Hid (∀ i, i < m → L i ≤ 1048576) := hL
  have HFIN : Hid (∀ W : World, Below (w.heap.size + 2) ((w.alloc (.cells #[.slice a n c, .slice p m q, .int .i64 fuel, .bool dead] 40)).alloc (.cells #[.slice none 0 0, .slice none 0 0, .int .i64 0, .bool false] 40)) W → Below w.heap.size w W) := fun W h => (below_alloc2' _ _ _).trans (h.mono (by omega))
  have HE2 : Hid (∀ o1 o2, ((w.alloc o1).alloc o2).heap.size = w.heap.size + 2) := fun _ _ => by simp
  have HV : Hid (¬ VD n m S L fuel) := hv
  clear ha hp hL hv
  go_enter Try.func38, Try.ntmps38
  go_wp2_with fail
  refine (specValid_any a p n c m q S L F fuel dead _ (HP.out.below (below_alloc2' _ _ _)) hn hm).mono ?_
  rintro e w1 ⟨h1, hb1⟩
  have e1 := ans_false' h1 HV.out
  subst e1
  rw [HE2.out] at hb1
  have K1 : Hid (Below (w.heap.size + 2) ((w.alloc (.cells #[.slice a n c, .slice p m q, .int .i64 fuel, .bool dead] 40)).alloc (.cells #[.slice none 0 0, .slice none 0 0, .int .i64 0, .bool false] 40)) w1) := hb1
  have z1 : w.heap.size + 2 ≤ w1.heap.size := by have := K1.out.size; rw [HE2.out] at this; exact this
  have hc1 : ∀ b o, b < w.heap.size + 2 → w1.cell? ⟨b, o, none⟩ = _ := fun b o hb => K1.out.cell (p := ⟨b, o, none⟩) hb
  clear hb1 h1
  go_wp2_with fail
  refine (l1Copy_any a p n c m q d S L F fuel dead w1 (HA.out.below (HFIN.out _ K1.out)) (HP.out.below (HFIN.out _ K1.out)) hn hm HLL.out).mono ?_
  rintro e w9 ⟨a9, c9, p9, q9, A9, rfl, ho9, hb9⟩
  have K9 : Below (w.heap.size + 2) ((w.alloc (.cells #[.slice a n c, .slice p m q, .int .i64 fuel, .bool dead] 40)).alloc (.cells #[.slice none 0 0, .slice none 0 0, .int .i64 0, .bool false] 40)) w9 := K1.out.trans (hb9.mono (by omega))
  have hc9 : ∀ b o, b < w.heap.size + 2 → w9.cell? ⟨b, o, none⟩ = _ := fun b o hb => K9.cell (p := ⟨b, o, none⟩) hb
  have hf9 : ∀ b o, b < w.heap.size + 2 → w9.frozen? ⟨b, o, none⟩ = _ := fun b o hb => K9.frozen (p := ⟨b, o, none⟩) hb
  have hz9 : w.heap.size + 1 < w9.heap.size := by have := hb9.size; omega
  have HX : Hid (OwnD w9 (w.heap.size + 2) a9 n d p9 m S L F A9 ∧ Below w.heap.size w w9) := ⟨ho9.mono (by omega), HFIN.out _ K9⟩
  clear ho9 hb9 K9 hc1
  go_wp2
  refine bodyPost_ret (v := .agg #[.slice a9 n c9, .slice p9 m q9, .int .i64 fuel, .bool dead]) (by simp [results, Try.results38, go_sem, hc9]) rfl ⟨a9, c9, p9, q9, A9, rfl, ?_, ?_⟩
  · exact ((((HX.out.1.setOther (by simp) _).setOther (by simp) _).setOther (by simp) _).setOther (by simp) _).mono (by omega)
  · exact (((HX.out.2.setCell (by simp; try omega) _).setCell (by simp; try omega) _).setCell (by simp; try omega) _).setCell (by simp; try omega) _

set_option maxHeartbeats 1000000 in
theorem specY_2 (a p : Option Addr) (n c m q : Nat) (d S : Nat → Int) (L : Nat → Nat) (F : Nat → Nat → Int) (fuel : Int) (w : World) (ha : Rd .u8 w a n d) (hp : RdP w p m S L F) (hn : n ≤ 1048576) (hm : m ≤ 1048576) (hL : ∀ i, i < m → L i ≤ 1048576) (hv : VD n m S L fuel) :
    Calls Try.prog 38 #[.agg #[.slice a n c, .slice p m q, .int .i64 fuel, .bool true]] w fun e w' => RetD w e w' n d m S L F fuel true := by
  have HA : Hid (Rd .u8 w a n d) := ha
  have HP : Hid (RdP w p m S L F) := hp
  have HLL : Hid (∀ i, i < m → L i ≤ 1048576) := hL
  have HFIN : Hid (∀ W : World, Below (w.heap.size + 2) ((w.alloc (.cells #[.slice a n c, .slice p m q, .int .i64 fuel, .bool true] 40)).alloc (.cells #[.slice none 0 0, .slice none 0 0, .int .i64 0, .bool false] 40)) W → Below w.heap.size w W) := fun W h => (below_alloc2' _ _ _).trans (h.mono (by omega))
  have HE2 : Hid (∀ o1 o2, ((w.alloc o1).alloc o2).heap.size = w.heap.size + 2) := fun _ _ => by simp
  have HV : Hid (VD n m S L fuel) := hv
  clear ha hp hL hv
  go_enter Try.func38, Try.ntmps38
  go_wp2_with fail
  refine (specValid_any a p n c m q S L F fuel true _ (HP.out.below (below_alloc2' _ _ _)) hn hm).mono ?_
  rintro e w1 ⟨h1, hb1⟩
  have e1 := ans_true' h1 HV.out
  subst e1
  rw [HE2.out] at hb1
  have K1 : Hid (Below (w.heap.size + 2) ((w.alloc (.cells #[.slice a n c, .slice p m q, .int .i64 fuel, .bool true] 40)).alloc (.cells #[.slice none 0 0, .slice none 0 0, .int .i64 0, .bool false] 40)) w1) := hb1
  have z1 : w.heap.size + 2 ≤ w1.heap.size := by have := K1.out.size; rw [HE2.out] at this; exact this
  have hc1 : ∀ b o, b < w.heap.size + 2 → w1.cell? ⟨b, o, none⟩ = _ := fun b o hb => K1.out.cell (p := ⟨b, o, none⟩) hb
  clear hb1 h1
  go_wp2_with fail
  refine (l1Copy_any a p n c m q d S L F fuel true w1 (HA.out.below (HFIN.out _ K1.out)) (HP.out.below (HFIN.out _ K1.out)) hn hm HLL.out).mono ?_
  rintro e w9 ⟨a9, c9, p9, q9, A9, rfl, ho9, hb9⟩
  have K9 : Below (w.heap.size + 2) ((w.alloc (.cells #[.slice a n c, .slice p m q, .int .i64 fuel, .bool true] 40)).alloc (.cells #[.slice none 0 0, .slice none 0 0, .int .i64 0, .bool false] 40)) w9 := K1.out.trans (hb9.mono (by omega))
  have hc9 : ∀ b o, b < w.heap.size + 2 → w9.cell? ⟨b, o, none⟩ = _ := fun b o hb => K9.cell (p := ⟨b, o, none⟩) hb
  have hf9 : ∀ b o, b < w.heap.size + 2 → w9.frozen? ⟨b, o, none⟩ = _ := fun b o hb => K9.frozen (p := ⟨b, o, none⟩) hb
  have hz9 : w.heap.size + 1 < w9.heap.size := by have := hb9.size; omega
  have HX : Hid (OwnD w9 (w.heap.size + 2) a9 n d p9 m S L F A9 ∧ Below w.heap.size w w9) := ⟨ho9.mono (by omega), HFIN.out _ K9⟩
  clear ho9 hb9 K9 hc1
  go_wp2
  refine bodyPost_ret (v := .agg #[.slice a9 n c9, .slice p9 m q9, .int .i64 fuel, .bool true]) (by simp [results, Try.results38, go_sem, hc9]) rfl ⟨a9, c9, p9, q9, A9, rfl, ?_, ?_⟩
  · exact ((((HX.out.1.setOther (by simp) _).setOther (by simp) _).setOther (by simp) _).setOther (by simp) _).mono (by omega)
  · exact (((HX.out.2.setCell (by simp; try omega) _).setCell (by simp; try omega) _).setCell (by simp; try omega) _).setCell (by simp; try omega) _

set_option maxHeartbeats 1000000 in
theorem specY_zero (a p : Option Addr) (n c m q : Nat) (d S : Nat → Int) (L : Nat → Nat) (F : Nat → Nat → Int) (w : World) (ha : Rd .u8 w a n d) (hp : RdP w p m S L F) (hn : n ≤ 1048576) (hm : m ≤ 1048576) (hL : ∀ i, i < m → L i ≤ 1048576) (hv : VD n m S L 0) :
    Calls Try.prog 38 #[.agg #[.slice a n c, .slice p m q, .int .i64 0, .bool false]] w fun e w' => RetG w e w' n d m S L F 0 true := by
  have HA : Hid (Rd .u8 w a n d) := ha
  have HP : Hid (RdP w p m S L F) := hp
  have HLL : Hid (∀ i, i < m → L i ≤ 1048576) := hL
  have HFIN : Hid (∀ W : World, Below (w.heap.size + 2) ((w.alloc (.cells #[.slice a n c, .slice p m q, .int .i64 0, .bool false] 40)).alloc (.cells #[.slice none 0 0, .slice none 0 0, .int .i64 0, .bool false] 40)) W → Below w.heap.size w W) := fun W h => (below_alloc2' _ _ _).trans (h.mono (by omega))
  have HE2 : Hid (∀ o1 o2, ((w.alloc o1).alloc o2).heap.size = w.heap.size + 2) := fun _ _ => by simp
  have HV : Hid (VD n m S L 0) := hv
  clear ha hp hL hv
  go_enter Try.func38, Try.ntmps38
  go_wp2_with fail
  refine (specValid_any a p n c m q S L F 0 false _ (HP.out.below (below_alloc2' _ _ _)) hn hm).mono ?_
  rintro e w1 ⟨h1, hb1⟩
  have e1 := ans_true' h1 HV.out
  subst e1
  rw [HE2.out] at hb1
  have K1 : Hid (Below (w.heap.size + 2) ((w.alloc (.cells #[.slice a n c, .slice p m q, .int .i64 0, .bool false] 40)).alloc (.cells #[.slice none 0 0, .slice none 0 0, .int .i64 0, .bool false] 40)) w1) := hb1
  have z1 : w.heap.size + 2 ≤ w1.heap.size := by have := K1.out.size; rw [HE2.out] at this; exact this
  have hc1 : ∀ b o, b < w.heap.size + 2 → w1.cell? ⟨b, o, none⟩ = _ := fun b o hb => K1.out.cell (p := ⟨b, o, none⟩) hb
  clear hb1 h1
  go_wp2_with fail
  refine (l1Step_zero a p n c m q d S L F false w1 (HA.out.below (HFIN.out _ K1.out)) (HP.out.below (HFIN.out _ K1.out)) hn hm HLL.out).mono ?_
  rintro e w3 ⟨a3, c3, p3, q3, A3, C3, rfl, ho3, hg3, hx3, hb3, hl3, hm3⟩
  have z3 := hb3.size
  have K3 : Hid (Below (w.heap.size + 2) ((w.alloc (.cells #[.slice a n c, .slice p m q, .int .i64 0, .bool false] 40)).alloc (.cells #[.slice none 0 0, .slice none 0 0, .int .i64 0, .bool false] 40)) w3) := K1.out.trans (hb3.mono (by omega))
  have HX : Hid ((OwnB w3 (w.heap.size + 2) a3 n d ∧ Gath w3 (w.heap.size + 2) (.slice p3 m q3) m S L F A3 C3 ∧ (n ≠ 0 → ∀ i, i < m → L i ≠ 0 → A3 i ≠ a3)) ∧ Below w.heap.size w w3) := ⟨⟨ho3.mono (by omega), hg3.mono (by omega), hx3⟩, HFIN.out _ K3.out⟩
  have DB : Hid (DkRow w3 (w.heap.size + 1) (.slice none 0 0) (.slice none 0 0) 0 false) := box_res K3.out
  have al : ∀ O o, (w3.alloc O).cell? ⟨w.heap.size + 1, o, none⟩ = w3.cell? ⟨w.heap.size + 1, o, none⟩ := fun O o => World.cell?_of_block (Below.heap_alloc _ _ _ (by show w.heap.size + 1 < _; omega))
  have af : ∀ O o, (w3.alloc O).frozen? ⟨w.heap.size + 1, o, none⟩ = w3.frozen? ⟨w.heap.size + 1, o, none⟩ := fun O o => (below_alloc w3 O).frozen (p := ⟨w.heap.size + 1, o, none⟩) (by show w.heap.size + 1 < _; omega)
  have r0 : ∀ O, (w3.alloc O).cell? ⟨w.heap.size + 1, 0, none⟩ = some (.slice none 0 0) := fun O => (al O 0).trans DB.out.cells.1
  have r1 : ∀ O, (w3.alloc O).cell? ⟨w.heap.size + 1, 1, none⟩ = some (.slice none 0 0) := fun O => (al O 1).trans DB.out.cells.2.1
  have r2 : ∀ O, (w3.alloc O).cell? ⟨w.heap.size + 1, 2, none⟩ = some (.int .i64 0) := fun O => (al O 2).trans DB.out.cells.2.2.1
  have r3 : ∀ O, (w3.alloc O).cell? ⟨w.heap.size + 1, 3, none⟩ = some (.bool false) := fun O => (al O 3).trans DB.out.cells.2.2.2.1
  have rf : ∀ O o, (w3.alloc O).frozen? ⟨w.heap.size + 1, o, none⟩ = false := fun O o => (af O o).trans (DB.out.cells.2.2.2.2.1 o)
  have rl : w.heap.size + 1 < w3.heap.size := by omega
  clear al af hc1
  obtain ⟨d0, d1, d2, d3, df, dl⟩ := DB.out.cells
  clear ho3 hg3 hx3 hb3
  go_wp2
  have DR : Hid (DkRow ((set4 w3 (w.heap.size + 1) (.slice a3 n c3) (.slice p3 m q3) 0 true).alloc (.cells #[.slice a3 n c3, .slice p3 m q3, .int .i64 0, .bool true] 40)) (w.heap.size + 1) (.slice a3 n c3) (.slice p3 m q3) 0 true) := (dk_set4 DB.out).below (below_alloc _ _)
  obtain ⟨y0, y1, y2, y3, yf, yl⟩ := DR.out.cells
  clear r0 r1 r2 r3 rf d0 d1 d2 d3 df
  unfold set4 at y0 y1 y2 y3
  refine bodyPost_ret (v := .agg #[.slice a3 n c3, .slice p3 m q3, .int .i64 0, .bool true]) (by simp [results, Try.results38, go_sem, y0, y1, y2, y3]) rfl ⟨a3, c3, p3, q3, A3, C3, rfl, ?_, ?_, HX.out.1.2.2, ?_, hl3, hm3⟩
  · exact (((((HX.out.1.1.setOther (by simp) _).setOther (by simp) _).setOther (by simp) _).setOther (by simp) _).below (below_alloc _ _)).mono (by omega)
  · exact (((((HX.out.1.2.1.setOther (by simp) _).setOther (by simp) _).setOther (by simp) _).setOther (by simp) _).below (below_alloc _ _)).mono (by omega)
  · exact (((((HX.out.2.setCell (by simp) _).setCell (by simp) _).setCell (by simp) _).setCell (by simp) _).alloc (by simpa using HX.out.2.size) _)

/-- A call of l1Over, as a step of a region that draws its order. -/
theorem step_l1Over {ops : Array Oper} {o : Oper} {a : Act} {w : World} {K : Act → World → Prop} {Q : Exit → Act → World → Prop} {E : Prop} (hgd : o.guard = none) (x y z : Nat)
    (ho : o.op = .call { callee := .value (.func 71), args := #[.tmp x, .tmp y, .tmp z], argTypes := #[28, 2, 28] }) (u v t : Value) (hx : a.tmps[x]?.getD undef = u) (hy : a.tmps[y]?.getD undef = v) (hz : a.tmps[z]?.getD undef = t)
    (h : Calls Try.prog 71 #[u, v, t] w fun e w' => ∃ r, e = .returned r ∧ K (a.put o.dst r) w') :
    if Region.wanted o (yielded ops a.tmps) = true then Oper.wp Try.prog o a w K Q else E := by
  have hw : Region.wanted o (yielded ops a.tmps) = true := by simp [Region.wanted, hgd]
  rw [if_pos hw]
  unfold Oper.wp
  simp [execOp, ho, resolve, invoke, hx, hy, hz, go_sem]
  refine h.mono ?_
  rintro e w' ⟨u, rfl, hk⟩
  exact hk

theorem DkRow.setData {w : World} {b : Nat} {v0 v1 : Value} {fuel : Int} {dead : Bool} (h : DkRow w b v0 v1 fuel dead) (x : Value) : DkRow (w.setCell ⟨b, 0, none⟩ x) b x v1 fuel dead :=
  (rowIn.set h 0 _).congr (fun i hi => by
    unfold diskCell
    by_cases e : i = 0
    · subst e; simp
    · simp [e])

set_option maxHeartbeats 2000000 in
theorem specY_live (a p : Option Addr) (n c m q : Nat) (d S : Nat → Int) (L : Nat → Nat) (F : Nat → Nat → Int) (fuel : Int) (w : World) (ha : Rd .u8 w a n d) (hp : RdP w p m S L F) (hn : n ≤ 1048576) (hm : m ≤ 1048576) (hL : ∀ i, i < m → L i ≤ 1048576) (hv : VD n m S L fuel) (hf0 : fuel ≠ 0) (hf1 : -1 ≤ fuel) (hf2 : fuel ≤ 1000000) (S2 : Nat → Int) (L2 : Nat → Nat) (F2 : Nat → Nat → Int) :
    Calls Try.prog 38 #[.agg #[.slice a n c, .slice p m q, .int .i64 fuel, .bool false]] w fun e w' => RetD w e w' n (syncTo d S F m) 0 S2 L2 F2 (fuelAfter fuel) false := by
  have HA : Hid (Rd .u8 w a n d) := ha
  have HP : Hid (RdP w p m S L F) := hp
  have HLL : Hid (∀ i, i < m → L i ≤ 1048576) := hL
  have HFIN : Hid (∀ W : World, Below (w.heap.size + 2) ((w.alloc (.cells #[.slice a n c, .slice p m q, .int .i64 fuel, .bool false] 40)).alloc (.cells #[.slice none 0 0, .slice none 0 0, .int .i64 0, .bool false] 40)) W → Below w.heap.size w W) := fun W h => (below_alloc2' _ _ _).trans (h.mono (by omega))
  have HE2 : Hid (∀ o1 o2, ((w.alloc o1).alloc o2).heap.size = w.heap.size + 2) := fun _ _ => by simp
  have HV : Hid (VD n m S L fuel) := hv
  clear ha hp hL hv
  go_enter Try.func38, Try.ntmps38
  go_wp2_with fail
  refine (specValid_any a p n c m q S L F fuel false _ (HP.out.below (below_alloc2' _ _ _)) hn hm).mono ?_
  rintro e w1 ⟨h1, hb1⟩
  have e1 := ans_true' h1 HV.out
  subst e1
  rw [HE2.out] at hb1
  have K1 : Hid (Below (w.heap.size + 2) ((w.alloc (.cells #[.slice a n c, .slice p m q, .int .i64 fuel, .bool false] 40)).alloc (.cells #[.slice none 0 0, .slice none 0 0, .int .i64 0, .bool false] 40)) w1) := hb1
  have z1 : w.heap.size + 2 ≤ w1.heap.size := by have := K1.out.size; rw [HE2.out] at this; exact this
  have hc1 : ∀ b o, b < w.heap.size + 2 → w1.cell? ⟨b, o, none⟩ = _ := fun b o hb => K1.out.cell (p := ⟨b, o, none⟩) hb
  clear hb1 h1
  go_wp2_with fail
  refine (l1Step_live a p n c m q d S L F fuel false w1 (HA.out.below (HFIN.out _ K1.out)) (HP.out.below (HFIN.out _ K1.out)) hf0 hf1 hf2 hn hm HLL.out).mono ?_
  rintro e w3 ⟨a3, c3, p3, q3, A3, C3, rfl, ho3, hg3, hx3, hb3, hl3, hm3⟩
  have z3 := hb3.size
  have K3 : Below (w.heap.size + 2) ((w.alloc (.cells #[.slice a n c, .slice p m q, .int .i64 fuel, .bool false] 40)).alloc (.cells #[.slice none 0 0, .slice none 0 0, .int .i64 0, .bool false] 40)) w3 := K1.out.trans (hb3.mono (by omega))
  have HX : Hid (DkRow (w3.alloc (.cells #[.slice a3 n c3, .slice p3 m q3, .int .i64 (fuelAfter fuel), .bool false] 40)) w3.heap.size (.slice a3 n c3) (.slice p3 m q3) (fuelAfter fuel) false ∧ OwnB (w3.alloc (.cells #[.slice a3 n c3, .slice p3 m q3, .int .i64 (fuelAfter fuel), .bool false] 40)) (w.heap.size + 2) a3 n d ∧ Below (w.heap.size + 2) ((w.alloc (.cells #[.slice a n c, .slice p m q, .int .i64 fuel, .bool false] 40)).alloc (.cells #[.slice none 0 0, .slice none 0 0, .int .i64 0, .bool false] 40)) (w3.alloc (.cells #[.slice a3 n c3, .slice p3 m q3, .int .i64 (fuelAfter fuel), .bool false] 40))) :=
    ⟨rowInNew _ _ _ _ _, (ho3.mono (by omega)).below (below_alloc _ _), K3.alloc (by omega) _⟩
  have hbo : w.heap.size + 2 ≤ w3.heap.size := by omega
  clear ho3 hg3 hx3 hb3 K3 hc1
  go_wp2
  generalize hbx : w3.heap.size = bo at HX hbo ⊢
  generalize hwx : w3.alloc (.cells #[.slice a3 n c3, .slice p3 m q3, .int .i64 (fuelAfter fuel), .bool false] 40) = wx at HX ⊢
  clear hbx hwx
  go_loopw [4] (fun i wr => ∃ (k : Nat) (a' : Option Addr) (c' : Nat), k ≤ m ∧ i = .int .i64 k ∧ DkRow wr bo (.slice a' n c') (.slice p3 m q3) (fuelAfter fuel) false ∧ OwnB wr (w.heap.size + 2) a' n (syncTo d S F k) ∧ n ≤ c' ∧ c' ≤ 9223372036854775807 ∧ Below (w.heap.size + 2) ((w.alloc (.cells #[.slice a n c, .slice p m q, .int .i64 fuel, .bool false] 40)).alloc (.cells #[.slice none 0 0, .slice none 0 0, .int .i64 0, .bool false] 40)) wr) (fun i _ => m - (intOf i).toNat)
  case atStart => exact ⟨0, a3, c3, Nat.zero_le _, rfl, HX.out.1, HX.out.2.1, hl3, hm3, HX.out.2.2⟩
  case round =>
    obtain ⟨k, a', c', hkm, rfl, hrow, hown, hc1', hc2', hbel⟩ := hrel
    have K4 : Hid (Below (w.heap.size + 2) ((w.alloc (.cells #[.slice a n c, .slice p m q, .int .i64 fuel, .bool false] 40)).alloc (.cells #[.slice none 0 0, .slice none 0 0, .int .i64 0, .bool false] 40)) wr) := hbel
    have hzr : w.heap.size + 2 ≤ wr.heap.size := by have := hbel.size; rw [HE2.out] at this; exact this
    have HRW : Hid (DkRow wr bo (.slice a' n c') (.slice p3 m q3) (fuelAfter fuel) false) := hrow
    have HOW : Hid (OwnB wr (w.heap.size + 2) a' n (syncTo d S F k)) := hown
    clear hrow hown hbel HX
    obtain ⟨d0, d1, d2, d3, df, dl⟩ := HRW.out.cells
    have hc3 : ∀ b o, b < w.heap.size + 2 → wr.cell? ⟨b, o, none⟩ = _ := fun b o hb => K4.out.cell (p := ⟨b, o, none⟩) hb
    have x1 := hc3 w.heap.size 1 (by omega)
    simp at x1
    clear hc3
    by_cases hlt : k < m
    · rcases HP.out.below (HFIN.out _ K4.out) with h | ⟨b, o, hpa, hc⟩
      · omega
      subst hpa
      obtain ⟨e1, ad, cp, e2, e3⟩ := hc k hlt
      have hvp := HV.out.2 k hlt
      rw [hvp.2.2] at e2 e3
      obtain ⟨s, hs⟩ := Int.eq_ofNat_of_zero_le hvp.1
      have hfit := sectorFits hvp hs
      have HS : Hid (S k = (s : Int)) := hs
      rw [hs] at e1
      have HT : Hid (syncTo d S F (k + 1) = over (syncTo d S F k) s (F k)) := by
        show over _ _ _ = _
        rw [HS.out, Int.toNat_natCast]
      have E3 : Hid (Rd .u8 wr.drew ad 64 (F k)) := e3
      have HRD : Hid (Rd .u8 wr.drew a' n (syncTo d S F k)) := HOW.out.rd
      have hbb : b < wr.heap.size := World.block_lt_of_cell? _ _ e1
      clear hc e3 hvp hs
      have HC : Hid (∀ w4 : World, Below wr.drew.heap.size wr.drew w4 → (w4.cell? ⟨bo, 0, none⟩ = some (.slice a' n c') ∧ w4.cell? ⟨w.heap.size, 1, none⟩ = some (.slice (some ⟨b, o, none⟩) m q) ∧ w4.cell? ⟨b, o + k * 2, none⟩ = some (.int .i64 s) ∧ w4.cell? ⟨b, o + k * 2 + 1, none⟩ = some (.slice ad 64 cp)) ∧ (∀ x, w4.frozen? ⟨bo, x, none⟩ = false) ∧ bo < w4.heap.size) := by
        intro w4 hb
        refine ⟨⟨(hb.cell (p := ⟨bo, 0, none⟩) dl).trans d0, (hb.cell (p := ⟨w.heap.size, 1, none⟩) (by show w.heap.size < wr.heap.size; omega)).trans x1, (hb.cell (p := ⟨b, o + k * 2, none⟩) hbb).trans e1, (hb.cell (p := ⟨b, o + k * 2 + 1, none⟩) hbb).trans e2⟩, fun x => (hb.frozen (p := ⟨bo, x, none⟩) dl).trans (df x), Nat.lt_of_lt_of_le dl hb.size⟩
      have ik : (k : Int) < (m : Int) := by omega
      go_wp2
      refine wp_region_late (S := (fun w' => w'.cell? ⟨bo, 0, none⟩ = some (.slice a' n c') ∧ w'.cell? ⟨w.heap.size, 1, none⟩ = some (.slice (some ⟨b, o, none⟩) m q) ∧ w'.cell? ⟨b, o + k * 2, none⟩ = some (.int .i64 s) ∧ w'.cell? ⟨b, o + k * 2 + 1, none⟩ = some (.slice ad 64 cp))) 16 (by kernel_rfl) ?_ (fun hHeld => ?_)
      · ((try dsimp only); go_keep)
      refine late_take 0 .zero (v := ?_) (by kernel_rfl) (by kernel_rfl) (by kernel_rfl) (by kernel_rfl) (fun _ _ _ h => h) (by rfl) ?_ (by assumption) ?_
      rotate_left
      · (intro w hSw; (try dsimp only at hSw); go_simp) <;> with_reducible rfl
      simp only [Act.put, List.setIfInBounds_toArray, List.set_cons_zero, List.set_cons_succ]
      refine late_take 1 (.succ .zero) (v := ?_) (by kernel_rfl) (by kernel_rfl) (by kernel_rfl) (by kernel_rfl) (fun _ _ _ h => h) (by rfl) ?_ (by assumption) ?_
      rotate_left
      · (intro w hSw; (try dsimp only at hSw); go_simp) <;> with_reducible rfl
      simp only [Act.put, List.setIfInBounds_toArray, List.set_cons_zero, List.set_cons_succ]
      refine late_take 2 (.succ (.succ .zero)) (v := ?_) (by kernel_rfl) (by kernel_rfl) (by kernel_rfl) (by kernel_rfl) (fun _ _ _ h => h) (by rfl) ?_ (by assumption) ?_
      rotate_left
      · (intro w hSw; (try dsimp only at hSw); go_simp) <;> with_reducible rfl
      simp only [Act.put, List.setIfInBounds_toArray, List.set_cons_zero, List.set_cons_succ]
      refine late_take 3 (.succ (.succ (.succ .zero))) (v := ?_) (by kernel_rfl) (by kernel_rfl) (by kernel_rfl) (by kernel_rfl) (fun _ _ _ h => h) (by rfl) ?_ (by assumption) ?_
      rotate_left
      · (intro w hSw; (try dsimp only at hSw); go_simp) <;> with_reducible rfl
      simp only [Act.put, List.setIfInBounds_toArray, List.set_cons_zero, List.set_cons_succ]
      refine late_take 4 (.succ (.succ (.succ (.succ .zero)))) (v := ?_) (by kernel_rfl) (by kernel_rfl) (by kernel_rfl) (by kernel_rfl) (fun _ _ _ h => h) (by rfl) ?_ (by assumption) ?_
      rotate_left
      · (intro w hSw; (try dsimp only at hSw); go_simp) <;> with_reducible rfl
      simp only [Act.put, List.setIfInBounds_toArray, List.set_cons_zero, List.set_cons_succ]
      refine late_take 5 (.succ (.succ (.succ (.succ (.succ .zero))))) (v := ?_) (by kernel_rfl) (by kernel_rfl) (by kernel_rfl) (by kernel_rfl) (fun _ _ _ h => h) (by rfl) ?_ (by assumption) ?_
      rotate_left
      · (intro w hSw; (try dsimp only at hSw); go_simp) <;> with_reducible rfl
      simp only [Act.put, List.setIfInBounds_toArray, List.set_cons_zero, List.set_cons_succ]
      refine late_take 6 (.succ (.succ (.succ (.succ (.succ (.succ .zero)))))) (v := ?_) (by kernel_rfl) (by kernel_rfl) (by kernel_rfl) (by kernel_rfl) (fun _ _ _ h => h) (by rfl) ?_ (by assumption) ?_
      rotate_left
      · (intro w hSw; (try dsimp only at hSw); go_simp) <;> with_reducible rfl
      simp only [Act.put, List.setIfInBounds_toArray, List.set_cons_zero, List.set_cons_succ]
      refine late_take 7 (.succ (.succ (.succ (.succ (.succ (.succ (.succ .zero))))))) (v := ?_) (by kernel_rfl) (by kernel_rfl) (by kernel_rfl) (by kernel_rfl) (fun _ _ _ h => h) (by rfl) ?_ (by assumption) ?_
      rotate_left
      · (intro w hSw; (try dsimp only at hSw); go_simp) <;> with_reducible rfl
      simp only [Act.put, List.setIfInBounds_toArray, List.set_cons_zero, List.set_cons_succ]
      refine late_take 8 (.succ (.succ (.succ (.succ (.succ (.succ (.succ (.succ .zero)))))))) (v := ?_) (by kernel_rfl) (by kernel_rfl) (by kernel_rfl) (by kernel_rfl) (fun _ _ _ h => h) (by rfl) ?_ (by assumption) ?_
      rotate_left
      · (intro w hSw; (try dsimp only at hSw); go_simp) <;> with_reducible rfl
      simp only [Act.put, List.setIfInBounds_toArray, List.set_cons_zero, List.set_cons_succ]
      refine late_take 9 (.succ (.succ (.succ (.succ (.succ (.succ (.succ (.succ (.succ .zero))))))))) (v := ?_) (by kernel_rfl) (by kernel_rfl) (by kernel_rfl) (by kernel_rfl) (fun _ _ _ h => h) (by rfl) ?_ (by assumption) ?_
      rotate_left
      · (intro w hSw; (try dsimp only at hSw); go_simp) <;> with_reducible rfl
      simp only [Act.put, List.setIfInBounds_toArray, List.set_cons_zero, List.set_cons_succ]
      refine late_take 10 (.succ (.succ (.succ (.succ (.succ (.succ (.succ (.succ (.succ (.succ .zero)))))))))) (v := ?_) (by kernel_rfl) (by kernel_rfl) (by kernel_rfl) (by kernel_rfl) (fun _ _ _ h => h) (by rfl) ?_ (by assumption) ?_
      rotate_left
      · (intro w hSw; (try dsimp only at hSw); go_simp) <;> with_reducible rfl
      simp only [Act.put, List.setIfInBounds_toArray, List.set_cons_zero, List.set_cons_succ]
      refine late_take 11 (.succ (.succ (.succ (.succ (.succ (.succ (.succ (.succ (.succ (.succ (.succ .zero))))))))))) (v := ?_) (by kernel_rfl) (by kernel_rfl) (by kernel_rfl) (by kernel_rfl) (fun _ _ _ h => h) (by rfl) ?_ (by assumption) ?_
      rotate_left
      · (intro w hSw; (try dsimp only at hSw); go_simp) <;> with_reducible rfl
      simp only [Act.put, List.setIfInBounds_toArray, List.set_cons_zero, List.set_cons_succ]
      refine late_take 12 (.succ (.succ (.succ (.succ (.succ (.succ (.succ (.succ (.succ (.succ (.succ (.succ .zero)))))))))))) (v := ?_) (by kernel_rfl) (by kernel_rfl) (by kernel_rfl) (by kernel_rfl) (fun _ _ _ h => h) (by rfl) ?_ (by assumption) ?_
      rotate_left
      · (intro w hSw; (try dsimp only at hSw); go_simp) <;> with_reducible rfl
      simp only [Act.put, List.setIfInBounds_toArray, List.set_cons_zero, List.set_cons_succ]
      refine late_take 13 (.succ (.succ (.succ (.succ (.succ (.succ (.succ (.succ (.succ (.succ (.succ (.succ (.succ .zero))))))))))))) (v := ?_) (by kernel_rfl) (by kernel_rfl) (by kernel_rfl) (by kernel_rfl) (fun _ _ _ h => h) (by rfl) ?_ (by assumption) ?_
      rotate_left
      · (intro w hSw; (try dsimp only at hSw); go_simp) <;> with_reducible rfl
      simp only [Act.put, List.setIfInBounds_toArray, List.set_cons_zero, List.set_cons_succ]
      refine late_one 14 (.succ (.succ (.succ (.succ (.succ (.succ (.succ (.succ (.succ (.succ (.succ (.succ (.succ (.succ .zero)))))))))))))) (by kernel_rfl) (fun K hK => ?_)
      (refine step_l1Over (by rfl) 27 33 39 (by rfl) (.slice a' n c') (.int .i64 s) (.slice ad 64 cp) (by rfl) (by rfl) (by rfl) ?_; refine (l1Over_any a' ad n c' cp s (syncTo d S F k) (F k) wr.drew HRD.out E3.out hfit hn hc1' hc2').mono ?_; rintro e w4 ⟨a4, c4, he, ho4, hb4, hl4, hm4⟩; refine ⟨_, he, ?_⟩; clear he; obtain ⟨⟨k0, k1, k2, k3⟩, kf, kl⟩ := HC.out w4 hb4)
      refine hK.out _ _ ?_ (fun hHeld2 => ?_)
      · (intro _; (try dsimp only); go_keep)
      clear hK K
      replace hHeld := hHeld2 (by decide)
      clear hHeld2
      try simp only [Act.put, List.setIfInBounds_toArray, List.set_cons_zero, List.set_cons_succ]
      refine late_take 15 (.succ (.succ (.succ (.succ (.succ (.succ (.succ (.succ (.succ (.succ (.succ (.succ (.succ (.succ (.succ .zero))))))))))))))) (v := ?_) (by kernel_rfl) (by kernel_rfl) (by kernel_rfl) (by kernel_rfl) (fun _ _ _ h => h) (by rfl) ?_ (by assumption) ?_
      rotate_left
      · (intro w hSw; (try dsimp only at hSw); go_simp) <;> with_reducible rfl
      simp only [Act.put, List.setIfInBounds_toArray, List.set_cons_zero, List.set_cons_succ]
      refine late_one 16 (.succ (.succ (.succ (.succ (.succ (.succ (.succ (.succ (.succ (.succ (.succ (.succ (.succ (.succ (.succ (.succ .zero)))))))))))))))) (by kernel_rfl) (fun K hK => ?_)
      go_simp
      refine hK.out _ _ ?_ (fun hHeld2 => ?_)
      · (intro hne; exact absurd rfl hne)
      clear hK K hHeld2
      refine wpLate_done (by kernel_rfl) ?_ _
      have HY : Hid (DkRow (w4.setCell ⟨bo, 0, none⟩ (.slice a4 n c4)) bo (.slice a4 n c4) (.slice p3 m q3) (fuelAfter fuel) false ∧ OwnB (w4.setCell ⟨bo, 0, none⟩ (.slice a4 n c4)) (w.heap.size + 2) a4 n (syncTo d S F (k + 1)) ∧ n ≤ c4 ∧ c4 ≤ 9223372036854775807 ∧ Below (w.heap.size + 2) ((w.alloc (.cells #[.slice a n c, .slice (some ⟨b, o, none⟩) m q, .int .i64 fuel, .bool false] 40)).alloc (.cells #[.slice none 0 0, .slice none 0 0, .int .i64 0, .bool false] 40)) (w4.setCell ⟨bo, 0, none⟩ (.slice a4 n c4))) := by
        have hd4 : DkRow w4 bo (.slice a' n c') (.slice p3 m q3) (fuelAfter fuel) false := HRW.out.below (w' := w4) ((Below.refl _ _).drew.trans hb4)
        refine ⟨hd4.setData _, ?_, hl4, hm4, (K4.out.drew.trans (hb4.mono hzr)).setCell (by simpa using hbo) _⟩
        rw [HT.out]
        exact (ho4.mono hzr).onlyDk hd4 ((OnlyAt.refl _ _).setCell 0 _)
      clear hb4 ho4 k0 k1 k2 k3 kf kl hHeld HC E3 HRD d0 d1 d2 d3 df x1 e1 e2
      go_wp2
      go_roundw
      case rel => exact ⟨k + 1, a4, c4, by omega, by go_num, HY.out⟩
      case measure => simp [intOf]; omega
    · have e : k = m := by omega
      subst e
      obtain ⟨r0, r1, r2, r3, rf, rl⟩ := (box_res K4.out).cells
      have HF : Hid (OwnB wr (w.heap.size + 2) a' n (syncTo d S F k) ∧ Below w.heap.size w wr) := ⟨HOW.out, HFIN.out _ K4.out⟩
      go_wp2
      have DR : Hid (DkRow ((set4 (wr.setCell ⟨bo, 1, none⟩ (.slice (some ⟨wr.heap.size, 0, none⟩) 0 0)) (w.heap.size + 1) (.slice a' n c') (.slice (some ⟨wr.heap.size, 0, none⟩) 0 0) (fuelAfter fuel) false).alloc (.cells #[] 86)) (w.heap.size + 1) (.slice a' n c') (.slice (some ⟨wr.heap.size, 0, none⟩) 0 0) (fuelAfter fuel) false) := (dk_set4 ((box_res K4.out).setOther (by simp; omega) _)).below (below_alloc _ _)
      obtain ⟨y0, y1, y2, y3, yf, yl⟩ := DR.out.cells
      unfold set4 at y0 y1 y2 y3
      clear r0 r1 r2 r3 rf d0 d1 d2 d3 df
      refine bodyPost_ret (v := .agg #[.slice a' n c', .slice (some ⟨wr.heap.size, 0, none⟩) 0 0, .int .i64 (fuelAfter fuel), .bool false]) (by simp [results, Try.results38, go_sem, y0, y1, y2, y3]) rfl ⟨a', c', some ⟨wr.heap.size, 0, none⟩, 0, fun _ => none, rfl, ⟨?_, Or.inl rfl, fun _ i hi => absurd hi (Nat.not_lt_zero _)⟩, ?_⟩
      · exact ((((((HOW.out.onlyDk HRW.out ((OnlyAt.refl _ _).setCell 1 _)).setOther (by simp) _).setOther (by simp) _).setOther (by simp) _).setOther (by simp) _).below (below_alloc _ _)).mono (by omega)
      · exact ((((((HF.out.2.setCell (by simp; omega) _).setCell (by simp) _).setCell (by simp) _).setCell (by simp) _).setCell (by simp) _).alloc (by simpa using HF.out.2.size) _)
end Go.Proofs.Ytfbhlegkpmcfoaa
