import Derived.Test.YtocmbnocdjnfpaaMkTx
import Derived.Test.YtocmbnocdjnfpaaPnT
import Derived.Deep.CutBlock
namespace Go.Proofs.Ytocmbnocdjnfpaa
open Go.RowKit Go.Deep
set_option linter.unusedVariables false
set_option maxRecDepth 100000

theorem markText_i (x : Int) (w : World) (hk : 1 ≤ x) (hk2 : x ≤ 1073741824) :
    Calls Try.prog 69 #[.int .i64 x] w fun e w' => ∃ y, e = .returned (.string y) ∧ Below w.heap.size w w' := by
  obtain ⟨k, rfl⟩ : ∃ k : Nat, x = k := ⟨x.toNat, by omega⟩
  exact (markText_any k w (by omega) (by omega)).mono (fun e w' h => ⟨_, h⟩)
theorem grownN_trans {w w1 w2 : World} {row : Option Nat} (h : w.grownBy w1 row) (k : w1.grownBy w2 row) : w.grownBy w2 row :=
  ⟨k.os.trans h.os, k.tape.trans h.tape, k.output.trans h.output, Nat.le_trans h.size k.size, fun b hb hne => (k.block b (Nat.lt_of_lt_of_le hb h.size) hne).trans (h.block b hb hne)⟩
theorem grownN_below {w w1 : World} (h : Below w.heap.size w w1) (row : Option Nat) : w.grownBy w1 row := ⟨h.os, h.tape, h.output, h.size, fun b hb _ => h.block b hb⟩
theorem grownN_set {w : World} {g i : Nat} {v : Value} : w.grownBy (w.setCell ⟨g, i, none⟩ v) (some g) :=
  ⟨rfl, rfl, rfl, by simp, fun b hb hne => Below.heap_setCell _ _ _ _ (fun e => hne (by rw [e]))⟩

/-- A row of nodes, whatever they are. -/
def NRow (w : World) (g n : Nat) : Prop := ∃ I X R, rowIn w g 61 (n * 3) (pnCell I X R)
theorem NRow.cells {w : World} {g n j : Nat} (h : NRow w g n) (hj : j < n) : ∃ (i : Int) (x r : ByteArray), w.cell? ⟨g, j * 3, none⟩ = some (.int .i64 i) ∧ w.cell? ⟨g, j * 3 + 1, none⟩ = some (.string x) ∧ w.cell? ⟨g, j * 3 + 2, none⟩ = some (.string r) ∧ (∀ o, w.frozen? ⟨g, o, none⟩ = false) ∧ g < w.heap.size := by
  obtain ⟨I, X, R, h⟩ := h
  refine ⟨I j, X j, R j, ?_, ?_, ?_, h.frozen, h.lt⟩
  · have := h.cell (i := j * 3) (by omega); rwa [pnCell_0] at this
  · have := h.cell (i := j * 3 + 1) (by omega); rwa [pnCell_1] at this
  · have := h.cell (i := j * 3 + 2) (by omega); rwa [pnCell_2] at this
theorem NRow.below {w w' : World} {g n : Nat} (h : NRow w g n) (hb : Below w.heap.size w w') : NRow w' g n := by
  obtain ⟨I, X, R, h⟩ := h
  exact ⟨I, X, R, h.of_block (hb.block g h.lt)⟩
theorem NRow.set0 {w : World} {g n j : Nat} (h : NRow w g n) (v : Int) : NRow (w.setCell ⟨g, j * 3, none⟩ (.int .i64 v)) g n := by
  obtain ⟨I, X, R, h⟩ := h
  refine ⟨fun i => if i = j then v else I i, X, R, (h.set (j * 3) _).congr (fun c hc => ?_)⟩
  obtain ⟨q, hq⟩ : ∃ q, c = q * 3 ∨ c = q * 3 + 1 ∨ c = q * 3 + 2 := ⟨c / 3, by omega⟩
  rcases hq with rfl | rfl | rfl
  · rw [pnCell_0, pnCell_0]
    by_cases e : q = j
    · subst e; rw [if_pos rfl, if_pos rfl]
    · rw [if_neg (by omega), if_neg e]
  · rw [if_neg (by omega), pnCell_1, pnCell_1]
  · rw [if_neg (by omega), pnCell_2, pnCell_2]
theorem NRow.set1 {w : World} {g n j : Nat} (h : NRow w g n) (v : ByteArray) : NRow (w.setCell ⟨g, j * 3 + 1, none⟩ (.string v)) g n := by
  obtain ⟨I, X, R, h⟩ := h
  refine ⟨I, fun i => if i = j then v else X i, R, (h.set (j * 3 + 1) _).congr (fun c hc => ?_)⟩
  obtain ⟨q, hq⟩ : ∃ q, c = q * 3 ∨ c = q * 3 + 1 ∨ c = q * 3 + 2 := ⟨c / 3, by omega⟩
  rcases hq with rfl | rfl | rfl
  · rw [if_neg (by omega), pnCell_0, pnCell_0]
  · rw [pnCell_1, pnCell_1]
    by_cases e : q = j
    · subst e; rw [if_pos rfl, if_pos rfl]
    · rw [if_neg (by omega), if_neg e]
  · rw [if_neg (by omega), pnCell_2, pnCell_2]
theorem NRow.set2 {w : World} {g n j : Nat} (h : NRow w g n) (v : ByteArray) : NRow (w.setCell ⟨g, j * 3 + 2, none⟩ (.string v)) g n := by
  obtain ⟨I, X, R, h⟩ := h
  refine ⟨I, X, fun i => if i = j then v else R i, (h.set (j * 3 + 2) _).congr (fun c hc => ?_)⟩
  obtain ⟨q, hq⟩ : ∃ q, c = q * 3 ∨ c = q * 3 + 1 ∨ c = q * 3 + 2 := ⟨c / 3, by omega⟩
  rcases hq with rfl | rfl | rfl
  · rw [if_neg (by omega), pnCell_0, pnCell_0]
  · rw [if_neg (by omega), pnCell_1, pnCell_1]
  · rw [pnCell_2, pnCell_2]
    by_cases e : q = j
    · subst e; rw [if_pos rfl, if_pos rfl]
    · rw [if_neg (by omega), if_neg e]

set_option maxHeartbeats 2000000 in
theorem markPNodeS_any (g n c : Nat) (w : World) (h : NRow w g n) (hn : n ≤ 1048577) :
    Calls Try.prog 51 #[.slice (some ⟨g, 0, none⟩) n c, .int .i64 1] w fun e w' => e = .returned (.int .i64 (1 + 3 * (n : Int))) ∧ w.grownBy w' (some g) := by
  have HR : Hid (NRow w g n) := h
  clear h
  go_enter Try.func51, Try.ntmps51
  go_wp2
  go_loopw [1, 5] (fun q i wr => ∃ (j : Nat) (x : Int), j ≤ n ∧ i = .int .i64 j ∧ q = .int .i64 x ∧ x = 1 + 3 * (j : Int) ∧ NRow wr g n ∧ w.grownBy wr (some g)) (fun _ i _ => n - (intOf i).toNat)
  case atStart => exact ⟨0, 1, Nat.zero_le _, rfl, rfl, by omega, HR.out, ⟨rfl, rfl, rfl, Nat.le_refl _, fun _ _ _ => rfl⟩⟩
  case round =>
    obtain ⟨j, x, hj, rfl, rfl, hx, hrow, hgr⟩ := hrel
    have HX : Hid (x = 1 + 3 * (j : Int)) := hx
    have HW : Hid (NRow wr g n ∧ w.grownBy wr (some g)) := ⟨hrow, hgr⟩
    have hx0 : 0 ≤ x := by omega
    have hx1 : x ≤ 3145732 := by omega
    clear hx hrow hgr
    by_cases hlt : j < n
    · obtain ⟨i0, x0, r0, c0, c1, c2, hfz, hgl⟩ := HW.out.1.cells hlt
      obtain ⟨W1, hW1⟩ : ∃ W1, W1 = wr.setCell ⟨g, j * 3, none⟩ (.int .i64 x) := ⟨_, rfl⟩
      have HW1 : Hid (NRow W1 g n ∧ w.grownBy W1 (some g)) := by
        rw [hW1]
        exact ⟨HW.out.1.set0 x, grownN_trans HW.out.2 grownN_set⟩
      clear c1 c2
      go_upto_region 6 with fail
      rw [← hW1]
      clear hW1 c0 hfz hgl HW i0 x0 r0
      go_wp2_with fail
      refine (markText_i (x + 1) W1 (by omega) (by omega)).mono ?_
      rintro e w2 ⟨y2, rfl, hb2⟩
      have HW2 : Hid (NRow w2 g n ∧ w.grownBy w2 (some g)) := ⟨HW1.out.1.below hb2, grownN_trans HW1.out.2 (grownN_below hb2 _)⟩
      clear hb2 HW1
      obtain ⟨i0, x0, r0, c0, c1, c2, hfz, hgl⟩ := HW2.out.1.cells hlt
      obtain ⟨W3, hW3⟩ : ∃ W3, W3 = w2.setCell ⟨g, j * 3 + 1, none⟩ (.string y2) := ⟨_, rfl⟩
      have HW3 : Hid (NRow W3 g n ∧ w.grownBy W3 (some g)) := by
        rw [hW3]
        exact ⟨HW2.out.1.set1 y2, grownN_trans HW2.out.2 grownN_set⟩
      clear c0 c2
      go_upto_region 8 with fail
      rw [← hW3]
      clear hW3 c1 hfz hgl HW2 i0 x0 r0
      go_wp2_with fail
      refine (markText_i (x + 1 + 1) W3 (by omega) (by omega)).mono ?_
      rintro e w4 ⟨y4, rfl, hb4⟩
      have HW4 : Hid (NRow w4 g n ∧ w.grownBy w4 (some g)) := ⟨HW3.out.1.below hb4, grownN_trans HW3.out.2 (grownN_below hb4 _)⟩
      clear hb4 HW3
      obtain ⟨i0, x0, r0, c0, c1, c2, hfz, hgl⟩ := HW4.out.1.cells hlt
      have HZ : Hid (NRow (w4.setCell ⟨g, j * 3 + 2, none⟩ (.string y4)) g n ∧ w.grownBy (w4.setCell ⟨g, j * 3 + 2, none⟩ (.string y4)) (some g)) := ⟨HW4.out.1.set2 y4, grownN_trans HW4.out.2 grownN_set⟩
      clear c0 c1 HW4
      go_wp2
      go_roundw
      case rel => exact ⟨j + 1, _, by omega, by go_num, rfl, by rw [HX.out]; omega, HZ.out⟩
      case measure => simp [intOf]; omega
    · obtain rfl : j = n := by omega
      go_wp2
      go_ret
      exact ⟨by rw [HX.out]; rfl, HW.out.2⟩
set_option maxHeartbeats 400000 in
theorem markPath_any (g n c : Nat) (w : World) (h : NRow w g n) (hn : n ≤ 1048577) :
    Calls Try.prog 17 #[.agg #[.slice (some ⟨g, 0, none⟩) n c], .int .i64 1] w fun e w' => e = .returned (.int .i64 (1 + 3 * (n : Int))) ∧ w.grownBy w' (some g) := by
  have HR : Hid (NRow w g n) := h
  clear h
  go_enter Try.func17, Try.ntmps17
  go_wp2_with fail
  refine (markPNodeS_any g n c _ (HR.out.below (below_alloc _ _)) hn).mono ?_
  rintro e w1 ⟨rfl, hg⟩
  have HG : Hid (w.grownBy w1 (some g)) := grownN_trans (grownN_below (below_alloc _ _) _) hg
  clear hg
  go_wp2
  go_ret
  exact ⟨rfl, HG.out⟩
end Go.Proofs.Ytocmbnocdjnfpaa
