import Derived.Test.YtfcffpgiijnmjaaRows
import Derived.Test.YtfcffpgiijnmjaaOwn
import Derived.WalkKit
import Derived.Deep.OwnRows
import Derived.Deep.Upon
import Derived.Deep.RegionHeld3
import Derived.Deep.CutRange
import Derived.Handy
namespace Go.Proofs.Ytfcffpgiijnmjaa
open Go.RowKit Go.Deep
set_option linter.unusedVariables false
set_option maxRecDepth 100000

theorem infoStr : (Try.prog.info? 9).map (fun i => (i.zero, i.size, i.bytes)) = some (some (.string { data := #[] }), 1, 16) := by kernel_rfl

/-- Nothing appended to strings. -/
theorem wpList_append_none {w : World} {ops : Array Oper} {rest : List Oper} {o : Oper} {act : Act} {Q : Exit → Act → World → Prop} (hgd : o.guard = none) (s x : Operand)
    (ho : o.op = .call { callee := .builtin .append, args := #[s, x], argTypes := #[67, 67] }) (b : Option Addr) (l cap : Nat) (hlc : l ≤ cap) (hs : act.eval s = .slice b l cap) (a : Option Addr) (c : Nat) (hx : act.eval x = .slice a 0 c)
    (h : wpList Try.prog ops Q rest (act.put o.dst (.slice b l cap)) w) : wpList Try.prog ops Q (o :: rest) act w := by
  obtain ⟨i0, hi, hz0, hz1, hz2⟩ := info_parts infoStr
  have hsrc : Src Try.prog i0.size 67 (.slice a 0 c) 0 [] w := by
    cases a with
    | none => exact Src.ofNil w Try.underlying67 c
    | some ad => exact Src.ofSlice w Try.underlying67 ad 0 c [] (by simp) (by simp) (by simp)
  have hrun := run_append_nothing (P := Try.prog) w 67 67 o.type 9 i0 Try.underlying67 hi b l cap hlc (.slice a 0 c) hsrc
  refine wpList_plain hgd fun K hK => ?_
  unfold Oper.wp
  simp [execOp, ho, resolve, invoke, builtin, hs, hx, hrun, Result.andThen]
  exact hK _ _ h

set_option maxHeartbeats 400000 in
theorem l3Keys_new (w : World) :
    Calls Try.prog 58 #[.agg #[.bool true, .slice none 0 0, .slice none 0 0]] w fun e w' => (∃ a, e = .returned (.slice a 0 0)) ∧ Below w.heap.size w w' := by
  go_enter Try.func58, Try.ntmps58
  go_wp2_with (at_builtin; refine wpList_append_none rfl _ _ rfl _ 0 0 (Nat.le_refl _) rfl none 0 rfl ?_)
  go_wp2
  go_ret
  exact ⟨⟨_, rfl⟩, ((below_alloc _ _).trans ((below_alloc _ _).mono (by simp)))⟩

set_option maxHeartbeats 400000 in
theorem copyStr_nil (w : World) :
    Calls Try.prog 112 #[.slice none 0 0] w fun e w' => e = .returned (.slice none 0 0) ∧ w' = w := by
  go_enter Try.func112, Try.ntmps112
  go_wp2_with (at_builtin; refine wpList_append_none rfl _ _ rfl none 0 0 (Nat.le_refl _) rfl none 0 rfl ?_)
  go_wp2
  go_ret
  exact ⟨rfl, rfl⟩

set_option maxHeartbeats 400000 in
theorem below_new (b : Nat) (w : World) (h : w.cell? ⟨b, 0, none⟩ = some (.int .i64 0)) :
    Calls Try.prog 113 #[.pointer (some ⟨b, 0, none⟩)] w fun e w' => e = .returned (.int .i64 0) ∧ w' = w := by
  go_enter Try.func113, Try.ntmps113
  go_wp2
  go_ret
  exact ⟨rfl, rfl⟩

/-- The cells of an empty leaf. -/
def leafCell (a : Option Addr) (i : Nat) : Value := if i = 0 then .bool true else if i = 1 then .slice a 0 0 else if i = 2 then .slice none 0 0 else .int .i64 0

/-- A list of one empty leaf. -/
def OneS (w : World) (B : Nat) (v : Value) : Prop := ∃ g a c, v = .slice (some ⟨g, 0, none⟩) 1 c ∧ B ≤ g ∧ rowIn w g 96 4 (leafCell a)

theorem leafNew (W : World) (a : Option Addr) : rowIn (W.alloc (.cells #[.bool true, .slice a 0 0, .slice none 0 0, .int .i64 0] 96)) W.heap.size 96 4 (leafCell a) := by
  refine ⟨_, blk_alloc_new _ _, by simp, fun i hi => ?_⟩
  match i, hi with
  | 0, _ => rfl
  | 1, _ => rfl
  | 2, _ => rfl
  | 3, _ => rfl

theorem leafCells {w : World} {b : Nat} {a : Option Addr} (h : rowIn w b 96 4 (leafCell a)) :
    w.cell? ⟨b, 0, none⟩ = some (.bool true) ∧ w.cell? ⟨b, 1, none⟩ = some (.slice a 0 0) ∧ w.cell? ⟨b, 2, none⟩ = some (.slice none 0 0) ∧ w.cell? ⟨b, 3, none⟩ = some (.int .i64 0) ∧ (∀ o, w.frozen? ⟨b, o, none⟩ = false) ∧ b < w.heap.size :=
  ⟨by simpa [leafCell] using rowIn.cell h (i := 0) (by omega), by simpa [leafCell] using rowIn.cell h (i := 1) (by omega), by simpa [leafCell] using rowIn.cell h (i := 2) (by omega), by simpa [leafCell] using rowIn.cell h (i := 3) (by omega), fun o => rowIn.frozen h o, rowIn.lt h⟩

set_option maxHeartbeats 1000000 in
theorem l3Flat_new (w : World) :
    Calls Try.prog 43 #[.agg #[.bool true, .slice none 0 0, .slice none 0 0], .int .i64 0] w fun e w' => (∃ v, e = .returned v ∧ OneS w' w.heap.size v) ∧ Below w.heap.size w w' := by
  have HC1 : Hid (∀ w1 : World, Below (w.alloc (.cells #[.bool true, .slice none 0 0, .slice none 0 0] 70)).drew.heap.size (w.alloc (.cells #[.bool true, .slice none 0 0, .slice none 0 0] 70)).drew w1 → w1.cell? ⟨w.heap.size, 0, none⟩ = some (.bool true) ∧ w1.cell? ⟨w.heap.size, 1, none⟩ = some (.slice none 0 0) ∧ w1.cell? ⟨w.heap.size, 2, none⟩ = some (.slice none 0 0)) := by
    intro w1 hb
    refine ⟨?_, ?_, ?_⟩ <;> (rw [hb.cell (by simp)]; simp)
  have HC2 : Hid (∀ w1 : World, Below ((w.alloc (.cells #[.bool true, .slice none 0 0, .slice none 0 0] 70)).alloc (.cells #[.bool false, .slice none 0 0, .slice none 0 0, .int .i64 0] 96)).drew.heap.size ((w.alloc (.cells #[.bool true, .slice none 0 0, .slice none 0 0] 70)).alloc (.cells #[.bool false, .slice none 0 0, .slice none 0 0, .int .i64 0] 96)).drew w1 → w1.cell? ⟨w.heap.size, 0, none⟩ = some (.bool true) ∧ w1.cell? ⟨w.heap.size, 1, none⟩ = some (.slice none 0 0) ∧ w1.cell? ⟨w.heap.size, 2, none⟩ = some (.slice none 0 0) ∧ w1.cell? ⟨w.heap.size + 1, 0, none⟩ = some (.bool false) ∧ w1.cell? ⟨w.heap.size + 1, 1, none⟩ = some (.slice none 0 0) ∧ w1.cell? ⟨w.heap.size + 1, 2, none⟩ = some (.slice none 0 0) ∧ w1.cell? ⟨w.heap.size + 1, 3, none⟩ = some (.int .i64 0) ∧ (∀ o, w1.frozen? ⟨w.heap.size + 1, o, none⟩ = false) ∧ w.heap.size + 1 < w1.heap.size) := by
    intro w1 hb
    have hs := hb.size
    simp at hs
    refine ⟨?_, ?_, ?_, ?_, ?_, ?_, ?_, fun o => ?_, by omega⟩
    all_goals first
      | (rw [hb.cell (by simp <;> omega)]; simp)
      | (rw [hb.cell (by simp)]; simp)
      | (rw [hb.frozen (by simp)]; simp)
  go_enter Try.func43, Try.ntmps43
  go_wp2
  go_cut [5] from 8 to 13 (fun s5 wx => ∃ bo, s5 = .pointer (some ⟨bo, 0, none⟩) ∧ w.heap.size + 1 ≤ bo ∧ rowIn wx bo 96 4 (leafCell none) ∧ Below (w.heap.size + 1) (w.alloc (.cells #[.bool true, .slice none 0 0, .slice none 0 0] 70)) wx)
  case first =>
    go_region_held3 (fun w' => w'.cell? ⟨w.heap.size, 0, none⟩ = some (.bool true) ∧ w'.cell? ⟨w.heap.size, 1, none⟩ = some (.slice none 0 0) ∧ w'.cell? ⟨w.heap.size, 2, none⟩ = some (.slice none 0 0)) (go_keep)
      (first
      | (go_at_call 58; refine (l3Keys_new (w.alloc (.cells #[.bool true, .slice none 0 0, .slice none 0 0] 70)).drew).mono ?_; rintro e w1 ⟨⟨a1, rfl⟩, hb1⟩; obtain ⟨k0, k1, k2⟩ := HC1.out w1 hb1)
      | (go_at_call 58; refine (l3Keys_new ((w.alloc (.cells #[.bool true, .slice none 0 0, .slice none 0 0] 70)).alloc (.cells #[.bool false, .slice none 0 0, .slice none 0 0, .int .i64 0] 96)).drew).mono ?_; rintro e w1 ⟨⟨a1, rfl⟩, hb1⟩; obtain ⟨k0, k1, k2, r0, r1, r2, r3, rf, rl⟩ := HC2.out w1 hb1))
    · go_wp2
      go_meet
      case rel => exact ⟨_, rfl, by have := hb1.size; simp at this; omega, leafNew _ _, ((Below.refl _ _).drew.trans (hb1.mono (by simp))).alloc (by have := hb1.size; simp at this; omega) _⟩
    · go_wp2
      go_meet
      case rel =>
        have hr : rowIn w1 (w.heap.size + 1) 96 4 (fun i => if i = 0 then .bool false else leafCell none i) := by
          refine rowIn.of_block (w := (w.alloc (.cells #[.bool true, .slice none 0 0, .slice none 0 0] 70)).alloc (.cells #[.bool false, .slice none 0 0, .slice none 0 0, .int .i64 0] 96)) ⟨#[.bool false, .slice none 0 0, .slice none 0 0, .int .i64 0], ?_, by simp, fun i hi => ?_⟩ (hb1.block _ (by simp))
          · have := blk_alloc_new (w.alloc (.cells #[.bool true, .slice none 0 0, .slice none 0 0] 70)) (.cells #[.bool false, .slice none 0 0, .slice none 0 0, .int .i64 0] 96)
            rw [show (w.alloc (.cells #[.bool true, .slice none 0 0, .slice none 0 0] 70)).heap.size = w.heap.size + 1 by simp] at this
            exact this
          · match i, hi with
            | 0, _ => rfl
            | 1, _ => rfl
            | 2, _ => rfl
            | 3, _ => rfl
        have hb2 : Below (w.heap.size + 1) (w.alloc (.cells #[.bool true, .slice none 0 0, .slice none 0 0] 70)) w1 := by
          refine Below.trans ?_ (hb1.mono (by simp))
          exact (Below.alloc (Below.refl _ _) (by simp) _).drew
        refine ⟨_, rfl, Nat.le_refl _, ?_, (((hb2.setCell (by simp) _).setCell (by simp) _).setCell (by simp) _).setCell (by simp) _⟩
        refine (rowIn.set (rowIn.set (rowIn.set (rowIn.set hr 0 _) 1 _) 2 _) 3 _).congr (fun i hi => ?_)
        match i, hi with
        | 0, _ => simp [leafCell]
        | 1, _ => simp [leafCell]
        | 2, _ => simp [leafCell]
        | 3, _ => simp [leafCell]
  case rest =>
    obtain ⟨bo, rfl, hbo, hrow, hbel⟩ := hcut
    clear HC1 HC2
    have HR : Hid (rowIn wc bo 96 4 (leafCell none)) := hrow
    have HB : Hid (Below (w.heap.size + 1) (w.alloc (.cells #[.bool true, .slice none 0 0, .slice none 0 0] 70)) wc) := hbel
    have c0 : wc.cell? ⟨w.heap.size, 0, none⟩ = some (.bool true) := by rw [hbel.cell (by simp)]; simp
    have c1 : wc.cell? ⟨w.heap.size, 1, none⟩ = some (.slice none 0 0) := by rw [hbel.cell (by simp)]; simp
    obtain ⟨d0, d1, d2, d3, df, dl⟩ := leafCells hrow
    have hz : w.heap.size + 1 ≤ wc.heap.size := by have := hbel.size; simpa using this
    have hz0 : w.heap.size < wc.heap.size := by omega
    clear hrow hbel
    go_wp2_with (at_builtin; refine wpList_append_none rfl _ _ rfl _ 0 0 (Nat.le_refl _) rfl none 0 rfl ?_)
    go_wp2
    go_ret
    have hl := leafNew ((wc.setCell ⟨bo, 1, none⟩ (.slice (some ⟨wc.heap.size, 0, none⟩) 0 0)).alloc (.cells #[] 9)) (some ⟨wc.heap.size, 0, none⟩)
    rw [show ((wc.setCell ⟨bo, 1, none⟩ (.slice (some ⟨wc.heap.size, 0, none⟩) 0 0)).alloc (.cells #[] 9)).heap.size = wc.heap.size + 1 by simp] at hl
    refine ⟨⟨_, rfl, _, _, _, rfl, by omega, hl⟩, ?_⟩
    have q : Below w.heap.size w wc := (below_alloc _ _).trans (HB.out.mono (by omega))
    exact (((q.setCell (by simp; omega) _).alloc (by simp; omega) _).alloc (by simp; omega) _)

theorem infoTN : (Try.prog.info? 96).map (fun i => (i.zero, i.size, i.bytes)) = some (some (.agg #[.bool false, .slice none 0 0, .slice none 0 0, .int .i64 0]), 4, 64) := by kernel_rfl
theorem underTN : Try.prog.underlying 40 = some (.slice 96) := by kernel_rfl

/-- 'append' of one leaf to nothing, as a step of a region that draws its order. -/
theorem step_append_leaf {ops : Array Oper} {o : Oper} {a : Act} {w2 : World} {K : Act → World → Prop} {Q : Exit → Act → World → Prop} {E : Prop} (hgd : o.guard = none) (x y : Operand)
    (ho : o.op = .call { callee := .builtin .append, args := #[x, y], argTypes := #[40, 40] }) (hx : a.eval x = .slice none 0 0) (p : Option Addr) (hy : a.eval y = .slice (some ⟨w2.heap.size, 0, none⟩) 1 1)
    (h : ∀ v' w', OneS w' w2.heap.size v' → Below w2.heap.size w2 w' → K (a.put o.dst v') w') :
    if Region.wanted o (yielded ops a.tmps) = true then Oper.wp Try.prog o a (w2.alloc (.cells #[.bool true, .slice p 0 0, .slice none 0 0, .int .i64 0] 96)) K Q else E := by
  have hw : Region.wanted o (yielded ops a.tmps) = true := by simp [Region.wanted, hgd]
  rw [if_pos hw]
  obtain ⟨i0, hi, hz0, hz1, hz2⟩ := info_parts infoTN
  refine wp_append_own _ x y 40 ho w2.heap.size 96 i0 _ 4 64 underTN hi hz0 hz1 hz2 rfl (by decide) (.slice none 0 0) 0 [] hx (World.ownsRow_nil _ _ _ _) ⟨w2.heap.size, 0, none⟩ 1 1 [.bool true, .slice p 0 0, .slice none 0 0, .int .i64 0] hy rfl ?_ ?_ (by unfold maxLen; omega) (by omega) (by simp) (fun v' w' q1 q2 _ => ?_)
  · intro j u hj
    match j, hj with
    | 0, hj => simp at hj; subst hj; simp [Addr.add]
    | 1, hj => simp at hj; subst hj; simp [Addr.add]
    | 2, hj => simp at hj; subst hj; simp [Addr.add]
    | 3, hj => simp at hj; subst hj; simp [Addr.add]
    | j + 4, hj => simp at hj
  · intro u hu
    simp at hu
    rcases hu with rfl | rfl | rfl | rfl <;> rfl
  · refine h v' w' ?_ ((below_alloc _ _).grown q2 (by simp) (fun k e => by simp [Value.ownBlock] at e))
    rcases q1.2 with ⟨_, h0⟩ | ⟨g, cap, cur, hv, hg, hh, h1, h2, h3, h4⟩
    · omega
    · refine ⟨g, p, cap, hv, hg, cur, hh, by omega, fun i hi => ?_⟩
      have e : cur[i]? = (cur.toList.take (1 * 4))[i]? := by rw [List.getElem?_take, if_pos (by omega)]; simp
      rw [Nat.zero_add] at h4
      rw [e, h4]
      match i, hi with
      | 0, _ => rfl
      | 1, _ => rfl
      | 2, _ => rfl
      | 3, _ => rfl

set_option maxHeartbeats 1000000 in
theorem tell_new (b : Nat) (w : World) (h0 : w.cell? ⟨b, 0, none⟩ = some (.int .i64 0)) (h1 : w.cell? ⟨b, 1, none⟩ = some (.slice none 0 0)) :
    Calls Try.prog 111 #[.pointer (some ⟨b, 0, none⟩), .slice none 0 0] w fun e w' => (∃ v, e = .returned v ∧ OneS w' w.heap.size v) ∧ Below w.heap.size w w' := by
  have H0 : Hid (w.drew.cell? ⟨b, 0, none⟩ = some (.int .i64 0)) := h0
  have HC : Hid (∀ w3 : World, Below w.drew.heap.size w.drew w3 → w3.cell? ⟨b, 0, none⟩ = some (.int .i64 0) ∧ w3.cell? ⟨b, 1, none⟩ = some (.slice none 0 0)) := fun w3 hb =>
    ⟨(hb.cell (p := ⟨b, 0, none⟩) (World.block_lt_of_cell? _ _ h0)).trans h0, (hb.cell (p := ⟨b, 1, none⟩) (World.block_lt_of_cell? _ _ h1)).trans h1⟩
  go_enter Try.func111, Try.ntmps111
  go_wp2
  go_region_held3 (fun w' => w'.cell? ⟨b, 0, none⟩ = some (.int .i64 0) ∧ w'.cell? ⟨b, 1, none⟩ = some (.slice none 0 0)) (go_keep)
    (first
    | (go_at_call 112; refine (copyStr_nil w.drew).mono ?_; rintro e w1 ⟨rfl, rfl⟩)
    | (go_at_call 113; refine (below_new b w.drew H0.out).mono ?_; rintro e w1 ⟨rfl, rfl⟩)
    | (refine step_append_leaf (w2 := w.drew) (by rfl) (.tmp 5) (.tmp 16) (by rfl) (by rfl) none (by rfl) ?_; intro v3 w3 h3 hb3; obtain ⟨y0, y1⟩ := HC.out w3 hb3))
  all_goals
    go_wp2
    go_ret
    exact ⟨⟨_, rfl, h3⟩, (Below.refl _ _).drew.trans hb3⟩

set_option maxHeartbeats 1000000 in
theorem tellTree_new (b : Nat) (w : World) (h0 : w.cell? ⟨b, 0, none⟩ = some (.int .i64 0)) (h1 : w.cell? ⟨b, 1, none⟩ = some (.slice none 0 0)) :
    Calls Try.prog 44 #[.iface 72 (.pointer (some ⟨b, 0, none⟩))] w fun e w' => (∃ v, e = .returned (.agg #[v]) ∧ OneS w' w.heap.size v) ∧ Below w.heap.size w w' := by
  have hb := World.block_lt_of_cell? _ _ h0
  have H : Hid (∀ o : Obj, (w.alloc o).cell? ⟨b, 0, none⟩ = some (.int .i64 0) ∧ (w.alloc o).cell? ⟨b, 1, none⟩ = some (.slice none 0 0)) := fun o => ⟨((below_alloc w o).cell (p := ⟨b, 0, none⟩) hb).trans h0, ((below_alloc w o).cell (p := ⟨b, 1, none⟩) hb).trans h1⟩
  go_enter Try.func44, Try.ntmps44
  go_wp2_with fail
  refine (tell_new b _ (H.out _).1 (H.out _).2).mono ?_
  clear h0 h1 H
  rintro e w1 ⟨⟨v, rfl, h1⟩, hb1⟩
  obtain ⟨g, a, c, rfl, hg, hrow⟩ := h1
  rw [World.size_alloc] at hg hb1
  have r0 : w1.cell? ⟨w.heap.size, 0, none⟩ = some (.slice none 0 0) := by rw [hb1.cell (by simp)]; simp
  have rf : ∀ o, w1.frozen? ⟨w.heap.size, o, none⟩ = false := fun o => by rw [hb1.frozen (by simp)]; simp
  have hz : w.heap.size < w1.heap.size := by have := hb1.size; simp at this; omega
  have HX : Hid (rowIn w1 g 96 4 (leafCell a) ∧ Below w.heap.size w w1) := ⟨hrow, (below_alloc _ _).trans (hb1.mono (by omega))⟩
  clear hrow hb1
  go_wp2
  refine bodyPost_ret (v := .agg #[.slice (some ⟨g, 0, none⟩) 1 c]) (by simp [results, Try.results44, go_sem, r0]) rfl ⟨⟨_, rfl, g, a, c, rfl, by omega, HX.out.1.setOther (by simp; omega) _⟩, HX.out.2.setCell (by simp) _⟩

set_option maxHeartbeats 1000000 in
theorem specTree_new (w : World) :
    Calls Try.prog 22 #[] w fun e w' => (∃ v, e = .returned (.agg #[v]) ∧ OneS w' w.heap.size v) ∧ Below w.heap.size w w' := by
  go_enter Try.func22, Try.ntmps22
  go_wp2_with fail
  refine (l3Flat_new _).mono ?_
  rintro e w1 ⟨⟨v, rfl, h1⟩, hb1⟩
  obtain ⟨g, a, c, rfl, hg, hrow⟩ := h1
  rw [World.size_alloc] at hg hb1
  have r0 : w1.cell? ⟨w.heap.size, 0, none⟩ = some (.slice none 0 0) := by rw [hb1.cell (by simp)]; simp
  have rf : ∀ o, w1.frozen? ⟨w.heap.size, o, none⟩ = false := fun o => by rw [hb1.frozen (by simp)]; simp
  have hz : w.heap.size < w1.heap.size := by have := hb1.size; simp at this; omega
  have HX : Hid (rowIn w1 g 96 4 (leafCell a) ∧ Below w.heap.size w w1) := ⟨hrow, (below_alloc _ _).trans (hb1.mono (by omega))⟩
  clear hrow hb1
  go_wp2
  refine bodyPost_ret (v := .agg #[.slice (some ⟨g, 0, none⟩) 1 c]) (by simp [results, Try.results22, go_sem, r0]) rfl ⟨⟨_, rfl, g, a, c, rfl, by omega, HX.out.1.setOther (by simp; omega) _⟩, HX.out.2.setCell (by simp) _⟩

set_option maxHeartbeats 1000000 in
theorem implTree_new (w : World) :
    Calls Try.prog 23 #[] w fun e w' => (∃ v, e = .returned (.agg #[v]) ∧ OneS w' w.heap.size v) ∧ Below w.heap.size w w' := by
  go_enter Try.func23, Try.ntmps23
  go_wp2_with fail
  refine (tellTree_new (w.heap.size + 1) _ ?_ ?_).mono ?_
  · simp
  · simp
  rintro e w1 ⟨⟨v, rfl, h1⟩, hb1⟩
  obtain ⟨g, a, c, rfl, hg, hrow⟩ := h1
  simp only [World.size_alloc] at hg hb1
  have r0 : w1.cell? ⟨w.heap.size, 0, none⟩ = some (.slice none 0 0) := by rw [hb1.cell (by simp <;> omega)]; simp
  have rf : ∀ o, w1.frozen? ⟨w.heap.size, o, none⟩ = false := fun o => by rw [hb1.frozen (by simp <;> omega)]; simp
  have hz : w.heap.size < w1.heap.size := by have := hb1.size; simp at this; omega
  have HX : Hid (rowIn w1 g 96 4 (leafCell a) ∧ Below w.heap.size w w1) := ⟨hrow, ((below_alloc _ _).trans ((below_alloc _ _).mono (by simp))).trans (hb1.mono (by omega))⟩
  clear hrow hb1
  go_wp2
  refine bodyPost_ret (v := .agg #[.slice (some ⟨g, 0, none⟩) 1 c]) (by simp [results, Try.results23, go_sem, r0]) rfl ⟨⟨_, rfl, g, a, c, rfl, by omega, HX.out.1.setOther (by simp; omega) _⟩, HX.out.2.setCell (by simp) _⟩

end Go.Proofs.Ytfcffpgiijnmjaa
