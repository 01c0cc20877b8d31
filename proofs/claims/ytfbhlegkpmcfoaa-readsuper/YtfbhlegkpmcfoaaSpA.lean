import Derived.Test.YtfbhlegkpmcfoaaSpB
import Derived.Test.YtfbhlegkpmcfoaaSecT
import Derived.Deep.CutRange
import Derived.Laws.BytesArg
namespace Go.Proofs.Ytfbhlegkpmcfoaa
open Go.RowKit Go.Deep
set_option linter.unusedVariables false
set_option maxRecDepth 100000

theorem belowNext {W0 W w : World} (h : Below W0.heap.size W0 W) (hb : Below W.heap.size W w) : Below W0.heap.size W0 w := h.trans (hb.mono h.size)
theorem belowAlloc {W0 W : World} (h : Below W0.heap.size W0 W) (o : Obj) : Below W0.heap.size W0 (W.alloc o) := h.alloc h.size o
theorem belowDrew {W0 W : World} (h : Below W0.heap.size W0 W) : Below W0.heap.size W0 W.drew := h.drew

theorem horn_at (f : Nat → Int) (o : Nat) : hornN (fun i => f (o + i)) 4 4 = getN f o 4 := by
  rw [horn_getN4]
  simp [getN]
theorem getN_one (f : Nat → Int) (o : Nat) : getN f o 1 = f o := by simp [getN]

/-- A sector's bytes as a text. -/
def secStr (f : Nat → Int) : ByteArray := strOfNums ((List.range 64).map f)
theorem secStr_same (f g : Nat → Int) (hf : ∀ i, i < 64 → 0 ≤ f i ∧ f i < 256) (hg : ∀ i, i < 64 → 0 ≤ g i ∧ g i < 256) : ((secStr g).toList == (secStr f).toList) = sameB f g := by
  rw [Bool.eq_iff_iff, beq_iff_eq, sameB_iff, ByteArray.toList_eq, ByteArray.toList_eq]
  unfold secStr
  rw [strOfNums_data, strOfNums_data]
  constructor
  · intro h i hi
    have h1 := congrArg (fun l => l[i]?) h
    simp [hi] at h1
    have h2 := congrArg UInt8.toNat h1
    have q1 := hf i hi
    have q2 := hg i hi
    simp at h2
    omega
  · intro h
    rw [List.map_map, List.map_map]
    refine List.map_congr_left (fun i hi => ?_)
    show UInt8.ofNat (g i).toNat = UInt8.ofNat (f i).toNat
    rw [h i (List.mem_range.1 hi)]
theorem conv_sec {act : Act} {o : Oper} {p : Nat} {b off c : Nat} {f : Nat → Int} {w : World} (ho : o.op = .convert 28 9 (.tmp p)) (hp : act.tmps.getD p undef = .slice (some ⟨b, off, none⟩) 64 c) (hs : ∀ i, i < 64 → w.cell? ⟨b, off + i, none⟩ = some (.int .u8 (f i))) : (execOp act.eval o).run Try.prog w = .ok (.value (.string (secStr f))) w := by
  have h := run_convert_bytes_arg (P := Try.prog) w 28 5 underBytes (by kernel_rfl) b off 64 c ((List.range 64).map f) (by simp) (fun i hi => by rw [hs i hi]; simp [List.getD, hi]) 9 (by kernel_rfl)
  simp only [execOp, ho, Act.eval]
  rw [Sem.run_bind, hp, h]
  rfl
theorem step_val {ops : Array Oper} {o : Oper} {a : Act} {w w' : World} {K : Act → World → Prop} {Q : Exit → Act → World → Prop} {E : Prop} {v : Value} (hw : Region.wanted o (yielded ops a.tmps) = true) (hrun : (execOp a.eval o).run Try.prog w = .ok (.value v) w') (h : K (a.put o.dst v) w') :
    if Region.wanted o (yielded ops a.tmps) = true then Oper.wp Try.prog o a w K Q else E := by
  rw [if_pos hw]
  unfold Oper.wp
  rw [hrun]
  exact h
theorem step_goodSuper {ops : Array Oper} {o : Oper} {a : Act} {w : World} {K : Act → World → Prop} {Q : Exit → Act → World → Prop} {E : Prop} {t : TypeId} (hw : Region.wanted o (yielded ops a.tmps) = true) (x : Nat)
    (ho : o.op = .call { callee := .value (.func 36), args := #[.tmp x], argTypes := #[t] }) (v : Value) (hx : a.tmps[x]?.getD undef = v)
    (h : Calls Try.prog 36 #[v] w fun e w' => ∃ u, e = .returned u ∧ K (a.put o.dst u) w') :
    if Region.wanted o (yielded ops a.tmps) = true then Oper.wp Try.prog o a w K Q else E := by
  rw [if_pos hw]
  unfold Oper.wp
  simp [execOp, ho, resolve, invoke, hx, go_sem]
  refine h.mono ?_
  rintro e w' ⟨u, rfl, hk⟩
  exact hk
theorem step_superBytes {ops : Array Oper} {o : Oper} {a : Act} {w : World} {K : Act → World → Prop} {Q : Exit → Act → World → Prop} {E : Prop} {t : TypeId} (hw : Region.wanted o (yielded ops a.tmps) = true) (x : Nat)
    (ho : o.op = .call { callee := .value (.func 40), args := #[.tmp x], argTypes := #[t] }) (v : Value) (hx : a.tmps[x]?.getD undef = v)
    (h : Calls Try.prog 40 #[v] w fun e w' => ∃ u, e = .returned u ∧ K (a.put o.dst u) w') :
    if Region.wanted o (yielded ops a.tmps) = true then Oper.wp Try.prog o a w K Q else E := by
  rw [if_pos hw]
  unfold Oper.wp
  simp [execOp, ho, resolve, invoke, hx, go_sem]
  refine h.mono ?_
  rintro e w' ⟨u, rfl, hk⟩
  exact hk

theorem sealF_range {f : Nat → Int} (h : ∀ i, i < 64 → 0 ≤ f i ∧ f i < 256) : ∀ i, i < 64 → 0 ≤ sealF f i ∧ sealF f i < 256 := putN_range h

set_option maxHeartbeats 4000000 in
theorem l2SuperAt_any (a p : Option Addr) (n c m q : Nat) (d S : Nat → Int) (L : Nat → Nat) (F : Nat → Nat → Int) (fuel : Int) (dead : Bool) (s : Nat) (w : World) (ha : Rd .u8 w a n d) (hp : RdP w p m S L F) (hv : VD n m S L fuel) (hs : s < n / 64) (hn : n ≤ 1048576) (hnc : n ≤ c) (hcm : c ≤ 9223372036854775807) (hm : m ≤ 1048576) (hr : ∀ i, i < 64 → 0 ≤ secF d S F m s i ∧ secF d S F m s i < 256) :
    Calls Try.prog 28 #[.agg #[.slice a n c, .slice p m q, .int .i64 fuel, .bool dead], .int .i64 s] w fun e w' => e = .returned (supV (secF d S F m s) s) ∧ Below w.heap.size w w' := by
  have HA : Hid (Rd .u8 w a n d) := ha
  have HP : Hid (RdP w p m S L F) := hp
  have HV : Hid (VD n m S L fuel) := hv
  have HR : Hid (∀ i, i < 64 → 0 ≤ secF d S F m s i ∧ secF d S F m s i < 256) := hr
  have HE2 : Hid (∀ o1 o2, ((w.alloc o1).alloc o2).heap.size = w.heap.size + 2) := fun _ _ => by simp
  clear ha hp hv hr
  go_enter Try.func28, Try.ntmps28
  go_wp2_with fail
  refine (specRead_good a p n c m q d S L F fuel dead s _ (HA.out.below (((below_alloc _ _).trans ((below_alloc _ _).mono (by simp))))) (HP.out.below (((below_alloc _ _).trans ((below_alloc _ _).mono (by simp))))) HV.out hs hn hnc hcm hm).mono ?_
  rintro e w1 ⟨b1, c1, rfl, ho1, hb1, hl1, hm1⟩
  have HHF : Hid (∃ f, secF d S F m s = f) := ⟨_, rfl⟩
  generalize hf : secF d S F m s = f at *
  have HF : Hid (secF d S F m s = f) := hf
  clear hf HHF
  rw [HE2.out] at hb1 ho1
  rcases ho1 with h0 | ⟨g, rfl, hg, hrow⟩
  · omega
  have HR0 : Hid (w1.cell? ⟨w.heap.size + 1, 0, none⟩ = some (.bool false) ∧ w1.cell? ⟨w.heap.size + 1, 1, none⟩ = some (.int .i64 0) ∧ w1.cell? ⟨w.heap.size + 1, 2, none⟩ = some (.int .i64 0) ∧ w1.cell? ⟨w.heap.size + 1, 3, none⟩ = some (.int .i64 0) ∧ (∀ o, w1.frozen? ⟨w.heap.size + 1, o, none⟩ = false) ∧ Below w.heap.size w w1) := by
    refine ⟨?_, ?_, ?_, ?_, fun o => ?_, (((below_alloc _ _).trans ((below_alloc _ _).mono (by simp)))).trans (hb1.mono (by omega))⟩
    all_goals first
      | (rw [hb1.cell (by simp)]; simp; done)
      | (rw [hb1.frozen (by simp)]; simp)
  have z1 : w.heap.size + 2 ≤ w1.heap.size := by have := hb1.size; rw [HE2.out] at this; exact this
  have HROW : Hid (rowIn w1 g 5 64 (fun i => .int .u8 (f i))) := hrow
  have c6 : w1.cell? ⟨g, 6, none⟩ = some (.int .u8 (f 6)) := hrow.cell (by omega)
  have HRD : Hid (∀ W, Below w1.heap.size w1 W → Rd .u8 W (some ⟨g, 0, none⟩) 4 f ∧ Rd .u8 W (some ⟨g, 8, none⟩) 4 (fun i => f (8 + i))) := by
    intro W hb
    have hr' : rowIn W g 5 64 (fun i => .int .u8 (f i)) := HROW.out.of_block (hb.block g HROW.out.lt)
    exact ⟨Or.inr ⟨g, 0, rfl, fun i hi => by rw [Nat.zero_add]; exact hr'.cell (by omega)⟩, Or.inr ⟨g, 8, rfl, fun i hi => hr'.cell (by omega)⟩⟩
  have hc12 : (12 : Int) ≤ (c1 : Int) := by omega
  have hc4 : (4 : Int) ≤ (c1 : Int) := by omega
  have HG0 : Hid (∀ W, Below w1.heap.size w1 W → Calls Try.prog 61 #[.slice (some ⟨g, 0, none⟩) 4 c1] W fun e w' => e = .returned (.int .i64 (getN f 0 4)) ∧ w' = W) := fun W hb => by
    have := l2Get_any (some ⟨g, 0, none⟩) 4 c1 f W (HRD.out W hb).1 (fun i hi => HR.out i (by omega)) (by omega)
    rw [horn_getN4] at this
    exact this
  have HG8 : Hid (∀ W, Below w1.heap.size w1 W → Calls Try.prog 61 #[.slice (some ⟨g, 8, none⟩) 4 (c1 - 8)] W fun e w' => e = .returned (.int .i64 (getN f 8 4)) ∧ w' = W) := fun W hb => by
    have := l2Get_any (some ⟨g, 8, none⟩) 4 (c1 - 8) (fun i => f (8 + i)) W (HRD.out W hb).2 (fun i hi => HR.out (8 + i) (by omega)) (by omega)
    rw [horn_at] at this
    exact this
  have h61 : getN f 6 1 = f 6 := getN_one f 6
  have H61 : Hid (getN f 6 1 = f 6) := h61
  clear h61
  have HW6 : Hid (IntKind.i64.wrap (f 6) = f 6) := by have := HR.out 6 (by omega); rw [Hid, IntKind.wrap_i64]; omega
  have hw6 : wrap64 (f 6) = f 6 := by have := HR.out 6 (by omega); unfold wrap64; omega
  clear hb1 HA HP HV hrow
  go_wp2
  go_cut [6] from 10 to 20 (fun s6 wx => ∃ bo, s6 = .pointer (some ⟨bo, 0, none⟩) ∧ wx.cell? ⟨bo, 0, none⟩ = some (.int .i64 (getN f 0 4)) ∧ wx.cell? ⟨bo, 1, none⟩ = some (.int .i64 (getN f 6 1)) ∧ wx.cell? ⟨bo, 2, none⟩ = some (.int .i64 (getN f 8 4)) ∧ w1.heap.size ≤ bo ∧ Below w1.heap.size w1 wx)
  case first =>
    go_region_held3 (fun w' => w'.cell? ⟨g, 6, none⟩ = some (.int .u8 (f 6))) (go_keep)
      (first
      | (go_at_call 61; (with_reducible refine Calls.mono (HG0.out _ ?_) ?_); (repeat (first | exact Below.refl _ _ | refine belowAlloc ?_ _ | refine belowDrew ?_)); rintro e w2 ⟨rfl, rfl⟩)
      | (go_at_call 61; (with_reducible refine Calls.mono (HG8.out _ ?_) ?_); (repeat (first | exact Below.refl _ _ | refine belowAlloc ?_ _ | refine belowDrew ?_)); rintro e w3 ⟨rfl, rfl⟩)
      | fail)
    all_goals
      go_wp2
      go_meet
      case rel => exact ⟨_, rfl, by simp, by rw [H61.out]; first | (simp; done) | (simp [HW6.out]), by simp, Nat.le_refl _, (below_alloc _ _).drew⟩
  case rest =>
    obtain ⟨bo, rfl, x0, x1, x2, hbo, hbel⟩ := hcut
    have HSUP : Hid (supV f s = if (goodB (getN f 0 4) (getN f 6 1) (getN f 8 4) && (getN f 0 4 % 2 == (s : Int)) && sameB f (superF (getN f 0 4) (getN f 6 1) (getN f 8 4))) = true then .agg #[.bool true, .int .i64 (getN f 0 4), .int .i64 (getN f 6 1), .int .i64 (getN f 8 4)] else .agg #[.bool false, .int .i64 0, .int .i64 0, .int .i64 0]) := rfl
    have hgen := (getN_range f 0 4 (fun i hi => HR.out (0 + i) (by omega)))
    have hfir := (getN_range f 8 4 (fun i hi => HR.out (8 + i) (by omega)))
    have hgen0 := hgen.1
    have hgen1 : getN f 0 4 ≤ 9223372036854775807 := by have := hgen.2; simp at this; omega
    have hfi0 := hfir.1
    have hfi1 : getN f 8 4 ≤ 9223372036854775807 := by have := hfir.2; simp at this; omega
    clear hgen hfir HG0 HG8 HRD c6 hw6 H61
    generalize getN f 0 4 = gen at *
    generalize getN f 6 1 = ar at *
    generalize getN f 8 4 = fi at *
    have hbol : bo < wc.heap.size := World.block_lt_of_cell? _ _ x0
    have HX0 : Hid (wc.cell? ⟨bo, 0, none⟩ = some (.int .i64 gen) ∧ wc.cell? ⟨bo, 1, none⟩ = some (.int .i64 ar) ∧ wc.cell? ⟨bo, 2, none⟩ = some (.int .i64 fi)) := ⟨x0, x1, x2⟩
    have HBL : Hid (Below w1.heap.size w1 wc) := hbel
    have HRES : Hid (∀ w3 : World, Below wc.heap.size wc w3 → ((w3.cell? ⟨bo, 0, none⟩ = some (.int .i64 gen) ∧ w3.cell? ⟨bo, 1, none⟩ = some (.int .i64 ar) ∧ w3.cell? ⟨bo, 2, none⟩ = some (.int .i64 fi)) ∧ ∀ i, i < 64 → w3.cell? ⟨g, 0 + i, none⟩ = some (.int .u8 (f i))) ∧ (w3.cell? ⟨w.heap.size + 1, 0, none⟩ = some (.bool false) ∧ w3.cell? ⟨w.heap.size + 1, 1, none⟩ = some (.int .i64 0) ∧ w3.cell? ⟨w.heap.size + 1, 2, none⟩ = some (.int .i64 0) ∧ w3.cell? ⟨w.heap.size + 1, 3, none⟩ = some (.int .i64 0) ∧ (∀ o, w3.frozen? ⟨w.heap.size + 1, o, none⟩ = false) ∧ w.heap.size + 1 < w3.heap.size) ∧ Below w.heap.size w w3) := by
      intro w3 hb
      have hb' : Below w1.heap.size w1 w3 := HBL.out.trans (hb.mono HBL.out.size)
      have hs3 := hb'.size
      obtain ⟨r0, r1, r2, r3, rf, rb⟩ := HR0.out
      obtain ⟨y0, y1, y2⟩ := HX0.out
      have rl : w.heap.size + 1 < w1.heap.size := by omega
      have hrw : rowIn w3 g 5 64 (fun i => .int .u8 (f i)) := HROW.out.of_block (hb'.block g HROW.out.lt)
      exact ⟨⟨⟨(hb.cell (p := ⟨bo, 0, none⟩) hbol).trans y0, (hb.cell (p := ⟨bo, 1, none⟩) hbol).trans y1, (hb.cell (p := ⟨bo, 2, none⟩) hbol).trans y2⟩, fun i hi => by rw [Nat.zero_add]; exact hrw.cell hi⟩, ⟨(hb'.cell (p := ⟨w.heap.size + 1, 0, none⟩) rl).trans r0, (hb'.cell (p := ⟨w.heap.size + 1, 1, none⟩) rl).trans r1, (hb'.cell (p := ⟨w.heap.size + 1, 2, none⟩) rl).trans r2, (hb'.cell (p := ⟨w.heap.size + 1, 3, none⟩) rl).trans r3, fun o => (hb'.frozen (p := ⟨w.heap.size + 1, o, none⟩) rl).trans (rf o), by omega⟩, rb.trans (hb'.mono rb.size)⟩
    have HDR : Hid (∀ w3 : World, Below wc.drew.heap.size wc.drew w3 → Below wc.heap.size wc w3) := fun w3 hb => (Below.refl _ _).drew.trans hb
    have HD2 : Hid (∀ w3 w4 : World, Below wc.heap.size wc w3 → Below w3.heap.size w3 w4 → Below wc.heap.size wc w4) := fun w3 w4 h1 h2 => h1.trans (h2.mono h1.size)
    have xs : ∀ i, i < 64 → wc.drew.cell? ⟨g, 0 + i, none⟩ = some (.int .u8 (f i)) := (HRES.out wc (Below.refl _ _)).1.2
    have HXS : Hid (∀ i, i < 64 → wc.drew.cell? ⟨g, 0 + i, none⟩ = some (.int .u8 (f i))) := xs
    clear hbel HR0 HROW xs
    cases hgd : goodB gen ar fi with
    | false =>
      rw [hgd] at HSUP
      have HVS : Hid (∀ W, Calls Try.prog 36 #[.agg #[.int .i64 gen, .int .i64 ar, .int .i64 fi]] W fun e w' => e = .returned (.bool false) ∧ Below W.heap.size W w') := fun W => by have := l2GoodSuper_any gen ar fi W; rw [hgd] at this; exact this
      clear hgd
      go_wp2
      have xs := HXS.out
      refine wp_region_late (S := (fun w' => (w'.cell? ⟨bo, 0, none⟩ = some (.int .i64 gen) ∧ w'.cell? ⟨bo, 1, none⟩ = some (.int .i64 ar) ∧ w'.cell? ⟨bo, 2, none⟩ = some (.int .i64 fi)) ∧ ∀ i, i < 64 → w'.cell? ⟨g, 0 + i, none⟩ = some (.int .u8 (f i)))) 17 (by kernel_rfl) ?_ (fun hHeld => ?_)
      · ((try dsimp only); first | exact ⟨⟨x0, x1, x2⟩, xs⟩ | exact ⟨⟨k0', k1', k2'⟩, ks'⟩ | exact ⟨⟨k0, k1, k2⟩, ks⟩)
      refine late_take 0 .zero (v := ?_) (by kernel_rfl) (by kernel_rfl) (by kernel_rfl) (by kernel_rfl) (fun _ _ _ h => h) (by rfl) ?_ (by assumption) ?_
      rotate_left
      · (intro w hSw; (try dsimp only at hSw); go_simp) <;> with_reducible rfl
      simp only [Act.put, List.setIfInBounds_toArray, List.set_cons_zero, List.set_cons_succ]
      refine late_one 1 (.succ .zero) (by kernel_rfl) (fun K hK => ?_)
      (refine step_goodSuper (by rfl) 21 (by rfl) (.agg #[.int .i64 gen, .int .i64 ar, .int .i64 fi]) (by rfl) ?_; refine (HVS.out wc.drew).mono ?_; rintro e w3 ⟨rfl, hb3⟩; refine ⟨_, rfl, ?_⟩; obtain ⟨⟨⟨k0, k1, k2⟩, ks⟩, kr⟩ := HRES.out w3 (HDR.out w3 hb3))
      refine hK.out _ _ ?_ (fun hHeld2 => ?_)
      · (intro _; (try dsimp only); first | exact ⟨⟨x0, x1, x2⟩, xs⟩ | exact ⟨⟨k0', k1', k2'⟩, ks'⟩ | exact ⟨⟨k0, k1, k2⟩, ks⟩)
      clear hK K
      replace hHeld := hHeld2 (by decide)
      clear hHeld2
      try simp only [Act.put, List.setIfInBounds_toArray, List.set_cons_zero, List.set_cons_succ]
      refine late_take 2 (.succ (.succ .zero)) (v := ?_) (by kernel_rfl) (by kernel_rfl) (by kernel_rfl) (by kernel_rfl) (fun _ _ _ h => h) (by rfl) ?_ (by assumption) ?_
      rotate_left
      · (intro w hSw; (try dsimp only at hSw); go_simp) <;> with_reducible rfl
      simp only [Act.put, List.setIfInBounds_toArray, List.set_cons_zero, List.set_cons_succ]
      refine late_take 3 (.succ (.succ (.succ .zero))) (v := ?_) (by kernel_rfl) (by kernel_rfl) (by kernel_rfl) (by kernel_rfl) (fun _ _ _ h => h) (by rfl) ?_ (by assumption) ?_
      rotate_left
      · (intro w hSw; (try dsimp only at hSw); go_simp) <;> with_reducible rfl
      simp only [Act.put, List.setIfInBounds_toArray, List.set_cons_zero, List.set_cons_succ]
      refine late_skip 4 (.succ (.succ (.succ (.succ .zero)))) (by kernel_rfl) (by kernel_rfl) (by kernel_rfl) (by kernel_rfl) (fun _ _ _ h => h) (by rfl) (by assumption) ?_
      simp only [Act.put, List.setIfInBounds_toArray, List.set_cons_zero, List.set_cons_succ]
      refine late_skip 5 (.succ (.succ (.succ (.succ (.succ .zero))))) (by kernel_rfl) (by kernel_rfl) (by kernel_rfl) (by kernel_rfl) (fun _ _ _ h => h) (by rfl) (by assumption) ?_
      simp only [Act.put, List.setIfInBounds_toArray, List.set_cons_zero, List.set_cons_succ]
      refine late_skip 6 (.succ (.succ (.succ (.succ (.succ (.succ .zero)))))) (by kernel_rfl) (by kernel_rfl) (by kernel_rfl) (by kernel_rfl) (fun _ _ _ h => h) (by rfl) (by assumption) ?_
      simp only [Act.put, List.setIfInBounds_toArray, List.set_cons_zero, List.set_cons_succ]
      refine late_skip 7 (.succ (.succ (.succ (.succ (.succ (.succ (.succ .zero))))))) (by kernel_rfl) (by kernel_rfl) (by kernel_rfl) (by kernel_rfl) (fun _ _ _ h => h) (by rfl) (by assumption) ?_
      simp only [Act.put, List.setIfInBounds_toArray, List.set_cons_zero, List.set_cons_succ]
      refine late_skip 8 (.succ (.succ (.succ (.succ (.succ (.succ (.succ (.succ .zero)))))))) (by kernel_rfl) (by kernel_rfl) (by kernel_rfl) (by kernel_rfl) (fun _ _ _ h => h) (by rfl) (by assumption) ?_
      simp only [Act.put, List.setIfInBounds_toArray, List.set_cons_zero, List.set_cons_succ]
      refine late_take 9 (.succ (.succ (.succ (.succ (.succ (.succ (.succ (.succ (.succ .zero))))))))) (v := ?_) (by kernel_rfl) (by kernel_rfl) (by kernel_rfl) (by kernel_rfl) (fun _ _ _ h => h) (by rfl) ?_ (by assumption) ?_
      rotate_left
      · (intro w hSw; (try dsimp only at hSw); go_simp) <;> with_reducible rfl
      simp only [Act.put, List.setIfInBounds_toArray, List.set_cons_zero, List.set_cons_succ]
      refine late_take 10 (.succ (.succ (.succ (.succ (.succ (.succ (.succ (.succ (.succ (.succ .zero)))))))))) (v := ?_) (by kernel_rfl) (by kernel_rfl) (by kernel_rfl) (by kernel_rfl) (fun _ _ _ h => h) (by rfl) ?_ (by assumption) ?_
      rotate_left
      · (intro w hSw; (try dsimp only at hSw); go_simp) <;> with_reducible rfl
      simp only [Act.put, List.setIfInBounds_toArray, List.set_cons_zero, List.set_cons_succ]
      refine late_skip 11 (.succ (.succ (.succ (.succ (.succ (.succ (.succ (.succ (.succ (.succ (.succ .zero))))))))))) (by kernel_rfl) (by kernel_rfl) (by kernel_rfl) (by kernel_rfl) (fun _ _ _ h => h) (by rfl) (by assumption) ?_
      simp only [Act.put, List.setIfInBounds_toArray, List.set_cons_zero, List.set_cons_succ]
      refine late_skip 12 (.succ (.succ (.succ (.succ (.succ (.succ (.succ (.succ (.succ (.succ (.succ (.succ .zero)))))))))))) (by kernel_rfl) (by kernel_rfl) (by kernel_rfl) (by kernel_rfl) (fun _ _ _ h => h) (by rfl) (by assumption) ?_
      simp only [Act.put, List.setIfInBounds_toArray, List.set_cons_zero, List.set_cons_succ]
      refine late_skip 13 (.succ (.succ (.succ (.succ (.succ (.succ (.succ (.succ (.succ (.succ (.succ (.succ (.succ .zero))))))))))))) (by kernel_rfl) (by kernel_rfl) (by kernel_rfl) (by kernel_rfl) (fun _ _ _ h => h) (by rfl) (by assumption) ?_
      simp only [Act.put, List.setIfInBounds_toArray, List.set_cons_zero, List.set_cons_succ]
      refine late_skip 14 (.succ (.succ (.succ (.succ (.succ (.succ (.succ (.succ (.succ (.succ (.succ (.succ (.succ (.succ .zero)))))))))))))) (by kernel_rfl) (by kernel_rfl) (by kernel_rfl) (by kernel_rfl) (fun _ _ _ h => h) (by rfl) (by assumption) ?_
      simp only [Act.put, List.setIfInBounds_toArray, List.set_cons_zero, List.set_cons_succ]
      refine late_skip 15 (.succ (.succ (.succ (.succ (.succ (.succ (.succ (.succ (.succ (.succ (.succ (.succ (.succ (.succ (.succ .zero))))))))))))))) (by kernel_rfl) (by kernel_rfl) (by kernel_rfl) (by kernel_rfl) (fun _ _ _ h => h) (by rfl) (by assumption) ?_
      simp only [Act.put, List.setIfInBounds_toArray, List.set_cons_zero, List.set_cons_succ]
      refine late_skip 16 (.succ (.succ (.succ (.succ (.succ (.succ (.succ (.succ (.succ (.succ (.succ (.succ (.succ (.succ (.succ (.succ .zero)))))))))))))))) (by kernel_rfl) (by kernel_rfl) (by kernel_rfl) (by kernel_rfl) (fun _ _ _ h => h) (by rfl) (by assumption) ?_
      simp only [Act.put, List.setIfInBounds_toArray, List.set_cons_zero, List.set_cons_succ]
      refine late_one 17 (.succ (.succ (.succ (.succ (.succ (.succ (.succ (.succ (.succ (.succ (.succ (.succ (.succ (.succ (.succ (.succ (.succ .zero))))))))))))))))) (by kernel_rfl) (fun K hK => ?_)
      go_simp
      refine hK.out _ _ ?_ (fun hHeld2 => ?_)
      · (intro hne; exact absurd rfl hne)
      clear hK K hHeld2
      refine wpLate_done (by kernel_rfl) ?_ _
      clear xs ks
      obtain ⟨⟨r0, r1, r2, r3, rf, rl3⟩, rb⟩ := kr
      have HB3 : Hid (Below w.heap.size w w3) := rb
      clear hb3 rb k0 k1 k2
      go_wp2
      refine bodyPost_ret (v := .agg #[.bool false, .int .i64 0, .int .i64 0, .int .i64 0]) (by simp [results, Try.results28, go_sem, r0, r1, r2, r3]) rfl ⟨?_, ?_⟩
      · rw [HF.out, HSUP.out]; rfl
      · exact (((HB3.out.setCell (by simp) _).setCell (by simp) _).setCell (by simp) _).setCell (by simp) _
    | true =>
      rw [hgd] at HSUP
      have HVS : Hid (∀ W, Calls Try.prog 36 #[.agg #[.int .i64 gen, .int .i64 ar, .int .i64 fi]] W fun e w' => e = .returned (.bool true) ∧ Below W.heap.size W w') := fun W => by have := l2GoodSuper_any gen ar fi W; rw [hgd] at this; exact this
      have har : 0 ≤ ar ∧ ar < 2 := by
        unfold goodB areaB at hgd
        simp only [Bool.and_eq_true, decide_eq_true_eq] at hgd
        omega
      have HSB : Hid (∀ W, Calls Try.prog 40 #[.agg #[.int .i64 gen, .int .i64 ar, .int .i64 fi]] W fun e w' => RetOwn W e w' 64 (superF gen ar fi)) := fun W => l2SuperBytes_any gen ar fi W hgen0 hgen1 har.1 har.2 hfi0 hfi1
      clear hgd har
      cases hj : (gen % 2 == (s : Int)) with
      | false =>
        rw [hj] at HSUP
        have hj' : (gen.tmod 2 != (s : Int)) = true := by rw [Int.tmod_eq_emod_of_nonneg hgen0]; simp [bne, hj]
        clear hj
        go_wp2
        have xs := HXS.out
        refine wp_region_late (S := (fun w' => (w'.cell? ⟨bo, 0, none⟩ = some (.int .i64 gen) ∧ w'.cell? ⟨bo, 1, none⟩ = some (.int .i64 ar) ∧ w'.cell? ⟨bo, 2, none⟩ = some (.int .i64 fi)) ∧ ∀ i, i < 64 → w'.cell? ⟨g, 0 + i, none⟩ = some (.int .u8 (f i)))) 17 (by kernel_rfl) ?_ (fun hHeld => ?_)
        · ((try dsimp only); first | exact ⟨⟨x0, x1, x2⟩, xs⟩ | exact ⟨⟨k0', k1', k2'⟩, ks'⟩ | exact ⟨⟨k0, k1, k2⟩, ks⟩)
        refine late_take 0 .zero (v := ?_) (by kernel_rfl) (by kernel_rfl) (by kernel_rfl) (by kernel_rfl) (fun _ _ _ h => h) (by rfl) ?_ (by assumption) ?_
        rotate_left
        · (intro w hSw; (try dsimp only at hSw); go_simp) <;> with_reducible rfl
        simp only [Act.put, List.setIfInBounds_toArray, List.set_cons_zero, List.set_cons_succ]
        refine late_one 1 (.succ .zero) (by kernel_rfl) (fun K hK => ?_)
        (refine step_goodSuper (by rfl) 21 (by rfl) (.agg #[.int .i64 gen, .int .i64 ar, .int .i64 fi]) (by rfl) ?_; refine (HVS.out wc.drew).mono ?_; rintro e w3 ⟨rfl, hb3⟩; refine ⟨_, rfl, ?_⟩; obtain ⟨⟨⟨k0, k1, k2⟩, ks⟩, kr⟩ := HRES.out w3 (HDR.out w3 hb3))
        refine hK.out _ _ ?_ (fun hHeld2 => ?_)
        · (intro _; (try dsimp only); first | exact ⟨⟨x0, x1, x2⟩, xs⟩ | exact ⟨⟨k0', k1', k2'⟩, ks'⟩ | exact ⟨⟨k0, k1, k2⟩, ks⟩)
        clear hK K
        replace hHeld := hHeld2 (by decide)
        clear hHeld2
        try simp only [Act.put, List.setIfInBounds_toArray, List.set_cons_zero, List.set_cons_succ]
        refine late_take 2 (.succ (.succ .zero)) (v := ?_) (by kernel_rfl) (by kernel_rfl) (by kernel_rfl) (by kernel_rfl) (fun _ _ _ h => h) (by rfl) ?_ (by assumption) ?_
        rotate_left
        · (intro w hSw; (try dsimp only at hSw); go_simp) <;> with_reducible rfl
        simp only [Act.put, List.setIfInBounds_toArray, List.set_cons_zero, List.set_cons_succ]
        refine late_take 3 (.succ (.succ (.succ .zero))) (v := ?_) (by kernel_rfl) (by kernel_rfl) (by kernel_rfl) (by kernel_rfl) (fun _ _ _ h => h) (by rfl) ?_ (by assumption) ?_
        rotate_left
        · (intro w hSw; (try dsimp only at hSw); go_simp) <;> with_reducible rfl
        simp only [Act.put, List.setIfInBounds_toArray, List.set_cons_zero, List.set_cons_succ]
        refine late_take 4 (.succ (.succ (.succ (.succ .zero)))) (v := ?_) (by kernel_rfl) (by kernel_rfl) (by kernel_rfl) (by kernel_rfl) (fun _ _ _ h => h) (by rfl) ?_ (by assumption) ?_
        rotate_left
        · (intro w hSw; (try dsimp only at hSw); go_simp) <;> with_reducible rfl
        simp only [Act.put, List.setIfInBounds_toArray, List.set_cons_zero, List.set_cons_succ]
        refine late_take 5 (.succ (.succ (.succ (.succ (.succ .zero))))) (v := ?_) (by kernel_rfl) (by kernel_rfl) (by kernel_rfl) (by kernel_rfl) (fun _ _ _ h => h) (by rfl) ?_ (by assumption) ?_
        rotate_left
        · (intro w hSw; (try dsimp only at hSw); go_simp) <;> with_reducible rfl
        simp only [Act.put, List.setIfInBounds_toArray, List.set_cons_zero, List.set_cons_succ]
        refine late_take 6 (.succ (.succ (.succ (.succ (.succ (.succ .zero)))))) (v := ?_) (by kernel_rfl) (by kernel_rfl) (by kernel_rfl) (by kernel_rfl) (fun _ _ _ h => h) (by rfl) ?_ (by assumption) ?_
        rotate_left
        · (intro w hSw; (try dsimp only at hSw); go_simp) <;> with_reducible rfl
        simp only [Act.put, List.setIfInBounds_toArray, List.set_cons_zero, List.set_cons_succ]
        refine late_take 7 (.succ (.succ (.succ (.succ (.succ (.succ (.succ .zero))))))) (v := ?_) (by kernel_rfl) (by kernel_rfl) (by kernel_rfl) (by kernel_rfl) (fun _ _ _ h => h) (by rfl) ?_ (by assumption) ?_
        rotate_left
        · (intro w hSw; (try dsimp only at hSw); go_simp) <;> with_reducible rfl
        simp only [Act.put, List.setIfInBounds_toArray, List.set_cons_zero, List.set_cons_succ]
        refine late_take 8 (.succ (.succ (.succ (.succ (.succ (.succ (.succ (.succ .zero)))))))) (v := ?_) (by kernel_rfl) (by kernel_rfl) (by kernel_rfl) (by kernel_rfl) (fun _ _ _ h => h) (by rfl) ?_ (by assumption) ?_
        rotate_left
        · (intro w hSw; (try dsimp only at hSw); go_simp) <;> with_reducible rfl
        simp only [Act.put, List.setIfInBounds_toArray, List.set_cons_zero, List.set_cons_succ]
        refine late_take 9 (.succ (.succ (.succ (.succ (.succ (.succ (.succ (.succ (.succ .zero))))))))) (v := ?_) (by kernel_rfl) (by kernel_rfl) (by kernel_rfl) (by kernel_rfl) (fun _ _ _ h => h) (by rfl) ?_ (by assumption) ?_
        rotate_left
        · (intro w hSw; (try dsimp only at hSw); go_simp) <;> with_reducible rfl
        simp only [Act.put, List.setIfInBounds_toArray, List.set_cons_zero, List.set_cons_succ]
        refine late_take 10 (.succ (.succ (.succ (.succ (.succ (.succ (.succ (.succ (.succ (.succ .zero)))))))))) (v := ?_) (by kernel_rfl) (by kernel_rfl) (by kernel_rfl) (by kernel_rfl) (fun _ _ _ h => h) (by rfl) ?_ (by assumption) ?_
        rotate_left
        · (intro w hSw; (try dsimp only at hSw); go_simp) <;> with_reducible rfl
        simp only [Act.put, List.setIfInBounds_toArray, List.set_cons_zero, List.set_cons_succ]
        refine late_skip 11 (.succ (.succ (.succ (.succ (.succ (.succ (.succ (.succ (.succ (.succ (.succ .zero))))))))))) (by kernel_rfl) (by kernel_rfl) (by kernel_rfl) (by kernel_rfl) (fun _ _ _ h => h) (by rfl) (by assumption) ?_
        simp only [Act.put, List.setIfInBounds_toArray, List.set_cons_zero, List.set_cons_succ]
        refine late_skip 12 (.succ (.succ (.succ (.succ (.succ (.succ (.succ (.succ (.succ (.succ (.succ (.succ .zero)))))))))))) (by kernel_rfl) (by kernel_rfl) (by kernel_rfl) (by kernel_rfl) (fun _ _ _ h => h) (by rfl) (by assumption) ?_
        simp only [Act.put, List.setIfInBounds_toArray, List.set_cons_zero, List.set_cons_succ]
        refine late_skip 13 (.succ (.succ (.succ (.succ (.succ (.succ (.succ (.succ (.succ (.succ (.succ (.succ (.succ .zero))))))))))))) (by kernel_rfl) (by kernel_rfl) (by kernel_rfl) (by kernel_rfl) (fun _ _ _ h => h) (by rfl) (by assumption) ?_
        simp only [Act.put, List.setIfInBounds_toArray, List.set_cons_zero, List.set_cons_succ]
        refine late_skip 14 (.succ (.succ (.succ (.succ (.succ (.succ (.succ (.succ (.succ (.succ (.succ (.succ (.succ (.succ .zero)))))))))))))) (by kernel_rfl) (by kernel_rfl) (by kernel_rfl) (by kernel_rfl) (fun _ _ _ h => h) (by rfl) (by assumption) ?_
        simp only [Act.put, List.setIfInBounds_toArray, List.set_cons_zero, List.set_cons_succ]
        refine late_skip 15 (.succ (.succ (.succ (.succ (.succ (.succ (.succ (.succ (.succ (.succ (.succ (.succ (.succ (.succ (.succ .zero))))))))))))))) (by kernel_rfl) (by kernel_rfl) (by kernel_rfl) (by kernel_rfl) (fun _ _ _ h => h) (by rfl) (by assumption) ?_
        simp only [Act.put, List.setIfInBounds_toArray, List.set_cons_zero, List.set_cons_succ]
        refine late_skip 16 (.succ (.succ (.succ (.succ (.succ (.succ (.succ (.succ (.succ (.succ (.succ (.succ (.succ (.succ (.succ (.succ .zero)))))))))))))))) (by kernel_rfl) (by kernel_rfl) (by kernel_rfl) (by kernel_rfl) (fun _ _ _ h => h) (by rfl) (by assumption) ?_
        simp only [Act.put, List.setIfInBounds_toArray, List.set_cons_zero, List.set_cons_succ]
        refine late_one 17 (.succ (.succ (.succ (.succ (.succ (.succ (.succ (.succ (.succ (.succ (.succ (.succ (.succ (.succ (.succ (.succ (.succ .zero))))))))))))))))) (by kernel_rfl) (fun K hK => ?_)
        go_simp
        refine hK.out _ _ ?_ (fun hHeld2 => ?_)
        · (intro hne; exact absurd rfl hne)
        clear hK K hHeld2
        refine wpLate_done (by kernel_rfl) ?_ _
        clear xs ks
        obtain ⟨⟨r0, r1, r2, r3, rf, rl3⟩, rb⟩ := kr
        have HB3 : Hid (Below w.heap.size w w3) := rb
        clear hb3 rb k0 k1 k2
        go_wp2
        refine bodyPost_ret (v := .agg #[.bool false, .int .i64 0, .int .i64 0, .int .i64 0]) (by simp [results, Try.results28, go_sem, r0, r1, r2, r3]) rfl ⟨?_, ?_⟩
        · rw [HF.out, HSUP.out]; rfl
        · exact (((HB3.out.setCell (by simp) _).setCell (by simp) _).setCell (by simp) _).setCell (by simp) _
      | true =>
        rw [hj] at HSUP
        have hj' : (gen.tmod 2 != (s : Int)) = false := by rw [Int.tmod_eq_emod_of_nonneg hgen0]; simp [bne, hj]
        clear hj
        have hsame := secStr_same f (superF gen ar fi) HR.out (sealF_range (superH_range gen ar fi))
        cases hsm : sameB f (superF gen ar fi) with
        | false =>
          rw [hsm] at HSUP hsame
          clear hsm
          go_wp2
          have xs := HXS.out
          refine wp_region_late (S := (fun w' => (w'.cell? ⟨bo, 0, none⟩ = some (.int .i64 gen) ∧ w'.cell? ⟨bo, 1, none⟩ = some (.int .i64 ar) ∧ w'.cell? ⟨bo, 2, none⟩ = some (.int .i64 fi)) ∧ ∀ i, i < 64 → w'.cell? ⟨g, 0 + i, none⟩ = some (.int .u8 (f i)))) 17 (by kernel_rfl) ?_ (fun hHeld => ?_)
          · ((try dsimp only); first | exact ⟨⟨x0, x1, x2⟩, xs⟩ | exact ⟨⟨k0', k1', k2'⟩, ks'⟩ | exact ⟨⟨k0, k1, k2⟩, ks⟩)
          refine late_take 0 .zero (v := ?_) (by kernel_rfl) (by kernel_rfl) (by kernel_rfl) (by kernel_rfl) (fun _ _ _ h => h) (by rfl) ?_ (by assumption) ?_
          rotate_left
          · (intro w hSw; (try dsimp only at hSw); go_simp) <;> with_reducible rfl
          simp only [Act.put, List.setIfInBounds_toArray, List.set_cons_zero, List.set_cons_succ]
          refine late_one 1 (.succ .zero) (by kernel_rfl) (fun K hK => ?_)
          (refine step_goodSuper (by rfl) 21 (by rfl) (.agg #[.int .i64 gen, .int .i64 ar, .int .i64 fi]) (by rfl) ?_; refine (HVS.out wc.drew).mono ?_; rintro e w3 ⟨rfl, hb3⟩; refine ⟨_, rfl, ?_⟩; obtain ⟨⟨⟨k0, k1, k2⟩, ks⟩, kr⟩ := HRES.out w3 (HDR.out w3 hb3))
          refine hK.out _ _ ?_ (fun hHeld2 => ?_)
          · (intro _; (try dsimp only); first | exact ⟨⟨x0, x1, x2⟩, xs⟩ | exact ⟨⟨k0', k1', k2'⟩, ks'⟩ | exact ⟨⟨k0, k1, k2⟩, ks⟩)
          clear hK K
          replace hHeld := hHeld2 (by decide)
          clear hHeld2
          try simp only [Act.put, List.setIfInBounds_toArray, List.set_cons_zero, List.set_cons_succ]
          refine late_take 2 (.succ (.succ .zero)) (v := ?_) (by kernel_rfl) (by kernel_rfl) (by kernel_rfl) (by kernel_rfl) (fun _ _ _ h => h) (by rfl) ?_ (by assumption) ?_
          rotate_left
          · (intro w hSw; (try dsimp only at hSw); go_simp) <;> with_reducible rfl
          simp only [Act.put, List.setIfInBounds_toArray, List.set_cons_zero, List.set_cons_succ]
          refine late_take 3 (.succ (.succ (.succ .zero))) (v := ?_) (by kernel_rfl) (by kernel_rfl) (by kernel_rfl) (by kernel_rfl) (fun _ _ _ h => h) (by rfl) ?_ (by assumption) ?_
          rotate_left
          · (intro w hSw; (try dsimp only at hSw); go_simp) <;> with_reducible rfl
          simp only [Act.put, List.setIfInBounds_toArray, List.set_cons_zero, List.set_cons_succ]
          refine late_take 4 (.succ (.succ (.succ (.succ .zero)))) (v := ?_) (by kernel_rfl) (by kernel_rfl) (by kernel_rfl) (by kernel_rfl) (fun _ _ _ h => h) (by rfl) ?_ (by assumption) ?_
          rotate_left
          · (intro w hSw; (try dsimp only at hSw); go_simp) <;> with_reducible rfl
          simp only [Act.put, List.setIfInBounds_toArray, List.set_cons_zero, List.set_cons_succ]
          refine late_take 5 (.succ (.succ (.succ (.succ (.succ .zero))))) (v := ?_) (by kernel_rfl) (by kernel_rfl) (by kernel_rfl) (by kernel_rfl) (fun _ _ _ h => h) (by rfl) ?_ (by assumption) ?_
          rotate_left
          · (intro w hSw; (try dsimp only at hSw); go_simp) <;> with_reducible rfl
          simp only [Act.put, List.setIfInBounds_toArray, List.set_cons_zero, List.set_cons_succ]
          refine late_take 6 (.succ (.succ (.succ (.succ (.succ (.succ .zero)))))) (v := ?_) (by kernel_rfl) (by kernel_rfl) (by kernel_rfl) (by kernel_rfl) (fun _ _ _ h => h) (by rfl) ?_ (by assumption) ?_
          rotate_left
          · (intro w hSw; (try dsimp only at hSw); go_simp) <;> with_reducible rfl
          simp only [Act.put, List.setIfInBounds_toArray, List.set_cons_zero, List.set_cons_succ]
          refine late_take 7 (.succ (.succ (.succ (.succ (.succ (.succ (.succ .zero))))))) (v := ?_) (by kernel_rfl) (by kernel_rfl) (by kernel_rfl) (by kernel_rfl) (fun _ _ _ h => h) (by rfl) ?_ (by assumption) ?_
          rotate_left
          · (intro w hSw; (try dsimp only at hSw); go_simp) <;> with_reducible rfl
          simp only [Act.put, List.setIfInBounds_toArray, List.set_cons_zero, List.set_cons_succ]
          refine late_take 8 (.succ (.succ (.succ (.succ (.succ (.succ (.succ (.succ .zero)))))))) (v := ?_) (by kernel_rfl) (by kernel_rfl) (by kernel_rfl) (by kernel_rfl) (fun _ _ _ h => h) (by rfl) ?_ (by assumption) ?_
          rotate_left
          · (intro w hSw; (try dsimp only at hSw); go_simp) <;> with_reducible rfl
          simp only [Act.put, List.setIfInBounds_toArray, List.set_cons_zero, List.set_cons_succ]
          refine late_take 9 (.succ (.succ (.succ (.succ (.succ (.succ (.succ (.succ (.succ .zero))))))))) (v := ?_) (by kernel_rfl) (by kernel_rfl) (by kernel_rfl) (by kernel_rfl) (fun _ _ _ h => h) (by rfl) ?_ (by assumption) ?_
          rotate_left
          · (intro w hSw; (try dsimp only at hSw); go_simp) <;> with_reducible rfl
          simp only [Act.put, List.setIfInBounds_toArray, List.set_cons_zero, List.set_cons_succ]
          refine late_take 10 (.succ (.succ (.succ (.succ (.succ (.succ (.succ (.succ (.succ (.succ .zero)))))))))) (v := ?_) (by kernel_rfl) (by kernel_rfl) (by kernel_rfl) (by kernel_rfl) (fun _ _ _ h => h) (by rfl) ?_ (by assumption) ?_
          rotate_left
          · (intro w hSw; (try dsimp only at hSw); go_simp) <;> with_reducible rfl
          simp only [Act.put, List.setIfInBounds_toArray, List.set_cons_zero, List.set_cons_succ]
          refine late_take 11 (.succ (.succ (.succ (.succ (.succ (.succ (.succ (.succ (.succ (.succ (.succ .zero))))))))))) (v := ?_) (by kernel_rfl) (by kernel_rfl) (by kernel_rfl) (by kernel_rfl) (fun _ _ _ h => h) (by rfl) ?_ (by assumption) ?_
          rotate_left
          · (intro w hSw; (try dsimp only at hSw); go_simp) <;> with_reducible rfl
          simp only [Act.put, List.setIfInBounds_toArray, List.set_cons_zero, List.set_cons_succ]
          refine late_take 14 (.succ (.succ (.succ (.succ (.succ (.succ (.succ (.succ (.succ (.succ (.succ (.succ (.succ (.succ .zero)))))))))))))) (v := ?_) (by kernel_rfl) (by kernel_rfl) (by kernel_rfl) (by kernel_rfl) (fun _ _ _ h => h) (by rfl) ?_ (by assumption) ?_
          rotate_left
          · (intro w hSw; (try dsimp only at hSw); go_simp) <;> with_reducible rfl
          simp only [Act.put, List.setIfInBounds_toArray, List.set_cons_zero, List.set_cons_succ]
          refine late_take 15 (.succ (.succ (.succ (.succ (.succ (.succ (.succ (.succ (.succ (.succ (.succ (.succ (.succ (.succ (.succ .zero))))))))))))))) (v := .string (secStr f)) (by kernel_rfl) (by kernel_rfl) (by kernel_rfl) (by kernel_rfl) (fun _ _ _ h => h) (by rfl) ?_ (by assumption) ?_
          · (intro w hSw; (try dsimp only at hSw); exact conv_sec rfl rfl hSw.2)
          simp only [Act.put, List.setIfInBounds_toArray, List.set_cons_zero, List.set_cons_succ]
          refine late_one 12 (.succ (.succ (.succ (.succ (.succ (.succ (.succ (.succ (.succ (.succ (.succ (.succ .zero)))))))))))) (by kernel_rfl) (fun K hK => ?_)
          (refine step_superBytes (by rfl) 32 (by rfl) (.agg #[.int .i64 gen, .int .i64 ar, .int .i64 fi]) (by rfl) ?_; refine (HSB.out w3).mono ?_; rintro e w4 ⟨b4, c4, rfl, ho4, hb4, -, -⟩; refine ⟨_, rfl, ?_⟩; rcases ho4 with hx0 | ⟨g4, rfl, hg4, hrow4⟩; exact absurd hx0 (by decide); obtain ⟨⟨⟨k0', k1', k2'⟩, ks'⟩, kr'⟩ := HRES.out w4 (HD2.out w3 w4 (HDR.out w3 hb3) hb4))
          refine hK.out _ _ ?_ (fun hHeld2 => ?_)
          · (intro _; (try dsimp only); first | exact ⟨⟨x0, x1, x2⟩, xs⟩ | exact ⟨⟨k0', k1', k2'⟩, ks'⟩ | exact ⟨⟨k0, k1, k2⟩, ks⟩)
          clear hK K
          replace hHeld := hHeld2 (by decide)
          clear hHeld2
          try simp only [Act.put, List.setIfInBounds_toArray, List.set_cons_zero, List.set_cons_succ]
          refine late_one 13 (.succ (.succ (.succ (.succ (.succ (.succ (.succ (.succ (.succ (.succ (.succ (.succ (.succ .zero))))))))))))) (by kernel_rfl) (fun K hK => ?_)
          (refine step_val (v := .string (secStr (superF gen ar fi))) (w' := w4) (by rfl) (conv_sec rfl rfl (fun i hi => by rw [Nat.zero_add]; exact hrow4.cell hi)) ?_)
          refine hK.out _ _ ?_ (fun hHeld2 => ?_)
          · (intro _; (try dsimp only); first | exact ⟨⟨x0, x1, x2⟩, xs⟩ | exact ⟨⟨k0', k1', k2'⟩, ks'⟩ | exact ⟨⟨k0, k1, k2⟩, ks⟩)
          clear hK K
          replace hHeld := hHeld2 (by decide)
          clear hHeld2
          try simp only [Act.put, List.setIfInBounds_toArray, List.set_cons_zero, List.set_cons_succ]
          refine late_take 16 (.succ (.succ (.succ (.succ (.succ (.succ (.succ (.succ (.succ (.succ (.succ (.succ (.succ (.succ (.succ (.succ .zero)))))))))))))))) (v := ?_) (by kernel_rfl) (by kernel_rfl) (by kernel_rfl) (by kernel_rfl) (fun _ _ _ h => h) (by rfl) ?_ (by assumption) ?_
          rotate_left
          · (intro w hSw; (try dsimp only at hSw); go_simp) <;> with_reducible rfl
          simp only [Act.put, List.setIfInBounds_toArray, List.set_cons_zero, List.set_cons_succ]
          refine late_one 17 (.succ (.succ (.succ (.succ (.succ (.succ (.succ (.succ (.succ (.succ (.succ (.succ (.succ (.succ (.succ (.succ (.succ .zero))))))))))))))))) (by kernel_rfl) (fun K hK => ?_)
          go_simp
          refine hK.out _ _ ?_ (fun hHeld2 => ?_)
          · (intro hne; exact absurd rfl hne)
          clear hK K hHeld2
          refine wpLate_done (by kernel_rfl) ?_ _
          clear xs ks ks'
          obtain ⟨⟨r0, r1, r2, r3, rf, rl3⟩, rb⟩ := kr'
          have HB3 : Hid (Below w.heap.size w w4) := rb
          clear hb3 rb k0 k1 k2 kr hrow4 hb4 hsame k0' k1' k2'
          go_wp2
          refine bodyPost_ret (v := .agg #[.bool false, .int .i64 0, .int .i64 0, .int .i64 0]) (by simp [results, Try.results28, go_sem, r0, r1, r2, r3]) rfl ⟨?_, ?_⟩
          · rw [HF.out, HSUP.out]; rfl
          · exact (((HB3.out.setCell (by simp) _).setCell (by simp) _).setCell (by simp) _).setCell (by simp) _
        | true =>
          rw [hsm] at HSUP hsame
          clear hsm
          go_wp2
          have xs := HXS.out
          refine wp_region_late (S := (fun w' => (w'.cell? ⟨bo, 0, none⟩ = some (.int .i64 gen) ∧ w'.cell? ⟨bo, 1, none⟩ = some (.int .i64 ar) ∧ w'.cell? ⟨bo, 2, none⟩ = some (.int .i64 fi)) ∧ ∀ i, i < 64 → w'.cell? ⟨g, 0 + i, none⟩ = some (.int .u8 (f i)))) 17 (by kernel_rfl) ?_ (fun hHeld => ?_)
          · ((try dsimp only); first | exact ⟨⟨x0, x1, x2⟩, xs⟩ | exact ⟨⟨k0', k1', k2'⟩, ks'⟩ | exact ⟨⟨k0, k1, k2⟩, ks⟩)
          refine late_take 0 .zero (v := ?_) (by kernel_rfl) (by kernel_rfl) (by kernel_rfl) (by kernel_rfl) (fun _ _ _ h => h) (by rfl) ?_ (by assumption) ?_
          rotate_left
          · (intro w hSw; (try dsimp only at hSw); go_simp) <;> with_reducible rfl
          simp only [Act.put, List.setIfInBounds_toArray, List.set_cons_zero, List.set_cons_succ]
          refine late_one 1 (.succ .zero) (by kernel_rfl) (fun K hK => ?_)
          (refine step_goodSuper (by rfl) 21 (by rfl) (.agg #[.int .i64 gen, .int .i64 ar, .int .i64 fi]) (by rfl) ?_; refine (HVS.out wc.drew).mono ?_; rintro e w3 ⟨rfl, hb3⟩; refine ⟨_, rfl, ?_⟩; obtain ⟨⟨⟨k0, k1, k2⟩, ks⟩, kr⟩ := HRES.out w3 (HDR.out w3 hb3))
          refine hK.out _ _ ?_ (fun hHeld2 => ?_)
          · (intro _; (try dsimp only); first | exact ⟨⟨x0, x1, x2⟩, xs⟩ | exact ⟨⟨k0', k1', k2'⟩, ks'⟩ | exact ⟨⟨k0, k1, k2⟩, ks⟩)
          clear hK K
          replace hHeld := hHeld2 (by decide)
          clear hHeld2
          try simp only [Act.put, List.setIfInBounds_toArray, List.set_cons_zero, List.set_cons_succ]
          refine late_take 2 (.succ (.succ .zero)) (v := ?_) (by kernel_rfl) (by kernel_rfl) (by kernel_rfl) (by kernel_rfl) (fun _ _ _ h => h) (by rfl) ?_ (by assumption) ?_
          rotate_left
          · (intro w hSw; (try dsimp only at hSw); go_simp) <;> with_reducible rfl
          simp only [Act.put, List.setIfInBounds_toArray, List.set_cons_zero, List.set_cons_succ]
          refine late_take 3 (.succ (.succ (.succ .zero))) (v := ?_) (by kernel_rfl) (by kernel_rfl) (by kernel_rfl) (by kernel_rfl) (fun _ _ _ h => h) (by rfl) ?_ (by assumption) ?_
          rotate_left
          · (intro w hSw; (try dsimp only at hSw); go_simp) <;> with_reducible rfl
          simp only [Act.put, List.setIfInBounds_toArray, List.set_cons_zero, List.set_cons_succ]
          refine late_take 4 (.succ (.succ (.succ (.succ .zero)))) (v := ?_) (by kernel_rfl) (by kernel_rfl) (by kernel_rfl) (by kernel_rfl) (fun _ _ _ h => h) (by rfl) ?_ (by assumption) ?_
          rotate_left
          · (intro w hSw; (try dsimp only at hSw); go_simp) <;> with_reducible rfl
          simp only [Act.put, List.setIfInBounds_toArray, List.set_cons_zero, List.set_cons_succ]
          refine late_take 5 (.succ (.succ (.succ (.succ (.succ .zero))))) (v := ?_) (by kernel_rfl) (by kernel_rfl) (by kernel_rfl) (by kernel_rfl) (fun _ _ _ h => h) (by rfl) ?_ (by assumption) ?_
          rotate_left
          · (intro w hSw; (try dsimp only at hSw); go_simp) <;> with_reducible rfl
          simp only [Act.put, List.setIfInBounds_toArray, List.set_cons_zero, List.set_cons_succ]
          refine late_take 6 (.succ (.succ (.succ (.succ (.succ (.succ .zero)))))) (v := ?_) (by kernel_rfl) (by kernel_rfl) (by kernel_rfl) (by kernel_rfl) (fun _ _ _ h => h) (by rfl) ?_ (by assumption) ?_
          rotate_left
          · (intro w hSw; (try dsimp only at hSw); go_simp) <;> with_reducible rfl
          simp only [Act.put, List.setIfInBounds_toArray, List.set_cons_zero, List.set_cons_succ]
          refine late_take 7 (.succ (.succ (.succ (.succ (.succ (.succ (.succ .zero))))))) (v := ?_) (by kernel_rfl) (by kernel_rfl) (by kernel_rfl) (by kernel_rfl) (fun _ _ _ h => h) (by rfl) ?_ (by assumption) ?_
          rotate_left
          · (intro w hSw; (try dsimp only at hSw); go_simp) <;> with_reducible rfl
          simp only [Act.put, List.setIfInBounds_toArray, List.set_cons_zero, List.set_cons_succ]
          refine late_take 8 (.succ (.succ (.succ (.succ (.succ (.succ (.succ (.succ .zero)))))))) (v := ?_) (by kernel_rfl) (by kernel_rfl) (by kernel_rfl) (by kernel_rfl) (fun _ _ _ h => h) (by rfl) ?_ (by assumption) ?_
          rotate_left
          · (intro w hSw; (try dsimp only at hSw); go_simp) <;> with_reducible rfl
          simp only [Act.put, List.setIfInBounds_toArray, List.set_cons_zero, List.set_cons_succ]
          refine late_take 9 (.succ (.succ (.succ (.succ (.succ (.succ (.succ (.succ (.succ .zero))))))))) (v := ?_) (by kernel_rfl) (by kernel_rfl) (by kernel_rfl) (by kernel_rfl) (fun _ _ _ h => h) (by rfl) ?_ (by assumption) ?_
          rotate_left
          · (intro w hSw; (try dsimp only at hSw); go_simp) <;> with_reducible rfl
          simp only [Act.put, List.setIfInBounds_toArray, List.set_cons_zero, List.set_cons_succ]
          refine late_take 10 (.succ (.succ (.succ (.succ (.succ (.succ (.succ (.succ (.succ (.succ .zero)))))))))) (v := ?_) (by kernel_rfl) (by kernel_rfl) (by kernel_rfl) (by kernel_rfl) (fun _ _ _ h => h) (by rfl) ?_ (by assumption) ?_
          rotate_left
          · (intro w hSw; (try dsimp only at hSw); go_simp) <;> with_reducible rfl
          simp only [Act.put, List.setIfInBounds_toArray, List.set_cons_zero, List.set_cons_succ]
          refine late_take 11 (.succ (.succ (.succ (.succ (.succ (.succ (.succ (.succ (.succ (.succ (.succ .zero))))))))))) (v := ?_) (by kernel_rfl) (by kernel_rfl) (by kernel_rfl) (by kernel_rfl) (fun _ _ _ h => h) (by rfl) ?_ (by assumption) ?_
          rotate_left
          · (intro w hSw; (try dsimp only at hSw); go_simp) <;> with_reducible rfl
          simp only [Act.put, List.setIfInBounds_toArray, List.set_cons_zero, List.set_cons_succ]
          refine late_take 14 (.succ (.succ (.succ (.succ (.succ (.succ (.succ (.succ (.succ (.succ (.succ (.succ (.succ (.succ .zero)))))))))))))) (v := ?_) (by kernel_rfl) (by kernel_rfl) (by kernel_rfl) (by kernel_rfl) (fun _ _ _ h => h) (by rfl) ?_ (by assumption) ?_
          rotate_left
          · (intro w hSw; (try dsimp only at hSw); go_simp) <;> with_reducible rfl
          simp only [Act.put, List.setIfInBounds_toArray, List.set_cons_zero, List.set_cons_succ]
          refine late_take 15 (.succ (.succ (.succ (.succ (.succ (.succ (.succ (.succ (.succ (.succ (.succ (.succ (.succ (.succ (.succ .zero))))))))))))))) (v := .string (secStr f)) (by kernel_rfl) (by kernel_rfl) (by kernel_rfl) (by kernel_rfl) (fun _ _ _ h => h) (by rfl) ?_ (by assumption) ?_
          · (intro w hSw; (try dsimp only at hSw); exact conv_sec rfl rfl hSw.2)
          simp only [Act.put, List.setIfInBounds_toArray, List.set_cons_zero, List.set_cons_succ]
          refine late_one 12 (.succ (.succ (.succ (.succ (.succ (.succ (.succ (.succ (.succ (.succ (.succ (.succ .zero)))))))))))) (by kernel_rfl) (fun K hK => ?_)
          (refine step_superBytes (by rfl) 32 (by rfl) (.agg #[.int .i64 gen, .int .i64 ar, .int .i64 fi]) (by rfl) ?_; refine (HSB.out w3).mono ?_; rintro e w4 ⟨b4, c4, rfl, ho4, hb4, -, -⟩; refine ⟨_, rfl, ?_⟩; rcases ho4 with hx0 | ⟨g4, rfl, hg4, hrow4⟩; exact absurd hx0 (by decide); obtain ⟨⟨⟨k0', k1', k2'⟩, ks'⟩, kr'⟩ := HRES.out w4 (HD2.out w3 w4 (HDR.out w3 hb3) hb4))
          refine hK.out _ _ ?_ (fun hHeld2 => ?_)
          · (intro _; (try dsimp only); first | exact ⟨⟨x0, x1, x2⟩, xs⟩ | exact ⟨⟨k0', k1', k2'⟩, ks'⟩ | exact ⟨⟨k0, k1, k2⟩, ks⟩)
          clear hK K
          replace hHeld := hHeld2 (by decide)
          clear hHeld2
          try simp only [Act.put, List.setIfInBounds_toArray, List.set_cons_zero, List.set_cons_succ]
          refine late_one 13 (.succ (.succ (.succ (.succ (.succ (.succ (.succ (.succ (.succ (.succ (.succ (.succ (.succ .zero))))))))))))) (by kernel_rfl) (fun K hK => ?_)
          (refine step_val (v := .string (secStr (superF gen ar fi))) (w' := w4) (by rfl) (conv_sec rfl rfl (fun i hi => by rw [Nat.zero_add]; exact hrow4.cell hi)) ?_)
          refine hK.out _ _ ?_ (fun hHeld2 => ?_)
          · (intro _; (try dsimp only); first | exact ⟨⟨x0, x1, x2⟩, xs⟩ | exact ⟨⟨k0', k1', k2'⟩, ks'⟩ | exact ⟨⟨k0, k1, k2⟩, ks⟩)
          clear hK K
          replace hHeld := hHeld2 (by decide)
          clear hHeld2
          try simp only [Act.put, List.setIfInBounds_toArray, List.set_cons_zero, List.set_cons_succ]
          refine late_take 16 (.succ (.succ (.succ (.succ (.succ (.succ (.succ (.succ (.succ (.succ (.succ (.succ (.succ (.succ (.succ (.succ .zero)))))))))))))))) (v := ?_) (by kernel_rfl) (by kernel_rfl) (by kernel_rfl) (by kernel_rfl) (fun _ _ _ h => h) (by rfl) ?_ (by assumption) ?_
          rotate_left
          · (intro w hSw; (try dsimp only at hSw); go_simp) <;> with_reducible rfl
          simp only [Act.put, List.setIfInBounds_toArray, List.set_cons_zero, List.set_cons_succ]
          refine late_one 17 (.succ (.succ (.succ (.succ (.succ (.succ (.succ (.succ (.succ (.succ (.succ (.succ (.succ (.succ (.succ (.succ (.succ .zero))))))))))))))))) (by kernel_rfl) (fun K hK => ?_)
          go_simp
          refine hK.out _ _ ?_ (fun hHeld2 => ?_)
          · (intro hne; exact absurd rfl hne)
          clear hK K hHeld2
          refine wpLate_done (by kernel_rfl) ?_ _
          clear xs ks ks'
          obtain ⟨⟨r0, r1, r2, r3, rf, rl3⟩, rb⟩ := kr'
          have HB3 : Hid (Below w.heap.size w w4) := rb
          clear hb3 rb k0 k1 k2 kr hrow4 hb4 hsame
          go_wp2
          refine bodyPost_ret (v := .agg #[.bool true, .int .i64 gen, .int .i64 ar, .int .i64 fi]) (by simp [results, Try.results28, go_sem, r0, r1, r2, r3]) rfl ⟨?_, ?_⟩
          · rw [HF.out, HSUP.out]; rfl
          · exact (((HB3.out.setCell (by simp) _).setCell (by simp) _).setCell (by simp) _).setCell (by simp) _
end Go.Proofs.Ytfbhlegkpmcfoaa
