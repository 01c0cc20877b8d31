import Derived.Test.YtocmbnocdjnfpaaPpI
namespace Go.Proofs.Ytocmbnocdjnfpaa
open Go.RowKit Go.Deep
set_option linter.unusedVariables false
set_option maxRecDepth 100000

theorem ops22_acyc : ∀ (i : Nat) (o : Oper), ops22[i]? = some o → ∀ e ∈ o.after, e.on < i := by
  have h : ∀ i, i < 16 → ∀ o, ops22[i]? = some o → (o.after.toList.all fun e => decide (e.on < i)) = true := by
    intro i hi o ho
    match i, hi, ho with
    | 0, _, ho => rw [show ops22[0]? = some o22_0 from rfl] at ho; injection ho with ho; subst ho; rfl
    | 1, _, ho => rw [show ops22[1]? = some o22_1 from rfl] at ho; injection ho with ho; subst ho; rfl
    | 2, _, ho => rw [show ops22[2]? = some o22_2 from rfl] at ho; injection ho with ho; subst ho; rfl
    | 3, _, ho => rw [show ops22[3]? = some o22_3 from rfl] at ho; injection ho with ho; subst ho; rfl
    | 4, _, ho => rw [show ops22[4]? = some o22_4 from rfl] at ho; injection ho with ho; subst ho; rfl
    | 5, _, ho => rw [show ops22[5]? = some o22_5 from rfl] at ho; injection ho with ho; subst ho; rfl
    | 6, _, ho => rw [show ops22[6]? = some o22_6 from rfl] at ho; injection ho with ho; subst ho; rfl
    | 7, _, ho => rw [show ops22[7]? = some o22_7 from rfl] at ho; injection ho with ho; subst ho; rfl
    | 8, _, ho => rw [show ops22[8]? = some o22_8 from rfl] at ho; injection ho with ho; subst ho; rfl
    | 9, _, ho => rw [show ops22[9]? = some o22_9 from rfl] at ho; injection ho with ho; subst ho; rfl
    | 10, _, ho => rw [show ops22[10]? = some o22_10 from rfl] at ho; injection ho with ho; subst ho; rfl
    | 11, _, ho => rw [show ops22[11]? = some o22_11 from rfl] at ho; injection ho with ho; subst ho; rfl
    | 12, _, ho => rw [show ops22[12]? = some o22_12 from rfl] at ho; injection ho with ho; subst ho; rfl
    | 13, _, ho => rw [show ops22[13]? = some o22_13 from rfl] at ho; injection ho with ho; subst ho; rfl
    | 14, _, ho => rw [show ops22[14]? = some o22_14 from rfl] at ho; injection ho with ho; subst ho; rfl
    | 15, _, ho => rw [show ops22[15]? = some o22_15 from rfl] at ho; injection ho with ho; subst ho; rfl
    | n + 16, hi, _ => omega
  intro i o ho e he
  have hi : i < 16 := (Array.getElem?_eq_some_iff.1 ho).1
  have := h i hi o ho
  rw [List.all_eq_true] at this
  exact of_decide_eq_true (this e (Array.mem_toList_iff.2 he))
theorem freeze_below {w W : World} {B g k : Nat} (h : Below B w W) (hg : B ≤ g) : Below B w (W.freeze ⟨g, k, none⟩ 1) := by
  have hz := freeze_ext W g k
  have e : W.freeze ⟨g, k, none⟩ 1 = { W with heap := (W.freeze ⟨g, k, none⟩ 1).heap } := by
    unfold World.freeze
    rw [if_neg (by decide)]
  rw [e] at hz ⊢
  exact ⟨h.os, h.tape, h.output, Nat.le_trans h.size hz.1.size, fun b hb => (hz.2 b (by omega)).trans (h.block b hb)⟩
theorem val_wp {a : Act} {W W' : World} {o : Oper} {K : Act → World → Prop} {Q : Exit → Act → World → Prop} {v : Value} (h : (execOp a.eval o).run Try.prog W = .ok (.value v) W') (hk : K (a.put o.dst v) W') : o.wp Try.prog a W K Q := by
  unfold Oper.wp
  rw [h, Oper.upon_value]
  exact hk
theorem st22_0 {r : R22} (hr : r.Ok) {listed : Array Bool} {a : Act} {W : World} {Q : Exit → Act → World → Prop} (h : I22 r listed a W) {o : Oper} (ho : ops22[0]? = some o) {E : Prop} : if Region.wanted o (yielded ops22 a.tmps) = true then o.wp Try.prog a W (I22 r (listed.setIfInBounds 0 true)) Q else E := by
  rw [show ops22[0]? = some o22_0 from rfl] at ho
  injection ho with ho
  subst ho
  rw [if_pos (by rfl)]
  refine val_wp (v := .slice (some ⟨r.g5, 0, none⟩) 1 r.cap5) (W' := W) ?_ (h.step (i := 0) (by omega) (ExtW.of (Below.refl _ _)) h.bel (put_self a 91 _ (by rw [h.sz]; omega)))
  have e : a.eval (.tmp 5) = .slice (some ⟨r.g5, 0, none⟩) 1 r.cap5 := h.s5
  simp only [execOp, o22_0, e]
  rfl
theorem st22_1 {r : R22} (hr : r.Ok) {listed : Array Bool} {a : Act} {W : World} {Q : Exit → Act → World → Prop} (h : I22 r listed a W) (d0 : F22 r 0 a W) {o : Oper} (ho : ops22[1]? = some o) {E : Prop} : if Region.wanted o (yielded ops22 a.tmps) = true then o.wp Try.prog a W (I22 r (listed.setIfInBounds 1 true)) Q else E := by
  rw [show ops22[1]? = some o22_1 from rfl] at ho
  injection ho with ho
  subst ho
  rw [if_pos (by rfl)]
  refine val_wp (v := .pointer (some ⟨r.g5, 0, none⟩)) (W' := W) ?_ (h.step (i := 1) (by omega) (ExtW.of (Below.refl _ _)) h.bel (put_self a 92 _ (by rw [h.sz]; omega)))
  have e : a.eval (.tmp 91) = .slice (some ⟨r.g5, 0, none⟩) 1 r.cap5 := d0
  have e2 : a.eval (.const (.int .i64 0)) = .int .i64 0 := rfl
  simp [execOp, o22_1, e, e2, ix_run]
theorem st22_2 {r : R22} (hr : r.Ok) {listed : Array Bool} {a : Act} {W : World} {Q : Exit → Act → World → Prop} (h : I22 r listed a W) (d1 : F22 r 1 a W) {o : Oper} (ho : ops22[2]? = some o) {E : Prop} : if Region.wanted o (yielded ops22 a.tmps) = true then o.wp Try.prog a W (I22 r (listed.setIfInBounds 2 true)) Q else E := by
  rw [show ops22[2]? = some o22_2 from rfl] at ho
  injection ho with ho
  subst ho
  rw [if_pos (by rfl)]
  have hc := (ExtW.of h.bel).cell hr.c0
  refine val_wp (v := .slice r.ad0 r.l0 r.cp0) (W' := W) ?_ (h.step (i := 2) (by omega) (ExtW.of (Below.refl _ _)) h.bel (put_self a 93 _ (by rw [h.sz]; omega)))
  have e : a.eval (.tmp 92) = .pointer (some ⟨r.g5, 0, none⟩) := d1
  simp [execOp, o22_2, e, ld_run _ _ _ _ W hc]
theorem st22_3 {r : R22} (hr : r.Ok) {listed : Array Bool} {a : Act} {W : World} {Q : Exit → Act → World → Prop} (h : I22 r listed a W) {o : Oper} (ho : ops22[3]? = some o) {E : Prop} : if Region.wanted o (yielded ops22 a.tmps) = true then o.wp Try.prog a W (I22 r (listed.setIfInBounds 3 true)) Q else E := by
  rw [show ops22[3]? = some o22_3 from rfl] at ho
  injection ho with ho
  subst ho
  rw [if_pos (by rfl)]
  have hb : Below W.heap.size W (W.alloc (.cells (bv [46, 104, 97, 115, 40]).toArray 5)) := below_alloc _ _
  have hh : (W.alloc (.cells (bv [46, 104, 97, 115, 40]).toArray 5)).heap[W.heap.size]? = some (.cells (bv [46, 104, 97, 115, 40]).toArray 5) := Array.getElem?_push_size
  refine val_wp (v := .slice (some ⟨W.heap.size, 0, none⟩) 5 5) (W' := W.alloc (.cells (bv [46, 104, 97, 115, 40]).toArray 5)) ?_ (h.step (i := 3) (by omega) (ExtW.of hb) (h.bel.trans (hb.mono h.bel.size)) ⟨W.heap.size, _, put_self a 94 _ (by rw [h.sz]; omega), h.bel.size, hh⟩)
  have e := bs_run3 W
  simp only [execOp, o22_3, List.map_toArray, List.map_cons, List.map_nil, Act.eval]
  simp [e]
theorem st22_4 {r : R22} (hr : r.Ok) {listed : Array Bool} {a : Act} {W : World} {Q : Exit → Act → World → Prop} (h : I22 r listed a W) (d3 : F22 r 3 a W) {o : Oper} (ho : ops22[4]? = some o) {E : Prop} : if Region.wanted o (yielded ops22 a.tmps) = true then o.wp Try.prog a W (I22 r (listed.setIfInBounds 4 true)) Q else E := by
  rw [show ops22[4]? = some o22_4 from rfl] at ho
  injection ho with ho
  subst ho
  rw [if_pos (by rfl)]
  obtain ⟨g, fr, h1, h2, h3⟩ := d3
  have hz := freeze_ext W g (bv [46, 104, 97, 115, 40]).toArray.size
  have hbl : Below r.w5.heap.size r.w5 (W.freeze ⟨g, (bv [46, 104, 97, 115, 40]).toArray.size, none⟩ 1) := freeze_below h.bel h2
  obtain ⟨fr', h4⟩ := hz.1.blk _ _ _ _ h3
  refine val_wp (v := .slice (some ⟨g, 0, none⟩) 5 5) (W' := W.freeze ⟨g, (bv [46, 104, 97, 115, 40]).toArray.size, none⟩ 1) ?_ (h.step (i := 4) (by omega) hz.1 hbl ⟨g, fr', put_self a 95 _ (by rw [h.sz]; omega), h2, h4⟩)
  have e : a.eval (.tmp 94) = .slice (some ⟨g, 0, none⟩) 5 5 := h1
  simp only [execOp, o22_4, e]
  rw [Sem.run_bind, conv_any W g 5 5 _ fr h3]
  rfl
theorem st22_5 {r : R22} (hr : r.Ok) {listed : Array Bool} {a : Act} {W : World} {Q : Exit → Act → World → Prop} (h : I22 r listed a W) {o : Oper} (ho : ops22[5]? = some o) {E : Prop} : if Region.wanted o (yielded ops22 a.tmps) = true then o.wp Try.prog a W (I22 r (listed.setIfInBounds 5 true)) Q else E := by
  rw [show ops22[5]? = some o22_5 from rfl] at ho
  injection ho with ho
  subst ho
  rw [if_pos (by rfl)]
  refine val_wp (v := .slice r.a5 r.lq r.c5) (W' := W) ?_ (h.step (i := 5) (by omega) (ExtW.of (Below.refl _ _)) h.bel (put_self a 96 _ (by rw [h.sz]; omega)))
  have e : a.eval (.tmp 8) = .slice r.a5 r.lq r.c5 := h.s8
  simp only [execOp, o22_5, e]
  rfl
theorem st22_6 {r : R22} (hr : r.Ok) {listed : Array Bool} {a : Act} {W : World} {Q : Exit → Act → World → Prop} (h : I22 r listed a W) {o : Oper} (ho : ops22[6]? = some o) {E : Prop} : if Region.wanted o (yielded ops22 a.tmps) = true then o.wp Try.prog a W (I22 r (listed.setIfInBounds 6 true)) Q else E := by
  rw [show ops22[6]? = some o22_6 from rfl] at ho
  injection ho with ho
  subst ho
  rw [if_pos (by rfl)]
  have hb : Below W.heap.size W (W.alloc (.cells (bv [44, 32]).toArray 5)) := below_alloc _ _
  have hh : (W.alloc (.cells (bv [44, 32]).toArray 5)).heap[W.heap.size]? = some (.cells (bv [44, 32]).toArray 5) := Array.getElem?_push_size
  refine val_wp (v := .slice (some ⟨W.heap.size, 0, none⟩) 2 2) (W' := W.alloc (.cells (bv [44, 32]).toArray 5)) ?_ (h.step (i := 6) (by omega) (ExtW.of hb) (h.bel.trans (hb.mono h.bel.size)) ⟨W.heap.size, _, put_self a 97 _ (by rw [h.sz]; omega), h.bel.size, hh⟩)
  have e := bs_run6 W
  simp only [execOp, o22_6, List.map_toArray, List.map_cons, List.map_nil, Act.eval]
  simp [e]
theorem st22_7 {r : R22} (hr : r.Ok) {listed : Array Bool} {a : Act} {W : World} {Q : Exit → Act → World → Prop} (h : I22 r listed a W) (d6 : F22 r 6 a W) {o : Oper} (ho : ops22[7]? = some o) {E : Prop} : if Region.wanted o (yielded ops22 a.tmps) = true then o.wp Try.prog a W (I22 r (listed.setIfInBounds 7 true)) Q else E := by
  rw [show ops22[7]? = some o22_7 from rfl] at ho
  injection ho with ho
  subst ho
  rw [if_pos (by rfl)]
  obtain ⟨g, fr, h1, h2, h3⟩ := d6
  have hz := freeze_ext W g (bv [44, 32]).toArray.size
  have hbl : Below r.w5.heap.size r.w5 (W.freeze ⟨g, (bv [44, 32]).toArray.size, none⟩ 1) := freeze_below h.bel h2
  obtain ⟨fr', h4⟩ := hz.1.blk _ _ _ _ h3
  refine val_wp (v := .slice (some ⟨g, 0, none⟩) 2 2) (W' := W.freeze ⟨g, (bv [44, 32]).toArray.size, none⟩ 1) ?_ (h.step (i := 7) (by omega) hz.1 hbl ⟨g, fr', put_self a 98 _ (by rw [h.sz]; omega), h2, h4⟩)
  have e : a.eval (.tmp 97) = .slice (some ⟨g, 0, none⟩) 2 2 := h1
  simp only [execOp, o22_7, e]
  rw [Sem.run_bind, conv_any W g 2 2 _ fr h3]
  rfl
theorem st22_8 {r : R22} (hr : r.Ok) {listed : Array Bool} {a : Act} {W : World} {Q : Exit → Act → World → Prop} (h : I22 r listed a W) {o : Oper} (ho : ops22[8]? = some o) {E : Prop} : if Region.wanted o (yielded ops22 a.tmps) = true then o.wp Try.prog a W (I22 r (listed.setIfInBounds 8 true)) Q else E := by
  rw [show ops22[8]? = some o22_8 from rfl] at ho
  injection ho with ho
  subst ho
  rw [if_pos (by rfl)]
  refine val_wp (v := .pointer (some ⟨r.b3, 2, none⟩)) (W' := W) ?_ (h.step (i := 8) (by omega) (ExtW.of (Below.refl _ _)) h.bel (put_self a 99 _ (by rw [h.sz]; omega)))
  have e : a.eval (.tmp 3) = .pointer (some ⟨r.b3, 0, none⟩) := h.s3
  simp [execOp, o22_8, e, fa_run]
theorem st22_9 {r : R22} (hr : r.Ok) {listed : Array Bool} {a : Act} {W : World} {Q : Exit → Act → World → Prop} (h : I22 r listed a W) (d8 : F22 r 8 a W) {o : Oper} (ho : ops22[9]? = some o) {E : Prop} : if Region.wanted o (yielded ops22 a.tmps) = true then o.wp Try.prog a W (I22 r (listed.setIfInBounds 9 true)) Q else E := by
  rw [show ops22[9]? = some o22_9 from rfl] at ho
  injection ho with ho
  subst ho
  rw [if_pos (by rfl)]
  have hc := (ExtW.of h.bel).cell hr.c2
  refine val_wp (v := .string r.t) (W' := W) ?_ (h.step (i := 9) (by omega) (ExtW.of (Below.refl _ _)) h.bel (put_self a 100 _ (by rw [h.sz]; omega)))
  have e : a.eval (.tmp 99) = .pointer (some ⟨r.b3, 2, none⟩) := d8
  simp [execOp, o22_9, e, ls_run _ _ W hc]
theorem st22_10 {r : R22} (hr : r.Ok) {listed : Array Bool} {a : Act} {W : World} {Q : Exit → Act → World → Prop} (h : I22 r listed a W) (d9 : F22 r 9 a W) {o : Oper} (ho : ops22[10]? = some o) {E : Prop} : if Region.wanted o (yielded ops22 a.tmps) = true then o.wp Try.prog a W (I22 r (listed.setIfInBounds 10 true)) Q else E := by
  rw [show ops22[10]? = some o22_10 from rfl] at ho
  injection ho with ho
  subst ho
  refine step_f1 (by rfl) 89 100 _ (by rfl) (.string r.t) (by have := d9; rw [← this, Array.getD_eq_getD_getElem?]) (fun _ _ => rfl) ?_
  refine (l6Quote_any r.t W (by have := hr.ht; omega)).mono ?_
  rintro e w' ⟨a', c', rfl, q1, q2, q3⟩
  exact ⟨_, rfl, h.step (i := 10) (by omega) (ExtW.of q2) (h.bel.trans (q2.mono h.bel.size)) ⟨a', c', put_self a 101 _ (by rw [h.sz]; omega), q1, fun h0 p hp => Nat.le_trans h.bel.size (q3.1 h0 p hp), q3.2⟩⟩
theorem st22_11 {r : R22} (hr : r.Ok) {listed : Array Bool} {a : Act} {W : World} {Q : Exit → Act → World → Prop} (h : I22 r listed a W) {o : Oper} (ho : ops22[11]? = some o) {E : Prop} : if Region.wanted o (yielded ops22 a.tmps) = true then o.wp Try.prog a W (I22 r (listed.setIfInBounds 11 true)) Q else E := by
  rw [show ops22[11]? = some o22_11 from rfl] at ho
  injection ho with ho
  subst ho
  rw [if_pos (by rfl)]
  have hb : Below W.heap.size W (W.alloc (.cells (bv [41]).toArray 5)) := below_alloc _ _
  have hh : (W.alloc (.cells (bv [41]).toArray 5)).heap[W.heap.size]? = some (.cells (bv [41]).toArray 5) := Array.getElem?_push_size
  refine val_wp (v := .slice (some ⟨W.heap.size, 0, none⟩) 1 1) (W' := W.alloc (.cells (bv [41]).toArray 5)) ?_ (h.step (i := 11) (by omega) (ExtW.of hb) (h.bel.trans (hb.mono h.bel.size)) ⟨W.heap.size, _, put_self a 102 _ (by rw [h.sz]; omega), h.bel.size, hh⟩)
  have e := bs_run11 W
  simp only [execOp, o22_11, List.map_toArray, List.map_cons, List.map_nil, Act.eval]
  simp [e]
theorem st22_12 {r : R22} (hr : r.Ok) {listed : Array Bool} {a : Act} {W : World} {Q : Exit → Act → World → Prop} (h : I22 r listed a W) (d11 : F22 r 11 a W) {o : Oper} (ho : ops22[12]? = some o) {E : Prop} : if Region.wanted o (yielded ops22 a.tmps) = true then o.wp Try.prog a W (I22 r (listed.setIfInBounds 12 true)) Q else E := by
  rw [show ops22[12]? = some o22_12 from rfl] at ho
  injection ho with ho
  subst ho
  rw [if_pos (by rfl)]
  obtain ⟨g, fr, h1, h2, h3⟩ := d11
  have hz := freeze_ext W g (bv [41]).toArray.size
  have hbl : Below r.w5.heap.size r.w5 (W.freeze ⟨g, (bv [41]).toArray.size, none⟩ 1) := freeze_below h.bel h2
  obtain ⟨fr', h4⟩ := hz.1.blk _ _ _ _ h3
  refine val_wp (v := .slice (some ⟨g, 0, none⟩) 1 1) (W' := W.freeze ⟨g, (bv [41]).toArray.size, none⟩ 1) ?_ (h.step (i := 12) (by omega) hz.1 hbl ⟨g, fr', put_self a 103 _ (by rw [h.sz]; omega), h2, h4⟩)
  have e : a.eval (.tmp 102) = .slice (some ⟨g, 0, none⟩) 1 1 := h1
  simp only [execOp, o22_12, e]
  rw [Sem.run_bind, conv_any W g 1 1 _ fr h3]
  rfl
theorem st22_13 {r : R22} (hr : r.Ok) {listed : Array Bool} {a : Act} {W : World} {Q : Exit → Act → World → Prop} (h : I22 r listed a W) (d2 : F22 r 2 a W) (d4 : F22 r 4 a W) (d5 : F22 r 5 a W) (d7 : F22 r 7 a W) (d10 : F22 r 10 a W) (d12 : F22 r 12 a W) {o : Oper} (ho : ops22[13]? = some o) {E : Prop} : if Region.wanted o (yielded ops22 a.tmps) = true then o.wp Try.prog a W (I22 r (listed.setIfInBounds 13 true)) Q else E := by
  rw [show ops22[13]? = some o22_13 from rfl] at ho
  injection ho with ho
  subst ho
  rw [if_pos (by rfl)]
  obtain ⟨a1, k1, e1, r1⟩ := LitA.rd d4
  obtain ⟨a3, k3, e3, r3⟩ := LitA.rd d7
  obtain ⟨a4, k4, e4, r4, _⟩ := d10
  obtain ⟨a6, k6, e6, r6⟩ := LitA.rd d12
  have hb : ∀ O, Below W.heap.size W (W.alloc O) := fun O => below_alloc _ _
  have hext := ExtW.of h.bel
  refine val_wp (v := .slice (some ⟨W.heap.size, 0, none⟩) 6 6) ?_ (h.step (i := 13) (by omega) (ExtW.of (hb _)) (h.bel.trans ((hb _).mono h.bel.size)) ⟨W.heap.size, put_self a 104 _ (by rw [h.sz]; omega), rdSL_new W r.PL [.slice r.ad0 r.l0 r.cp0, .slice a1 5 k1, .slice r.a5 r.lq r.c5, .slice a3 2 k3, .slice a4 r.lt.length k4, .slice a6 1 k6] (fun i p hi => ?_)⟩)
  · have f0 : a.eval (.tmp 93) = .slice r.ad0 r.l0 r.cp0 := d2
    have f1 : a.eval (.tmp 95) = .slice a1 5 k1 := e1
    have f2 : a.eval (.tmp 96) = .slice r.a5 r.lq r.c5 := d5
    have f3 : a.eval (.tmp 98) = .slice a3 2 k3 := e3
    have f4 : a.eval (.tmp 101) = .slice a4 r.lt.length k4 := e4
    have f5 : a.eval (.tmp 103) = .slice a6 1 k6 := e6
    have e := bs_run13 _ _ _ _ _ _ _ _ _ _ _ _ _ _ _ _ _ _ _ _ _ _ _ _ f0 f1 f2 f3 f4 f5 W
    simp only [execOp, o22_13, List.map_toArray, List.map_cons, List.map_nil]
    rw [Sem.run_bind, e]
    rw [f0, f1, f2, f3, f4, f5]
    rfl
  · match i, hi with
    | 0, hi => injection hi with hi; subst hi; exact ⟨_, r.cp0, by rw [← hr.hl0]; rfl, hr.rd0.ext hext⟩
    | 1, hi => injection hi with hi; subst hi; exact ⟨_, k1, rfl, r1⟩
    | 2, hi => injection hi with hi; subst hi; exact ⟨_, r.c5, by rw [← hr.hlq]; rfl, hr.rdq.ext hext⟩
    | 3, hi => injection hi with hi; subst hi; exact ⟨_, k3, rfl, r3⟩
    | 4, hi => injection hi with hi; subst hi; exact ⟨_, k4, rfl, r4⟩
    | 5, hi => injection hi with hi; subst hi; exact ⟨_, k6, rfl, r6⟩
    | n + 6, hi => cases hi
theorem st22_14 {r : R22} (hr : r.Ok) {listed : Array Bool} {a : Act} {W : World} {Q : Exit → Act → World → Prop} (h : I22 r listed a W) (d13 : F22 r 13 a W) {o : Oper} (ho : ops22[14]? = some o) {E : Prop} : if Region.wanted o (yielded ops22 a.tmps) = true then o.wp Try.prog a W (I22 r (listed.setIfInBounds 14 true)) Q else E := by
  rw [show ops22[14]? = some o22_14 from rfl] at ho
  injection ho with ho
  subst ho
  obtain ⟨g, e1, e2⟩ := d13
  refine step_f1 (by rfl) 88 104 _ (by rfl) (.slice (some ⟨g, 0, none⟩) 6 6) (by rw [← e1, Array.getD_eq_getD_getElem?]) (fun _ _ => rfl) ?_
  refine (l2Cat_l g 0 6 6 r.PL W e2 rfl (by omega) (by have := hr.hL; omega)).mono ?_
  rintro e w' ⟨a', c', rfl, q1, q2, q3⟩
  exact ⟨_, rfl, h.step (i := 14) (by omega) (ExtW.of q2) (h.bel.trans (q2.mono h.bel.size)) ⟨a', c', put_self a 105 _ (by rw [h.sz]; omega), q1, fun h0 p hp => Nat.le_trans h.bel.size (q3.1 h0 p hp), q3.2⟩⟩
theorem st22_15 {r : R22} (hr : r.Ok) {listed : Array Bool} {a : Act} {W : World} {Q : Exit → Act → World → Prop} (h : I22 r listed a W) (d14 : F22 r 14 a W) {o : Oper} (ho : ops22[15]? = some o) {E : Prop} : if Region.wanted o (yielded ops22 a.tmps) = true then o.wp Try.prog a W (I22 r (listed.setIfInBounds 15 true)) Q else E := by
  rw [show ops22[15]? = some o22_15 from rfl] at ho
  injection ho with ho
  subst ho
  rw [if_pos (by rfl)]
  obtain ⟨ad, c, e1, e2, e3⟩ := d14
  refine val_wp (v := .slice ad r.PL.flatten.length c) (W' := W) ?_ (h.step (i := 15) (by omega) (ExtW.of (Below.refl _ _)) h.bel ⟨ad, c, put_self a 2 _ (by rw [h.sz]; omega), e2, e3⟩)
  have e : a.eval (.tmp 105) = .slice ad r.PL.flatten.length c := e1
  simp only [execOp, o22_15, e]
  rfl
theorem reg22 (r : R22) (hr : r.Ok) {Q : Exit → Act → World → Prop} {id : Nat} (a : Act) (h0 : a.tmps.size = 154) (hd : a.defers = []) (h3 : a.tmps.getD 3 undef = .pointer (some ⟨r.b3, 0, none⟩)) (h5 : a.tmps.getD 5 undef = .slice (some ⟨r.g5, 0, none⟩) 1 r.cap5) (h8 : a.tmps.getD 8 undef = .slice r.a5 r.lq r.c5)
    (hQ : ∀ a' W', a'.defers = [] → TxtA r a' W' 2 r.PL.flatten → Below r.w5.heap.size r.w5 W' → Q .normal a' W') : (Code.region id ops22 true).wp Try.prog Q a r.w5 := by
  refine wp_region_any (by kernel_rfl) ?_
  refine wpAny_inv (I22 r) ops22_acyc (fun listed a W i o hsz ho h hl hdp => ?_) (fun listed a W hsz h hall => ?_) 16 (List.range 16) _ a _ (by simp) (fun i hi _ => List.mem_range.2 hi) (by rfl) ⟨h0, hd, h3, h5, h8, (Below.refl _ _).drew, fun i hi hl => ?_⟩
  · have hi : i < 16 := (Array.getElem?_eq_some_iff.1 ho).1
    have hF : ∀ d, d < 16 → listed.getD d false = true → F22 r d a W := h.fk
    match i, hi, ho with
    | 0, _, ho => exact st22_0 hr h ho
    | 1, _, ho =>
      have ho' := ho
      rw [show ops22[1]? = some o22_1 from rfl] at ho'
      injection ho' with ho'
      have hin : ∀ d, d ∈ [0] → listed.getD d false = true := fun d hd => hdp ⟨d, .data⟩ (by rw [← ho']; simp [o22_1] at hd ⊢; omega) (by rfl)
      exact st22_1 hr h (hF 0 (by omega) (hin 0 (by simp))) ho
    | 2, _, ho =>
      have ho' := ho
      rw [show ops22[2]? = some o22_2 from rfl] at ho'
      injection ho' with ho'
      have hin : ∀ d, d ∈ [1] → listed.getD d false = true := fun d hd => hdp ⟨d, .data⟩ (by rw [← ho']; simp [o22_2] at hd ⊢; omega) (by rfl)
      exact st22_2 hr h (hF 1 (by omega) (hin 1 (by simp))) ho
    | 3, _, ho => exact st22_3 hr h ho
    | 4, _, ho =>
      have ho' := ho
      rw [show ops22[4]? = some o22_4 from rfl] at ho'
      injection ho' with ho'
      have hin : ∀ d, d ∈ [3] → listed.getD d false = true := fun d hd => hdp ⟨d, .data⟩ (by rw [← ho']; simp [o22_4] at hd ⊢; omega) (by rfl)
      exact st22_4 hr h (hF 3 (by omega) (hin 3 (by simp))) ho
    | 5, _, ho => exact st22_5 hr h ho
    | 6, _, ho => exact st22_6 hr h ho
    | 7, _, ho =>
      have ho' := ho
      rw [show ops22[7]? = some o22_7 from rfl] at ho'
      injection ho' with ho'
      have hin : ∀ d, d ∈ [6] → listed.getD d false = true := fun d hd => hdp ⟨d, .data⟩ (by rw [← ho']; simp [o22_7] at hd ⊢; omega) (by rfl)
      exact st22_7 hr h (hF 6 (by omega) (hin 6 (by simp))) ho
    | 8, _, ho => exact st22_8 hr h ho
    | 9, _, ho =>
      have ho' := ho
      rw [show ops22[9]? = some o22_9 from rfl] at ho'
      injection ho' with ho'
      have hin : ∀ d, d ∈ [8] → listed.getD d false = true := fun d hd => hdp ⟨d, .data⟩ (by rw [← ho']; simp [o22_9] at hd ⊢; omega) (by rfl)
      exact st22_9 hr h (hF 8 (by omega) (hin 8 (by simp))) ho
    | 10, _, ho =>
      have ho' := ho
      rw [show ops22[10]? = some o22_10 from rfl] at ho'
      injection ho' with ho'
      have hin : ∀ d, d ∈ [9] → listed.getD d false = true := fun d hd => hdp ⟨d, .data⟩ (by rw [← ho']; simp [o22_10] at hd ⊢; omega) (by rfl)
      exact st22_10 hr h (hF 9 (by omega) (hin 9 (by simp))) ho
    | 11, _, ho => exact st22_11 hr h ho
    | 12, _, ho =>
      have ho' := ho
      rw [show ops22[12]? = some o22_12 from rfl] at ho'
      injection ho' with ho'
      have hin : ∀ d, d ∈ [11] → listed.getD d false = true := fun d hd => hdp ⟨d, .data⟩ (by rw [← ho']; simp [o22_12] at hd ⊢; omega) (by rfl)
      exact st22_12 hr h (hF 11 (by omega) (hin 11 (by simp))) ho
    | 13, _, ho =>
      have ho' := ho
      rw [show ops22[13]? = some o22_13 from rfl] at ho'
      injection ho' with ho'
      have hin : ∀ d, d ∈ [2, 4, 5, 7, 10, 12] → listed.getD d false = true := fun d hd => hdp ⟨d, .data⟩ (by rw [← ho']; simp [o22_13] at hd ⊢; omega) (by rfl)
      exact st22_13 hr h (hF 2 (by omega) (hin 2 (by simp))) (hF 4 (by omega) (hin 4 (by simp))) (hF 5 (by omega) (hin 5 (by simp))) (hF 7 (by omega) (hin 7 (by simp))) (hF 10 (by omega) (hin 10 (by simp))) (hF 12 (by omega) (hin 12 (by simp))) ho
    | 14, _, ho =>
      have ho' := ho
      rw [show ops22[14]? = some o22_14 from rfl] at ho'
      injection ho' with ho'
      have hin : ∀ d, d ∈ [13] → listed.getD d false = true := fun d hd => hdp ⟨d, .data⟩ (by rw [← ho']; simp [o22_14] at hd ⊢; omega) (by rfl)
      exact st22_14 hr h (hF 13 (by omega) (hin 13 (by simp))) ho
    | 15, _, ho =>
      have ho' := ho
      rw [show ops22[15]? = some o22_15 from rfl] at ho'
      injection ho' with ho'
      have hin : ∀ d, d ∈ [14] → listed.getD d false = true := fun d hd => hdp ⟨d, .data⟩ (by rw [← ho']; simp [o22_15] at hd ⊢; omega) (by rfl)
      exact st22_15 hr h (hF 14 (by omega) (hin 14 (by simp))) ho
    | n + 16, hi, _ => omega
  · have hl := hall 15 (by decide)
    have hl' : listed.getD 15 false = true := by
      by_cases hz : 15 < listed.size
      · rw [Array.getD_eq_getD_getElem?, Array.getElem?_eq_getElem hz] at hl ⊢
        exact hl
      · exact absurd hsz (by show ¬ listed.size = 16; omega)
    exact hQ a W h.de (h.fk 15 (by omega) hl') h.bel
  · rw [Array.getD_eq_getD_getElem?] at hl
    have hi2 : i < ops22.size := hi
    simp [hi2] at hl
end Go.Proofs.Ytocmbnocdjnfpaa
