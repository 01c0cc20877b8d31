import Derived.Test.YtocmbnocdjnfpaaPpH
namespace Go.Proofs.Ytocmbnocdjnfpaa
open Go.RowKit Go.Deep
set_option linter.unusedVariables false
set_option maxRecDepth 100000

theorem step_f1 {ops : Array Oper} {o : Oper} {a : Act} {w : World} {K : Act → World → Prop} {Q : Exit → Act → World → Prop} {E : Prop} (hgd : o.guard = none) (k : Nat) (i : Nat) (tys : Array TypeId)
    (ho : o.op = .call { callee := .value (.func k), args := #[.tmp i], argTypes := tys }) (u : Value) (hx : a.tmps[i]?.getD undef = u) (heg : ∀ args w, (callFunc k args).run Try.prog w = .ok (.enter k args) w)
    (h : Calls Try.prog k #[u] w fun e w' => ∃ r, e = .returned r ∧ K (a.put o.dst r) w') :
    if Region.wanted o (yielded ops a.tmps) = true then Oper.wp Try.prog o a w K Q else E := by
  have hw : Region.wanted o (yielded ops a.tmps) = true := by simp [Region.wanted, hgd]
  rw [if_pos hw]
  unfold Oper.wp
  simp [execOp, ho, resolve, invoke, hx, go_sem, heg]
  refine h.mono ?_
  rintro e w' ⟨u, rfl, hk⟩
  exact hk
theorem ix_run (g c : Nat) (W : World) : (Instr.indexAt 129 (.slice (some ⟨g, 0, none⟩) 1 c) (.int .i64 0)).run Try.prog W = .ok (.pointer (some ⟨g, 0, none⟩)) W := by
  simp [Instr.indexAt, go_sem]
theorem ld_run (g : Nat) (ad : Option Addr) (l c : Nat) (W : World) (h : W.cell? ⟨g, 0, none⟩ = some (.slice ad l c)) : (Instr.loadAt 33 (.pointer (some ⟨g, 0, none⟩))).run Try.prog W = .ok (.slice ad l c) W := by
  simp [Instr.loadAt, go_sem, h]
theorem ls_run (g : Nat) (t : ByteArray) (W : World) (h : W.cell? ⟨g, 2, none⟩ = some (.string t)) : (Instr.loadAt 9 (.pointer (some ⟨g, 2, none⟩))).run Try.prog W = .ok (.string t) W := by
  simp [Instr.loadAt, go_sem, h]
theorem fa_run (g : Nat) (W : World) : (Instr.fieldAt 61 (.pointer (some ⟨g, 0, none⟩)) 2).run Try.prog W = .ok (.pointer (some ⟨g, 2, none⟩)) W := by
  simp [Instr.fieldAt, go_sem]
theorem bs_run3 (W : World) : (Instr.buildSlice 33 5 #[(0, .int .u8 46), (1, .int .u8 104), (2, .int .u8 97), (3, .int .u8 115), (4, .int .u8 40)]).run Try.prog W = .ok (.slice (some ⟨W.heap.size, 0, none⟩) 5 5) (W.alloc (.cells (bv [46, 104, 97, 115, 40]).toArray 5)) := by
  simp [Instr.buildSlice, go_sem, bv]
theorem bs_run6 (W : World) : (Instr.buildSlice 33 2 #[(0, .int .u8 44), (1, .int .u8 32)]).run Try.prog W = .ok (.slice (some ⟨W.heap.size, 0, none⟩) 2 2) (W.alloc (.cells (bv [44, 32]).toArray 5)) := by
  simp [Instr.buildSlice, go_sem, bv]
theorem bs_run11 (W : World) : (Instr.buildSlice 33 1 #[(0, .int .u8 41)]).run Try.prog W = .ok (.slice (some ⟨W.heap.size, 0, none⟩) 1 1) (W.alloc (.cells (bv [41]).toArray 5)) := by
  simp [Instr.buildSlice, go_sem, bv]
theorem bs_run13 (v0 v1 v2 v3 v4 v5 : Value) (a0 a1 a2 a3 a4 a5 : Option Addr) (l0 l1 l2 l3 l4 l5 c0 c1 c2 c3 c4 c5 : Nat) (h0 : v0 = .slice a0 l0 c0) (h1 : v1 = .slice a1 l1 c1) (h2 : v2 = .slice a2 l2 c2) (h3 : v3 = .slice a3 l3 c3) (h4 : v4 = .slice a4 l4 c4) (h5 : v5 = .slice a5 l5 c5) (W : World) : (Instr.buildSlice 129 6 #[(0, v0), (1, v1), (2, v2), (3, v3), (4, v4), (5, v5)]).run Try.prog W = .ok (.slice (some ⟨W.heap.size, 0, none⟩) 6 6) (W.alloc (.cells [v0, v1, v2, v3, v4, v5].toArray 33)) := by
  subst h0 h1 h2 h3 h4 h5
  simp [Instr.buildSlice, go_sem]
end Go.Proofs.Ytocmbnocdjnfpaa
