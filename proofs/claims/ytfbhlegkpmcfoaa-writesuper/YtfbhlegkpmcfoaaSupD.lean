import Derived.Test.YtfbhlegkpmcfoaaDevW
import Derived.Test.YtfbhlegkpmcfoaaDevY
import Derived.Test.YtfbhlegkpmcfoaaSecS
import Derived.Test.YtfbhlegkpmcfoaaLateS
namespace Go.Proofs.Ytfbhlegkpmcfoaa
open Go.RowKit Go.Deep
set_option linter.unusedVariables false
set_option maxRecDepth 100000

/-- A call of write in a drawn region: it comes back, or it panics. -/
theorem step_write {ops : Array Oper} {o : Oper} {a : Act} {w : World} {K : Act → World → Prop} {Q : Exit → Act → World → Prop} {E : Prop} {ts : Array TypeId} (hgd : o.guard = none) (x y z : Nat)
    (ho : o.op = .call { callee := .value (.func 80), args := #[.tmp x, .tmp y, .tmp z], argTypes := ts }) (u v t : Value) (hx : a.tmps[x]?.getD undef = u) (hy : a.tmps[y]?.getD undef = v) (hz : a.tmps[z]?.getD undef = t)
    (h : Calls Try.prog 80 #[u, v, t] w fun e w' => (∃ r, e = .returned r ∧ K (a.put o.dst r) w') ∨ (∃ c, e = .panicked c ∧ Q (.panic c) a w')) :
    if Region.wanted o (yielded ops a.tmps) = true then Oper.wp Try.prog o a w K Q else E := by
  have hw : Region.wanted o (yielded ops a.tmps) = true := by simp [Region.wanted, hgd]
  rw [if_pos hw]
  unfold Oper.wp
  simp [execOp, ho, resolve, invoke, hx, hy, hz, go_sem]
  refine h.mono ?_
  rintro e w' (⟨r, rfl, hk⟩ | ⟨c, rfl, hk⟩)
  · exact hk
  · exact hk

set_option maxHeartbeats 1000000 in
theorem writeSuper_steps (b : Nat) (gen ar fi : Int) (w : World) (R : World → Prop) (g0 : 0 ≤ gen) (g1 : gen ≤ 2000000000)
    (h : ∀ (w1 : World) (g : Nat), Below w.heap.size w w1 → w.heap.size ≤ g → Sec w1 g (superF gen ar fi) → Calls Try.prog 80 #[.pointer (some ⟨b, 0, none⟩), .int .i64 (gen % 2), .slice (some ⟨g, 0, none⟩) 64 64] w1 fun e w2 => (e = .panicked [{ v := .iface 111 (.agg #[]), recovered := false }] ∧ R w2) ∨ (e = .returned (.tuple #[]) ∧ Calls Try.prog 81 #[.pointer (some ⟨b, 0, none⟩)] w2 fun e w3 => Stepped e ∧ R w3)) :
    Calls Try.prog 45 #[.pointer (some ⟨b, 0, none⟩), .agg #[.int .i64 gen, .int .i64 ar, .int .i64 fi]] w fun e w' => Stepped e ∧ R w' := by
  have HW : Hid (∀ (w1 : World) (g : Nat), Below w.heap.size w w1 → w.heap.size ≤ g → Sec w1 g (superF gen ar fi) → Calls Try.prog 80 #[.pointer (some ⟨b, 0, none⟩), .int .i64 (gen % 2), .slice (some ⟨g, 0, none⟩) 64 64] w1 fun e w2 => (e = .panicked [{ v := .iface 111 (.agg #[]), recovered := false }] ∧ R w2) ∨ (e = .returned (.tuple #[]) ∧ Calls Try.prog 81 #[.pointer (some ⟨b, 0, none⟩)] w2 fun e w3 => Stepped e ∧ R w3)) := h
  clear h
  go_enter Try.func45, Try.ntmps45
  go_wp2_with fail
  refine (superSector_any gen ar fi _).mono ?_
  rintro e w1 ⟨rfl, hb1⟩
  have hb1' : Below w.heap.size w w1 := (below_alloc _ _).trans (hb1.mono (by simp))
  have x0 : w1.cell? ⟨w.heap.size, 0, none⟩ = some (.int .i64 gen) := (hb1.cell (p := ⟨w.heap.size, 0, none⟩) (by simp)).trans (by simp)
  have z1 : w.heap.size + 1 ≤ w1.heap.size := by have := hb1.size; simpa using this
  have B1 : Hid (Below w.heap.size w w1) := hb1'
  clear hb1 hb1'
  go_wp2_with (first | (with_reducible refine wpList_alloc_sec ?_) | ((with_reducible refine wpList_store_sec w1.heap.size (fun _ => 0) (superF gen ar fi) ?_ ?_ (Sec.new w1 _) ?_); rfl; rfl))
  intro w2 hs2 ho2
  have x2 : w2.cell? ⟨w.heap.size, 0, none⟩ = some (.int .i64 gen) := (World.cell?_of_block (a := ⟨w.heap.size, 0, none⟩) (ho2.block w.heap.size (fun y e => by injection e with e; subst e; show w1.heap.size ≠ w.heap.size; omega))).trans (((below_alloc w1 _).cell (p := ⟨w.heap.size, 0, none⟩) (by show w.heap.size < w1.heap.size; omega)).trans x0)
  have S2 : Hid (Sec w2.drew w1.heap.size (superF gen ar fi)) := hs2
  have B2 : Hid (Below w.heap.size w w2.drew) := ((B1.out.trans ((below_alloc _ _).mono (by omega))).trans (ho2.below (fun y e => by injection e with e; subst e; show w.heap.size ≤ w1.heap.size; omega))).drew
  clear hs2 ho2 x0 B1
  have hg2 : IntKind.i64.wrap (gen % 2) = gen % 2 := by rw [IntKind.wrap_i64]; omega
  go_wp2
  simp only [Act.put, List.setIfInBounds_toArray, List.set_cons_zero, List.set_cons_succ]
  refine wp_region_late (S := fun w' => w'.cell? ⟨w.heap.size, 0, none⟩ = some (.int .i64 gen)) 5 (by kernel_rfl) ?_ (fun hHeld => ?_)
  · ((try dsimp only); go_keep)
  refine late_take 0 .zero (v := ?_) (by kernel_rfl) (by kernel_rfl) (by kernel_rfl) (by kernel_rfl) (fun _ _ _ h => h) (by rfl) ?_ (by assumption) ?_
  rotate_left
  · (intro w hSw; (try dsimp only at hSw); go_simp) <;> with_reducible rfl
  simp only [Act.put, List.setIfInBounds_toArray, List.set_cons_zero, List.set_cons_succ]
  refine late_take 1 (.succ .zero) (v := ?_) (by kernel_rfl) (by kernel_rfl) (by kernel_rfl) (by kernel_rfl) (fun _ _ _ h => h) (by rfl) ?_ (by assumption) ?_
  rotate_left
  · (intro w hSw; (try dsimp only at hSw); go_simp) <;> with_reducible rfl
  simp only [Act.put, List.setIfInBounds_toArray, List.set_cons_zero, List.set_cons_succ]
  refine late_take 2 (.succ (.succ .zero)) (v := ?_) (by kernel_rfl) (by kernel_rfl) (by kernel_rfl) (by kernel_rfl) (fun _ _ _ h => h) (by rfl) ?_ (by assumption) ?_
  rotate_left
  · (intro w hSw; (try dsimp only at hSw); go_simp) <;> with_reducible rfl
  simp only [Act.put, List.setIfInBounds_toArray, List.set_cons_zero, List.set_cons_succ]
  refine late_take 3 (.succ (.succ (.succ .zero))) (v := ?_) (by kernel_rfl) (by kernel_rfl) (by kernel_rfl) (by kernel_rfl) (fun _ _ _ h => h) (by rfl) ?_ (by assumption) ?_
  rotate_left
  · (intro w hSw; (try dsimp only at hSw); go_simp) <;> with_reducible rfl
  simp only [Act.put, List.setIfInBounds_toArray, List.set_cons_zero, List.set_cons_succ]
  refine late_take 4 (.succ (.succ (.succ (.succ .zero)))) (v := ?_) (by kernel_rfl) (by kernel_rfl) (by kernel_rfl) (by kernel_rfl) (fun _ _ _ h => h) (by rfl) ?_ (by assumption) ?_
  rotate_left
  · (intro w hSw; (try dsimp only at hSw); go_simp) <;> with_reducible rfl
  simp only [Act.put, List.setIfInBounds_toArray, List.set_cons_zero, List.set_cons_succ]
  refine late_one 5 (.succ (.succ (.succ (.succ (.succ .zero))))) (by kernel_rfl) (fun K hK => ?_)
  refine step_write (by rfl) 7 10 11 (by rfl) (.pointer (some ⟨b, 0, none⟩)) (.int .i64 (gen % 2)) (.slice (some ⟨w1.heap.size, 0, none⟩) 64 64) (by rfl) (by rw [← Int.tmod_eq_emod_of_nonneg g0]; rfl) (by rfl) ?_
  refine (HW.out w2.drew w1.heap.size B2.out (by omega) S2.out).mono ?_
  rintro e w3 (⟨he, hR⟩ | ⟨he, hsy⟩)
  · refine Or.inr ⟨_, he, ?_⟩
    clear hK K
    go_wp2
    exact ⟨rfl, Or.inr rfl, hR⟩
  refine Or.inl ⟨_, he, ?_⟩
  refine hK.out _ _ ?_ (fun hHeld2 => ?_)
  · (intro hne; exact absurd rfl hne)
  clear hK K hHeld2
  have HSY : Hid (Calls Try.prog 81 #[.pointer (some ⟨b, 0, none⟩)] w3 fun e w3 => Stepped e ∧ R w3) := hsy
  clear hsy he x2 S2 B2 HW
  refine wpLate_done (by kernel_rfl) ?_ _
  go_wp2_with fail
  refine HSY.out.mono ?_
  rintro e w4 ⟨he | he, hR⟩
  · subst he
    go_wp2
    go_end0
    exact ⟨Or.inl rfl, hR⟩
  · subst he
    go_wp2
    exact ⟨rfl, Or.inr rfl, hR⟩
end Go.Proofs.Ytfbhlegkpmcfoaa
