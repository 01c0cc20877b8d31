import Derived.Test.YtakemeccigpbaaaMv1Z
import Derived.Deep.LoopGhost
import Derived.Deep.RegionLaw
import Derived.Lib.SliceRun
import Derived.Test.YtakemeccigpbaaaMw1Z
namespace Go.Proofs.Ytakemeccigpbaaa
open Go.RowKit Go.Deep
set_option linter.unusedVariables false
set_option maxRecDepth 100000

/-- Where a slice cut at its end begins. -/
def cutAt (c k : Nat) : Nat := if c = k then 0 else k

set_option maxHeartbeats 1000000 in
theorem cutSF_any (g n c k : Nat) (w : World) (hk : k = n) (hn : n ≤ c) :
    Calls Try.prog 84 #[.slice (some ⟨g, 0, none⟩) n c, .int .i64 (k : Int)] w fun e w' => e = .returned (.tuple #[.slice (some ⟨g, 0, none⟩) k k, .slice (some ⟨g, cutAt c k, none⟩) 0 (c - k)]) ∧ w' = w.drew := by
  have s1 : ∀ W : World, (Instr.sliceAt 27 (.slice (some ⟨g, 0, none⟩) n c) none (some (.int .i64 (k : Int))) (some (.int .i64 (k : Int)))).run Try.prog W = .ok (.slice (some ⟨g, 0, none⟩) k k) W := by
    intro W
    have hkc : k ≤ c := by omega
    simp [Instr.sliceAt, Instr.slice, go_sem, hkc]
  have s2 : ∀ W : World, (Instr.sliceAt 27 (.slice (some ⟨g, 0, none⟩) n c) (some (.int .i64 (k : Int))) none none).run Try.prog W = .ok (.slice (some ⟨g, cutAt c k, none⟩) 0 (c - k)) W := by
    intro W
    subst hk
    unfold cutAt
    by_cases hkc : c = k
    · simp [Instr.sliceAt, Instr.slice, go_sem, hkc]
    · simp [Instr.sliceAt, Instr.slice, go_sem, hkc]
  clear hk
  go_enter Try.func84, Try.ntmps84
  go_wp2
  go_region_held3 (fun _ => True) (go_keep) (fail)
  go_wp2
  refine bodyPost_ret (v := .tuple #[.slice (some ⟨g, 0, none⟩) k k, .slice (some ⟨g, cutAt c k, none⟩) 0 (c - k)]) (by simp [results, Try.results84, go_sem]) rfl ⟨rfl, rfl⟩

set_option maxHeartbeats 1000000 in
theorem cutNF_any (g n c k : Nat) (w : World) (hk : k = n) (hn : n ≤ c) :
    Calls Try.prog 86 #[.slice (some ⟨g, 0, none⟩) n c, .int .i64 (k : Int)] w fun e w' => e = .returned (.tuple #[.slice (some ⟨g, 0, none⟩) k k, .slice (some ⟨g, cutAt c k, none⟩) 0 (c - k)]) ∧ w' = w.drew := by
  have s1 : ∀ W : World, (Instr.sliceAt 94 (.slice (some ⟨g, 0, none⟩) n c) none (some (.int .i64 (k : Int))) (some (.int .i64 (k : Int)))).run Try.prog W = .ok (.slice (some ⟨g, 0, none⟩) k k) W := by
    intro W
    have hkc : k ≤ c := by omega
    simp [Instr.sliceAt, Instr.slice, go_sem, hkc]
  have s2 : ∀ W : World, (Instr.sliceAt 94 (.slice (some ⟨g, 0, none⟩) n c) (some (.int .i64 (k : Int))) none none).run Try.prog W = .ok (.slice (some ⟨g, cutAt c k, none⟩) 0 (c - k)) W := by
    intro W
    subst hk
    unfold cutAt
    by_cases hkc : c = k
    · simp [Instr.sliceAt, Instr.slice, go_sem, hkc]
    · simp [Instr.sliceAt, Instr.slice, go_sem, hkc]
  clear hk
  go_enter Try.func86, Try.ntmps86
  go_wp2
  go_region_held3 (fun _ => True) (go_keep) (fail)
  go_wp2
  refine bodyPost_ret (v := .tuple #[.slice (some ⟨g, 0, none⟩) k k, .slice (some ⟨g, cutAt c k, none⟩) 0 (c - k)]) (by simp [results, Try.results86, go_sem]) rfl ⟨rfl, rfl⟩

theorem dealLeafF_end (d : Nat) {b r n1 n2 st gg cc : Nat} {L : List ByteArray} {zs : List Value} {W w3 W4 : World} {x0 y0 : Int} (hz : zs = strL L) (hn : n1 + n2 = L.length) (hbr : b ≠ r) (hbW : b < W.heap.size) (hrW : r < W.heap.size) (hst : st = n1 + n2) (hb3 : Below W.heap.size W w3) (ho : w3.ownsRow (W.heap.size + 1) 9 1 (.slice (some ⟨gg, 0, none⟩) (n1 + n2) cc) (n1 + n2) zs) (hf : Fr2 w3 W4 b r) (x1 : Bx W4 b 57 #[.int .i64 x0, .slice (some ⟨gg, 0, none⟩) st st]) (x2 : Bx W4 r 57 #[.int .i64 y0, .slice (some ⟨gg, cutAt cc st, none⟩) 0 (cc - st)]) :
    Ending.returned (.tuple #[]) = .returned (.tuple #[]) ∧ Fr2 W ((W4.setCell ⟨b, 0, none⟩ (.int .i64 (st : Int))).setCell ⟨r, 0, none⟩ (.int .i64 ((0 : Nat) : Int))) b r ∧ TAo (fun x => x = b ∨ W.heap.size ≤ x) ((W4.setCell ⟨b, 0, none⟩ (.int .i64 (st : Int))).setCell ⟨r, 0, none⟩ (.int .i64 ((0 : Nat) : Int))) (d + 1) (.inl L) (.iface 53 (.pointer (some ⟨b, 0, none⟩))) := by
  have hcap := own_cap ho
  have hgl := own_lt ho gg rfl
  have f2 := fr2_set2 W4 b r 0 0 (.int .i64 (st : Int)) (.int .i64 ((0 : Nat) : Int))
  have ft := hf.trans f2
  have y1 : Bx ((W4.setCell ⟨b, 0, none⟩ (.int .i64 (st : Int))).setCell ⟨r, 0, none⟩ (.int .i64 ((0 : Nat) : Int))) b 57 #[.int .i64 (st : Int), .slice (some ⟨gg, 0, none⟩) st st] := by
    have q := (x1.set 0 (.int .i64 (st : Int))).other (p := ⟨r, 0, none⟩) hbr (.int .i64 ((0 : Nat) : Int))
    simpa using q
  have y2 : Bx ((W4.setCell ⟨b, 0, none⟩ (.int .i64 (st : Int))).setCell ⟨r, 0, none⟩ (.int .i64 ((0 : Nat) : Int))) r 57 #[.int .i64 ((0 : Nat) : Int), .slice (some ⟨gg, cutAt cc st, none⟩) 0 (cc - st)] := by
    have q := (x2.other (p := ⟨b, 0, none⟩) hbr.symm (.int .i64 (st : Int))).set 0 (.int .i64 ((0 : Nat) : Int))
    simpa using q
  generalize (W4.setCell ⟨b, 0, none⟩ (.int .i64 (st : Int))).setCell ⟨r, 0, none⟩ (.int .i64 ((0 : Nat) : Int)) = W6 at *
  have hs3 := hb3.size
  have hs6 := ft.2.2.2.1
  have gne : ∀ x, x = b ∨ x = r → gg ≠ x := by
    rintro x (rfl | rfl) <;> omega
  have cell : ∀ j, j < n1 + n2 → W6.cell? ⟨gg, j, none⟩ = some (.string (gt L j)) := by
    intro j hj
    rw [World.cell?_of_block (a := ⟨gg, j, none⟩) (ft.2.2.2.2 gg hgl.2 (gne b (.inl rfl)) (gne r (.inr rfl))), ho.cellAt j (by omega), hz, strL_get L j (by omega)]
  have l1 : L.length = st := by omega
  refine ⟨rfl, (fr2_of b r hb3).trans ft, ⟨b, some ⟨gg, 0, none⟩, st, rfl, .inl rfl, by rw [l1]; exact y1, by omega, ?_⟩⟩
  refine .inr ⟨gg, 0, rfl, .inr (by omega), by omega, fun i hi => ?_⟩
  rw [Nat.zero_add, cell i (by omega)]

set_option maxHeartbeats 8000000 in
theorem dealLeafF_any (d b r n1 n2 c1 c2 st : Nat) (a1 a2 : Option Addr) (x0 y0 : Int) (L1 L2 : List ByteArray) (W : World) (hb : Bx W b 57 #[.int .i64 x0, .slice a1 n1 c1]) (hr : Bx W r 57 #[.int .i64 y0, .slice a2 n2 c2]) (hbr : b ≠ r) (h1 : RdV W a1 n1 (strL L1)) (h2 : RdV W a2 n2 (strL L2)) (hst : st = n1 + n2) (hst0 : 0 < st) (hn : n1 + n2 ≤ 1000) :
    Calls Try.prog 73 #[.iface 53 (.pointer (some ⟨b, 0, none⟩)), .iface 53 (.pointer (some ⟨r, 0, none⟩)), .int .i64 (st : Int)] W fun e w' => e = .returned (.tuple #[]) ∧ Fr2 W w' b r ∧ TAo (fun x => x = b ∨ W.heap.size ≤ x) w' (d + 1) (.inl (L1 ++ L2)) (.iface 53 (.pointer (some ⟨b, 0, none⟩))) := by
  obtain ⟨xs, hxs⟩ : ∃ xs, xs = strL L1 := ⟨_, rfl⟩
  obtain ⟨ys, hys⟩ : ∃ ys, ys = strL L2 := ⟨_, rfl⟩
  rw [← hxs] at h1
  rw [← hys] at h2
  have HXY : Hid (xs ++ ys = strL (L1 ++ L2) ∧ n1 + n2 = (L1 ++ L2).length) := ⟨by rw [hxs, hys, strL_app], by have q1 := h1.1; have q2 := h2.1; rw [hxs, strL_length] at q1; rw [hys, strL_length] at q2; rw [List.length_append]; omega⟩
  have HRD : Hid (RdV W a1 n1 xs ∧ RdV W a2 n2 ys) := ⟨h1, h2⟩
  obtain ⟨X0, hX0⟩ : ∃ X0 : Value, X0 = .int .i64 x0 := ⟨_, rfl⟩
  have HX : Hid (Bx W b 57 #[.int .i64 x0, .slice a1 n1 c1] ∧ Bx W r 57 #[.int .i64 y0, .slice a2 n2 c2]) := ⟨hb, hr⟩
  have p1 := hb.cell 1
  have p2 := hr.cell 1
  simp at p1 p2
  have pz1 := hb.lt
  have pz2 := hr.lt
  have hst1 : st ≤ n1 + n2 := by omega
  have hst2 : n1 + n2 ≤ st := by omega
  clear hst
  clear h1 h2 hb hr hxs hys hX0 X0
  have t1 := ta1 (.pointer (some ⟨b, 0, none⟩))
  have t2 := ta2 (.pointer (some ⟨r, 0, none⟩))
  go_enter Try.func73, Try.ntmps73
  go_upto_region 4 with fail
  have HConc : Hid (Calls Try.prog 85 #[.slice (some ⟨W.heap.size, 0, none⟩) 2 2] (W.alloc (.cells #[.slice a1 n1 c1, .slice a2 n2 c2] 27)).drew fun e w' => ∃ gg cc, e = .returned (.slice (some ⟨gg, 0, none⟩) (n1 + n2) cc) ∧ w'.ownsRow (W.alloc (.cells #[.slice a1 n1 c1, .slice a2 n2 c2] 27)).drew.heap.size 9 1 (.slice (some ⟨gg, 0, none⟩) (n1 + n2) cc) (n1 + n2) (xs ++ ys) ∧ Below (W.alloc (.cells #[.slice a1 n1 c1, .slice a2 n2 c2] 27)).drew.heap.size (W.alloc (.cells #[.slice a1 n1 c1, .slice a2 n2 c2] 27)).drew w') := by
    have nb := (Bx.new W #[.slice a1 n1 c1, .slice a2 n2 c2] 27).drew
    have hbl : Below W.heap.size W (W.alloc (.cells #[.slice a1 n1 c1, .slice a2 n2 c2] 27)).drew := (below_alloc W _).drew
    exact concatS_any W.heap.size 2 n1 n2 c1 c2 a1 a2 xs ys _ ((nb.cell 0).trans (by simp)) ((nb.cell 1).trans (by simp)) (HRD.out.1.below hbl) (HRD.out.2.below hbl) (by omega) hn
  have HB0 : Hid (∀ w2, Below (W.alloc (.cells #[.slice a1 n1 c1, .slice a2 n2 c2] 27)).drew.heap.size (W.alloc (.cells #[.slice a1 n1 c1, .slice a2 n2 c2] 27)).drew w2 → Below W.heap.size W w2) := fun w2 h => (below_alloc W _).drew.trans (h.mono (by show W.heap.size ≤ (W.alloc _).heap.size; simp))
  refine wp_region_late (S := fun _ => True) 22 (by kernel_rfl) trivial (fun hHeld => ?_)
  refine late_take 0 .zero (v := ?_) (by kernel_rfl) (by kernel_rfl) (by kernel_rfl) (by kernel_rfl) (fun _ _ _ h => h) (by rfl) ?_ (by assumption) ?_
  rotate_left
  · (intro w hSw; go_simp) <;> with_reducible rfl
  simp only [Act.put, List.setIfInBounds_toArray, List.set_cons_zero, List.set_cons_succ]
  refine late_take 1 (.succ .zero) (v := ?_) (by kernel_rfl) (by kernel_rfl) (by kernel_rfl) (by kernel_rfl) (fun _ _ _ h => h) (by rfl) ?_ (by assumption) ?_
  rotate_left
  · (intro w hSw; go_simp) <;> with_reducible rfl
  simp only [Act.put, List.setIfInBounds_toArray, List.set_cons_zero, List.set_cons_succ]
  refine late_take 2 (.succ (.succ .zero)) (v := ?_) (by kernel_rfl) (by kernel_rfl) (by kernel_rfl) (by kernel_rfl) (fun _ _ _ h => h) (by rfl) ?_ (by assumption) ?_
  rotate_left
  · (intro w hSw; go_simp) <;> with_reducible rfl
  simp only [Act.put, List.setIfInBounds_toArray, List.set_cons_zero, List.set_cons_succ]
  refine late_take 3 (.succ (.succ (.succ .zero))) (v := ?_) (by kernel_rfl) (by kernel_rfl) (by kernel_rfl) (by kernel_rfl) (fun _ _ _ h => h) (by rfl) ?_ (by assumption) ?_
  rotate_left
  · (intro w hSw; go_simp) <;> with_reducible rfl
  simp only [Act.put, List.setIfInBounds_toArray, List.set_cons_zero, List.set_cons_succ]
  refine late_take 4 (.succ (.succ (.succ (.succ .zero)))) (v := ?_) (by kernel_rfl) (by kernel_rfl) (by kernel_rfl) (by kernel_rfl) (fun _ _ _ h => h) (by rfl) ?_ (by assumption) ?_
  rotate_left
  · (intro w hSw; go_simp) <;> with_reducible rfl
  simp only [Act.put, List.setIfInBounds_toArray, List.set_cons_zero, List.set_cons_succ]
  refine late_take 6 (.succ (.succ (.succ (.succ (.succ (.succ .zero)))))) (v := ?_) (by kernel_rfl) (by kernel_rfl) (by kernel_rfl) (by kernel_rfl) (fun _ _ _ h => h) (by rfl) ?_ (by assumption) ?_
  rotate_left
  · (intro w hSw; go_simp) <;> with_reducible rfl
  simp only [Act.put, List.setIfInBounds_toArray, List.set_cons_zero, List.set_cons_succ]
  refine late_take 7 (.succ (.succ (.succ (.succ (.succ (.succ (.succ .zero))))))) (v := ?_) (by kernel_rfl) (by kernel_rfl) (by kernel_rfl) (by kernel_rfl) (fun _ _ _ h => h) (by rfl) ?_ (by assumption) ?_
  rotate_left
  · (intro w hSw; go_simp) <;> with_reducible rfl
  simp only [Act.put, List.setIfInBounds_toArray, List.set_cons_zero, List.set_cons_succ]
  refine late_take 8 (.succ (.succ (.succ (.succ (.succ (.succ (.succ (.succ .zero)))))))) (v := ?_) (by kernel_rfl) (by kernel_rfl) (by kernel_rfl) (by kernel_rfl) (fun _ _ _ h => h) (by rfl) ?_ (by assumption) ?_
  rotate_left
  · (intro w hSw; go_simp) <;> with_reducible rfl
  simp only [Act.put, List.setIfInBounds_toArray, List.set_cons_zero, List.set_cons_succ]
  refine late_take 12 (.succ (.succ (.succ (.succ (.succ (.succ (.succ (.succ (.succ (.succ (.succ (.succ .zero)))))))))))) (v := ?_) (by kernel_rfl) (by kernel_rfl) (by kernel_rfl) (by kernel_rfl) (fun _ _ _ h => h) (by rfl) ?_ (by assumption) ?_
  rotate_left
  · (intro w hSw; go_simp) <;> with_reducible rfl
  simp only [Act.put, List.setIfInBounds_toArray, List.set_cons_zero, List.set_cons_succ]
  refine late_two 5 9 (.succ (.succ (.succ (.succ (.succ .zero))))) (.succ (.succ (.succ (.succ (.succ (.succ (.succ (.succ (.succ .zero))))))))) (by kernel_rfl) (fun K hK => ?_) (fun K hK => ?_)
  · skip
    go_simp
    refine hK.out _ _ ?_ (fun hHeld2 => ?_)
    · (intro _; trivial)
    clear hK K
    replace hHeld := hHeld2 (by decide)
    clear hHeld2
    try simp only [Act.put, List.setIfInBounds_toArray, List.set_cons_zero, List.set_cons_succ]
    refine late_one 9 (.succ (.succ (.succ (.succ (.succ (.succ (.succ (.succ (.succ .zero))))))))) (by kernel_rfl) (fun K hK => ?_)
    go_simp
    refine hK.out _ _ ?_ (fun hHeld2 => ?_)
    · (intro _; trivial)
    clear hK K
    replace hHeld := hHeld2 (by decide)
    clear hHeld2
    try simp only [Act.put, List.setIfInBounds_toArray, List.set_cons_zero, List.set_cons_succ]
    refine late_one 10 (.succ (.succ (.succ (.succ (.succ (.succ (.succ (.succ (.succ (.succ .zero)))))))))) (by kernel_rfl) (fun K hK => ?_)
    go_simp
    refine hK.out _ _ ?_ (fun hHeld2 => ?_)
    · (intro _; trivial)
    clear hK K
    replace hHeld := hHeld2 (by decide)
    clear hHeld2
    try simp only [Act.put, List.setIfInBounds_toArray, List.set_cons_zero, List.set_cons_succ]
    refine late_one 11 (.succ (.succ (.succ (.succ (.succ (.succ (.succ (.succ (.succ (.succ (.succ .zero))))))))))) (by kernel_rfl) (fun K hK => ?_)
    refine step_t1 (by rfl) 85 27 _ (by rfl) (.slice (some ⟨W.heap.size, 0, none⟩) 2 2) (by rfl) (fun _ _ => by rfl) ?_
    (with_reducible refine HConc.out.mono ?_)
    rintro e w2 ⟨gg, cc, rfl, ho2, hb2⟩
    refine ⟨_, rfl, ?_⟩
    have H2 : Hid (w2.ownsRow (W.heap.size + 1) 9 1 (.slice (some ⟨gg, 0, none⟩) (n1 + n2) cc) (n1 + n2) (xs ++ ys) ∧ Below W.heap.size W w2) := ⟨by have q : (W.alloc (.cells #[.slice a1 n1 c1, .slice a2 n2 c2] 27)).drew.heap.size = W.heap.size + 1 := (show (W.alloc (.cells #[.slice a1 n1 c1, .slice a2 n2 c2] 27)).heap.size = W.heap.size + 1 by simp); rw [q] at ho2; exact ho2, HB0.out w2 hb2⟩
    have hcc := own_cap H2.out.1
    clear ho2 hb2
    refine hK.out _ _ ?_ (fun hHeld2 => ?_)
    · (intro _; trivial)
    clear hK K
    replace hHeld := hHeld2 (by decide)
    clear hHeld2
    try simp only [Act.put, List.setIfInBounds_toArray, List.set_cons_zero, List.set_cons_succ]
    refine late_one 13 (.succ (.succ (.succ (.succ (.succ (.succ (.succ (.succ (.succ (.succ (.succ (.succ (.succ .zero))))))))))))) (by kernel_rfl) (fun K hK => ?_)
    have HCut : Hid (Calls Try.prog 84 #[.slice (some ⟨gg, 0, none⟩) (n1 + n2) cc, .int .i64 (st : Int)] w2 fun e w' => e = .returned (.tuple #[.slice (some ⟨gg, 0, none⟩) st st, .slice (some ⟨gg, cutAt cc st, none⟩) 0 (cc - st)]) ∧ w' = w2.drew) := cutSF_any gg (n1 + n2) cc st w2 (by omega) hcc.1
    refine step_t2 (by rfl) 84 28 29 _ (by rfl) (.slice (some ⟨gg, 0, none⟩) (n1 + n2) cc) (.int .i64 (st : Int)) (by rfl) (by rfl) (fun _ _ => by rfl) ?_
    (with_reducible refine HCut.out.mono ?_)
    rintro e w3 ⟨rfl, hw3⟩
    refine ⟨_, rfl, ?_⟩
    have H3 : Hid (Bx w3 b 57 #[.int .i64 x0, .slice a1 n1 c1] ∧ Bx w3 r 57 #[.int .i64 y0, .slice a2 n2 c2] ∧ w3.ownsRow (W.heap.size + 1) 9 1 (.slice (some ⟨gg, 0, none⟩) (n1 + n2) cc) (n1 + n2) (xs ++ ys) ∧ Below W.heap.size W w3) := by
      subst hw3
      exact ⟨(HX.out.1.below H2.out.2).drew, (HX.out.2.below H2.out.2).drew, own_below H2.out.1 (Below.refl _ _).drew, H2.out.2.drew⟩
    have l1 := H3.out.1.cell 1
    have l2 := H3.out.2.1.cell 1
    simp at l1 l2
    have lf1 := H3.out.1.frozen 1
    have lf2 := H3.out.2.1.frozen 1
    have lz1 := H3.out.1.lt
    have lz2 := H3.out.2.1.lt
    clear hw3 HCut
    refine hK.out _ _ ?_ (fun hHeld2 => ?_)
    · (intro _; trivial)
    clear hK K
    replace hHeld := hHeld2 (by decide)
    clear hHeld2
    try simp only [Act.put, List.setIfInBounds_toArray, List.set_cons_zero, List.set_cons_succ]
    refine late_one 14 (.succ (.succ (.succ (.succ (.succ (.succ (.succ (.succ (.succ (.succ (.succ (.succ (.succ (.succ .zero)))))))))))))) (by kernel_rfl) (fun K hK => ?_)
    go_simp
    refine hK.out _ _ ?_ (fun hHeld2 => ?_)
    · (intro _; trivial)
    clear hK K
    replace hHeld := hHeld2 (by decide)
    clear hHeld2
    try simp only [Act.put, List.setIfInBounds_toArray, List.set_cons_zero, List.set_cons_succ]
    refine late_take 15 (.succ (.succ (.succ (.succ (.succ (.succ (.succ (.succ (.succ (.succ (.succ (.succ (.succ (.succ (.succ .zero))))))))))))))) (v := ?_) (by kernel_rfl) (by kernel_rfl) (by kernel_rfl) (by kernel_rfl) (fun _ _ _ h => h) (by rfl) ?_ (by assumption) ?_
    rotate_left
    · (intro w hSw; go_simp) <;> with_reducible rfl
    simp only [Act.put, List.setIfInBounds_toArray, List.set_cons_zero, List.set_cons_succ]
    refine late_take 16 (.succ (.succ (.succ (.succ (.succ (.succ (.succ (.succ (.succ (.succ (.succ (.succ (.succ (.succ (.succ (.succ .zero)))))))))))))))) (v := ?_) (by kernel_rfl) (by kernel_rfl) (by kernel_rfl) (by kernel_rfl) (fun _ _ _ h => h) (by rfl) ?_ (by assumption) ?_
    rotate_left
    · (intro w hSw; go_simp) <;> with_reducible rfl
    simp only [Act.put, List.setIfInBounds_toArray, List.set_cons_zero, List.set_cons_succ]
    refine late_take 17 (.succ (.succ (.succ (.succ (.succ (.succ (.succ (.succ (.succ (.succ (.succ (.succ (.succ (.succ (.succ (.succ (.succ .zero))))))))))))))))) (v := ?_) (by kernel_rfl) (by kernel_rfl) (by kernel_rfl) (by kernel_rfl) (fun _ _ _ h => h) (by rfl) ?_ (by assumption) ?_
    rotate_left
    · (intro w hSw; go_simp) <;> with_reducible rfl
    simp only [Act.put, List.setIfInBounds_toArray, List.set_cons_zero, List.set_cons_succ]
    refine late_take 18 (.succ (.succ (.succ (.succ (.succ (.succ (.succ (.succ (.succ (.succ (.succ (.succ (.succ (.succ (.succ (.succ (.succ (.succ .zero)))))))))))))))))) (v := ?_) (by kernel_rfl) (by kernel_rfl) (by kernel_rfl) (by kernel_rfl) (fun _ _ _ h => h) (by rfl) ?_ (by assumption) ?_
    rotate_left
    · (intro w hSw; go_simp) <;> with_reducible rfl
    simp only [Act.put, List.setIfInBounds_toArray, List.set_cons_zero, List.set_cons_succ]
    refine late_one 19 (.succ (.succ (.succ (.succ (.succ (.succ (.succ (.succ (.succ (.succ (.succ (.succ (.succ (.succ (.succ (.succ (.succ (.succ (.succ .zero))))))))))))))))))) (by kernel_rfl) (fun K hK => ?_)
    go_simp
    refine hK.out _ _ ?_ (fun hHeld2 => ?_)
    · (intro _; trivial)
    clear hK K
    replace hHeld := hHeld2 (by decide)
    clear hHeld2
    try simp only [Act.put, List.setIfInBounds_toArray, List.set_cons_zero, List.set_cons_succ]
    refine late_one 20 (.succ (.succ (.succ (.succ (.succ (.succ (.succ (.succ (.succ (.succ (.succ (.succ (.succ (.succ (.succ (.succ (.succ (.succ (.succ (.succ .zero)))))))))))))))))))) (by kernel_rfl) (fun K hK => ?_)
    go_simp
    refine hK.out _ _ ?_ (fun hHeld2 => ?_)
    · (intro _; trivial)
    clear hK K
    replace hHeld := hHeld2 (by decide)
    clear hHeld2
    try simp only [Act.put, List.setIfInBounds_toArray, List.set_cons_zero, List.set_cons_succ]
    refine late_one 21 (.succ (.succ (.succ (.succ (.succ (.succ (.succ (.succ (.succ (.succ (.succ (.succ (.succ (.succ (.succ (.succ (.succ (.succ (.succ (.succ (.succ .zero))))))))))))))))))))) (by kernel_rfl) (fun K hK => ?_)
    go_simp
    refine hK.out _ _ ?_ (fun hHeld2 => ?_)
    · (intro _; trivial)
    clear hK K
    replace hHeld := hHeld2 (by decide)
    clear hHeld2
    try simp only [Act.put, List.setIfInBounds_toArray, List.set_cons_zero, List.set_cons_succ]
    refine late_one 22 (.succ (.succ (.succ (.succ (.succ (.succ (.succ (.succ (.succ (.succ (.succ (.succ (.succ (.succ (.succ (.succ (.succ (.succ (.succ (.succ (.succ (.succ .zero)))))))))))))))))))))) (by kernel_rfl) (fun K hK => ?_)
    go_simp
    refine hK.out _ _ ?_ (fun hHeld2 => ?_)
    · (intro hne; exact absurd rfl hne)
    clear hK K hHeld2
    refine wpLate_done (by kernel_rfl) ?_ _
    have HW : Hid (Bx ((w3.setCell ⟨b, 1, none⟩ (.slice (some ⟨gg, 0, none⟩) st st)).setCell ⟨r, 1, none⟩ (.slice (some ⟨gg, cutAt cc st, none⟩) 0 (cc - st))) b 57 #[.int .i64 x0, .slice (some ⟨gg, 0, none⟩) st st] ∧ Bx ((w3.setCell ⟨b, 1, none⟩ (.slice (some ⟨gg, 0, none⟩) st st)).setCell ⟨r, 1, none⟩ (.slice (some ⟨gg, cutAt cc st, none⟩) 0 (cc - st))) r 57 #[.int .i64 y0, .slice (some ⟨gg, cutAt cc st, none⟩) 0 (cc - st)] ∧ Fr2 w3 ((w3.setCell ⟨b, 1, none⟩ (.slice (some ⟨gg, 0, none⟩) st st)).setCell ⟨r, 1, none⟩ (.slice (some ⟨gg, cutAt cc st, none⟩) 0 (cc - st))) b r) := by
      refine ⟨?_, ?_, fr2_set2 _ _ _ _ _ _ _⟩
      · have q := (H3.out.1.set 1 (.slice (some ⟨gg, 0, none⟩) st st)).other (p := ⟨r, 1, none⟩) hbr (.slice (some ⟨gg, cutAt cc st, none⟩) 0 (cc - st))
        simpa using q
      · have q := (H3.out.2.1.other (p := ⟨b, 1, none⟩) hbr.symm (.slice (some ⟨gg, 0, none⟩) st st)).set 1 (.slice (some ⟨gg, cutAt cc st, none⟩) 0 (cc - st))
        simpa using q
    generalize (w3.setCell ⟨b, 1, none⟩ (.slice (some ⟨gg, 0, none⟩) st st)).setCell ⟨r, 1, none⟩ (.slice (some ⟨gg, cutAt cc st, none⟩) 0 (cc - st)) = W4 at HW ⊢
    clear l1 l2 lf1 lf2 lz1 lz2 hHeld
    have HR1 : Hid (Calls Try.prog 82 #[.pointer (some ⟨b, 0, none⟩)] W4 fun e w' => e = .returned (.tuple #[]) ∧ w' = W4.setCell ⟨b, 0, none⟩ (.int .i64 (st : Int))) := recountLeaf_any b st st _ x0 W4 HW.out.1
    go_wp2_with fail
    (with_reducible refine HR1.out.mono ?_)
    rintro e w5 ⟨rfl, rfl⟩
    have HX5 : Hid (Bx (W4.setCell ⟨b, 0, none⟩ (.int .i64 (st : Int))) b 57 #[.int .i64 (st : Int), .slice (some ⟨gg, 0, none⟩) st st] ∧ Bx (W4.setCell ⟨b, 0, none⟩ (.int .i64 (st : Int))) r 57 #[.int .i64 y0, .slice (some ⟨gg, cutAt cc st, none⟩) 0 (cc - st)]) := ⟨by simpa using HW.out.1.set 0 (.int .i64 (st : Int)), HW.out.2.1.other (p := ⟨b, 0, none⟩) hbr.symm _⟩
    have HR2 : Hid (Calls Try.prog 82 #[.pointer (some ⟨r, 0, none⟩)] (W4.setCell ⟨b, 0, none⟩ (.int .i64 (st : Int))) fun e w' => e = .returned (.tuple #[]) ∧ w' = (W4.setCell ⟨b, 0, none⟩ (.int .i64 (st : Int))).setCell ⟨r, 0, none⟩ (.int .i64 ((0 : Nat) : Int))) := recountLeaf_any r 0 (cc - st) _ y0 _ HX5.out.2
    go_wp2_with fail
    (with_reducible refine HR2.out.mono ?_)
    rintro e w6 ⟨rfl, rfl⟩
    go_wp2
    go_end0
    exact dealLeafF_end d HXY.out.1 HXY.out.2 hbr pz1 pz2 (by omega) H3.out.2.2.2 H3.out.2.2.1 HW.out.2.2 HW.out.1 HW.out.2.1
  · skip
    go_simp
    refine hK.out _ _ ?_ (fun hHeld2 => ?_)
    · (intro _; trivial)
    clear hK K
    replace hHeld := hHeld2 (by decide)
    clear hHeld2
    try simp only [Act.put, List.setIfInBounds_toArray, List.set_cons_zero, List.set_cons_succ]
    refine late_one 5 (.succ (.succ (.succ (.succ (.succ .zero))))) (by kernel_rfl) (fun K hK => ?_)
    go_simp
    refine hK.out _ _ ?_ (fun hHeld2 => ?_)
    · (intro _; trivial)
    clear hK K
    replace hHeld := hHeld2 (by decide)
    clear hHeld2
    try simp only [Act.put, List.setIfInBounds_toArray, List.set_cons_zero, List.set_cons_succ]
    refine late_one 10 (.succ (.succ (.succ (.succ (.succ (.succ (.succ (.succ (.succ (.succ .zero)))))))))) (by kernel_rfl) (fun K hK => ?_)
    go_simp
    refine hK.out _ _ ?_ (fun hHeld2 => ?_)
    · (intro _; trivial)
    clear hK K
    replace hHeld := hHeld2 (by decide)
    clear hHeld2
    try simp only [Act.put, List.setIfInBounds_toArray, List.set_cons_zero, List.set_cons_succ]
    refine late_one 11 (.succ (.succ (.succ (.succ (.succ (.succ (.succ (.succ (.succ (.succ (.succ .zero))))))))))) (by kernel_rfl) (fun K hK => ?_)
    refine step_t1 (by rfl) 85 27 _ (by rfl) (.slice (some ⟨W.heap.size, 0, none⟩) 2 2) (by rfl) (fun _ _ => by rfl) ?_
    (with_reducible refine HConc.out.mono ?_)
    rintro e w2 ⟨gg, cc, rfl, ho2, hb2⟩
    refine ⟨_, rfl, ?_⟩
    have H2 : Hid (w2.ownsRow (W.heap.size + 1) 9 1 (.slice (some ⟨gg, 0, none⟩) (n1 + n2) cc) (n1 + n2) (xs ++ ys) ∧ Below W.heap.size W w2) := ⟨by have q : (W.alloc (.cells #[.slice a1 n1 c1, .slice a2 n2 c2] 27)).drew.heap.size = W.heap.size + 1 := (show (W.alloc (.cells #[.slice a1 n1 c1, .slice a2 n2 c2] 27)).heap.size = W.heap.size + 1 by simp); rw [q] at ho2; exact ho2, HB0.out w2 hb2⟩
    have hcc := own_cap H2.out.1
    clear ho2 hb2
    refine hK.out _ _ ?_ (fun hHeld2 => ?_)
    · (intro _; trivial)
    clear hK K
    replace hHeld := hHeld2 (by decide)
    clear hHeld2
    try simp only [Act.put, List.setIfInBounds_toArray, List.set_cons_zero, List.set_cons_succ]
    refine late_one 13 (.succ (.succ (.succ (.succ (.succ (.succ (.succ (.succ (.succ (.succ (.succ (.succ (.succ .zero))))))))))))) (by kernel_rfl) (fun K hK => ?_)
    have HCut : Hid (Calls Try.prog 84 #[.slice (some ⟨gg, 0, none⟩) (n1 + n2) cc, .int .i64 (st : Int)] w2 fun e w' => e = .returned (.tuple #[.slice (some ⟨gg, 0, none⟩) st st, .slice (some ⟨gg, cutAt cc st, none⟩) 0 (cc - st)]) ∧ w' = w2.drew) := cutSF_any gg (n1 + n2) cc st w2 (by omega) hcc.1
    refine step_t2 (by rfl) 84 28 29 _ (by rfl) (.slice (some ⟨gg, 0, none⟩) (n1 + n2) cc) (.int .i64 (st : Int)) (by rfl) (by rfl) (fun _ _ => by rfl) ?_
    (with_reducible refine HCut.out.mono ?_)
    rintro e w3 ⟨rfl, hw3⟩
    refine ⟨_, rfl, ?_⟩
    have H3 : Hid (Bx w3 b 57 #[.int .i64 x0, .slice a1 n1 c1] ∧ Bx w3 r 57 #[.int .i64 y0, .slice a2 n2 c2] ∧ w3.ownsRow (W.heap.size + 1) 9 1 (.slice (some ⟨gg, 0, none⟩) (n1 + n2) cc) (n1 + n2) (xs ++ ys) ∧ Below W.heap.size W w3) := by
      subst hw3
      exact ⟨(HX.out.1.below H2.out.2).drew, (HX.out.2.below H2.out.2).drew, own_below H2.out.1 (Below.refl _ _).drew, H2.out.2.drew⟩
    have l1 := H3.out.1.cell 1
    have l2 := H3.out.2.1.cell 1
    simp at l1 l2
    have lf1 := H3.out.1.frozen 1
    have lf2 := H3.out.2.1.frozen 1
    have lz1 := H3.out.1.lt
    have lz2 := H3.out.2.1.lt
    clear hw3 HCut
    refine hK.out _ _ ?_ (fun hHeld2 => ?_)
    · (intro _; trivial)
    clear hK K
    replace hHeld := hHeld2 (by decide)
    clear hHeld2
    try simp only [Act.put, List.setIfInBounds_toArray, List.set_cons_zero, List.set_cons_succ]
    refine late_one 14 (.succ (.succ (.succ (.succ (.succ (.succ (.succ (.succ (.succ (.succ (.succ (.succ (.succ (.succ .zero)))))))))))))) (by kernel_rfl) (fun K hK => ?_)
    go_simp
    refine hK.out _ _ ?_ (fun hHeld2 => ?_)
    · (intro _; trivial)
    clear hK K
    replace hHeld := hHeld2 (by decide)
    clear hHeld2
    try simp only [Act.put, List.setIfInBounds_toArray, List.set_cons_zero, List.set_cons_succ]
    refine late_take 15 (.succ (.succ (.succ (.succ (.succ (.succ (.succ (.succ (.succ (.succ (.succ (.succ (.succ (.succ (.succ .zero))))))))))))))) (v := ?_) (by kernel_rfl) (by kernel_rfl) (by kernel_rfl) (by kernel_rfl) (fun _ _ _ h => h) (by rfl) ?_ (by assumption) ?_
    rotate_left
    · (intro w hSw; go_simp) <;> with_reducible rfl
    simp only [Act.put, List.setIfInBounds_toArray, List.set_cons_zero, List.set_cons_succ]
    refine late_take 16 (.succ (.succ (.succ (.succ (.succ (.succ (.succ (.succ (.succ (.succ (.succ (.succ (.succ (.succ (.succ (.succ .zero)))))))))))))))) (v := ?_) (by kernel_rfl) (by kernel_rfl) (by kernel_rfl) (by kernel_rfl) (fun _ _ _ h => h) (by rfl) ?_ (by assumption) ?_
    rotate_left
    · (intro w hSw; go_simp) <;> with_reducible rfl
    simp only [Act.put, List.setIfInBounds_toArray, List.set_cons_zero, List.set_cons_succ]
    refine late_take 17 (.succ (.succ (.succ (.succ (.succ (.succ (.succ (.succ (.succ (.succ (.succ (.succ (.succ (.succ (.succ (.succ (.succ .zero))))))))))))))))) (v := ?_) (by kernel_rfl) (by kernel_rfl) (by kernel_rfl) (by kernel_rfl) (fun _ _ _ h => h) (by rfl) ?_ (by assumption) ?_
    rotate_left
    · (intro w hSw; go_simp) <;> with_reducible rfl
    simp only [Act.put, List.setIfInBounds_toArray, List.set_cons_zero, List.set_cons_succ]
    refine late_take 18 (.succ (.succ (.succ (.succ (.succ (.succ (.succ (.succ (.succ (.succ (.succ (.succ (.succ (.succ (.succ (.succ (.succ (.succ .zero)))))))))))))))))) (v := ?_) (by kernel_rfl) (by kernel_rfl) (by kernel_rfl) (by kernel_rfl) (fun _ _ _ h => h) (by rfl) ?_ (by assumption) ?_
    rotate_left
    · (intro w hSw; go_simp) <;> with_reducible rfl
    simp only [Act.put, List.setIfInBounds_toArray, List.set_cons_zero, List.set_cons_succ]
    refine late_one 19 (.succ (.succ (.succ (.succ (.succ (.succ (.succ (.succ (.succ (.succ (.succ (.succ (.succ (.succ (.succ (.succ (.succ (.succ (.succ .zero))))))))))))))))))) (by kernel_rfl) (fun K hK => ?_)
    go_simp
    refine hK.out _ _ ?_ (fun hHeld2 => ?_)
    · (intro _; trivial)
    clear hK K
    replace hHeld := hHeld2 (by decide)
    clear hHeld2
    try simp only [Act.put, List.setIfInBounds_toArray, List.set_cons_zero, List.set_cons_succ]
    refine late_one 20 (.succ (.succ (.succ (.succ (.succ (.succ (.succ (.succ (.succ (.succ (.succ (.succ (.succ (.succ (.succ (.succ (.succ (.succ (.succ (.succ .zero)))))))))))))))))))) (by kernel_rfl) (fun K hK => ?_)
    go_simp
    refine hK.out _ _ ?_ (fun hHeld2 => ?_)
    · (intro _; trivial)
    clear hK K
    replace hHeld := hHeld2 (by decide)
    clear hHeld2
    try simp only [Act.put, List.setIfInBounds_toArray, List.set_cons_zero, List.set_cons_succ]
    refine late_one 21 (.succ (.succ (.succ (.succ (.succ (.succ (.succ (.succ (.succ (.succ (.succ (.succ (.succ (.succ (.succ (.succ (.succ (.succ (.succ (.succ (.succ .zero))))))))))))))))))))) (by kernel_rfl) (fun K hK => ?_)
    go_simp
    refine hK.out _ _ ?_ (fun hHeld2 => ?_)
    · (intro _; trivial)
    clear hK K
    replace hHeld := hHeld2 (by decide)
    clear hHeld2
    try simp only [Act.put, List.setIfInBounds_toArray, List.set_cons_zero, List.set_cons_succ]
    refine late_one 22 (.succ (.succ (.succ (.succ (.succ (.succ (.succ (.succ (.succ (.succ (.succ (.succ (.succ (.succ (.succ (.succ (.succ (.succ (.succ (.succ (.succ (.succ .zero)))))))))))))))))))))) (by kernel_rfl) (fun K hK => ?_)
    go_simp
    refine hK.out _ _ ?_ (fun hHeld2 => ?_)
    · (intro hne; exact absurd rfl hne)
    clear hK K hHeld2
    refine wpLate_done (by kernel_rfl) ?_ _
    have HW : Hid (Bx ((w3.setCell ⟨b, 1, none⟩ (.slice (some ⟨gg, 0, none⟩) st st)).setCell ⟨r, 1, none⟩ (.slice (some ⟨gg, cutAt cc st, none⟩) 0 (cc - st))) b 57 #[.int .i64 x0, .slice (some ⟨gg, 0, none⟩) st st] ∧ Bx ((w3.setCell ⟨b, 1, none⟩ (.slice (some ⟨gg, 0, none⟩) st st)).setCell ⟨r, 1, none⟩ (.slice (some ⟨gg, cutAt cc st, none⟩) 0 (cc - st))) r 57 #[.int .i64 y0, .slice (some ⟨gg, cutAt cc st, none⟩) 0 (cc - st)] ∧ Fr2 w3 ((w3.setCell ⟨b, 1, none⟩ (.slice (some ⟨gg, 0, none⟩) st st)).setCell ⟨r, 1, none⟩ (.slice (some ⟨gg, cutAt cc st, none⟩) 0 (cc - st))) b r) := by
      refine ⟨?_, ?_, fr2_set2 _ _ _ _ _ _ _⟩
      · have q := (H3.out.1.set 1 (.slice (some ⟨gg, 0, none⟩) st st)).other (p := ⟨r, 1, none⟩) hbr (.slice (some ⟨gg, cutAt cc st, none⟩) 0 (cc - st))
        simpa using q
      · have q := (H3.out.2.1.other (p := ⟨b, 1, none⟩) hbr.symm (.slice (some ⟨gg, 0, none⟩) st st)).set 1 (.slice (some ⟨gg, cutAt cc st, none⟩) 0 (cc - st))
        simpa using q
    generalize (w3.setCell ⟨b, 1, none⟩ (.slice (some ⟨gg, 0, none⟩) st st)).setCell ⟨r, 1, none⟩ (.slice (some ⟨gg, cutAt cc st, none⟩) 0 (cc - st)) = W4 at HW ⊢
    clear l1 l2 lf1 lf2 lz1 lz2 hHeld
    have HR1 : Hid (Calls Try.prog 82 #[.pointer (some ⟨b, 0, none⟩)] W4 fun e w' => e = .returned (.tuple #[]) ∧ w' = W4.setCell ⟨b, 0, none⟩ (.int .i64 (st : Int))) := recountLeaf_any b st st _ x0 W4 HW.out.1
    go_wp2_with fail
    (with_reducible refine HR1.out.mono ?_)
    rintro e w5 ⟨rfl, rfl⟩
    have HX5 : Hid (Bx (W4.setCell ⟨b, 0, none⟩ (.int .i64 (st : Int))) b 57 #[.int .i64 (st : Int), .slice (some ⟨gg, 0, none⟩) st st] ∧ Bx (W4.setCell ⟨b, 0, none⟩ (.int .i64 (st : Int))) r 57 #[.int .i64 y0, .slice (some ⟨gg, cutAt cc st, none⟩) 0 (cc - st)]) := ⟨by simpa using HW.out.1.set 0 (.int .i64 (st : Int)), HW.out.2.1.other (p := ⟨b, 0, none⟩) hbr.symm _⟩
    have HR2 : Hid (Calls Try.prog 82 #[.pointer (some ⟨r, 0, none⟩)] (W4.setCell ⟨b, 0, none⟩ (.int .i64 (st : Int))) fun e w' => e = .returned (.tuple #[]) ∧ w' = (W4.setCell ⟨b, 0, none⟩ (.int .i64 (st : Int))).setCell ⟨r, 0, none⟩ (.int .i64 ((0 : Nat) : Int))) := recountLeaf_any r 0 (cc - st) _ y0 _ HX5.out.2
    go_wp2_with fail
    (with_reducible refine HR2.out.mono ?_)
    rintro e w6 ⟨rfl, rfl⟩
    go_wp2
    go_end0
    exact dealLeafF_end d HXY.out.1 HXY.out.2 hbr pz1 pz2 (by omega) H3.out.2.2.2 H3.out.2.2.1 HW.out.2.2 HW.out.1 HW.out.2.1

set_option maxHeartbeats 8000000 in
theorem dealInnerF_any (d b r n1 n2 c1 c2 st : Nat) (a1 a2 : Option Addr) (x0 y0 : Int) (xs ys : List Value) (l : List (Ro d)) (S : Nat → Prop) (W : World) (hb : Bx W b 96 #[.int .i64 x0, .slice a1 n1 c1]) (hr : Bx W r 96 #[.int .i64 y0, .slice a2 n2 c2]) (hbr : b ≠ r) (h1 : RdV W a1 n1 xs) (h2 : RdV W a2 n2 ys) (hl : n1 + n2 = l.length) (hk : ∀ k (h : k < l.length), ∃ u, (xs ++ ys)[k]? = some u ∧ TAo S W d l[k] u) (hSb : ¬ S b) (hSr : ¬ S r) (hkeys : (l.flatMap (keysR d)).length ≤ 1099511627776) (hst : st = n1 + n2) (hst0 : 0 < st) (hn : n1 + n2 ≤ 1000) :
    Calls Try.prog 73 #[.iface 91 (.pointer (some ⟨b, 0, none⟩)), .iface 91 (.pointer (some ⟨r, 0, none⟩)), .int .i64 (st : Int)] W fun e w' => e = .returned (.tuple #[]) ∧ Fr2 W w' b r ∧ TAo (fun x => S x ∨ x = b ∨ W.heap.size ≤ x) w' (d + 1) (.inr ((l.drop 0).take st)) (.iface 91 (.pointer (some ⟨b, 0, none⟩))) := by
  have HK : Hid ((∀ k (h : k < l.length), ∃ u, (xs ++ ys)[k]? = some u ∧ TAo S W d l[k] u) ∧ ¬ S b ∧ ¬ S r) := ⟨hk, hSb, hSr⟩
  have HL : Hid (n1 + n2 = l.length ∧ (l.flatMap (keysR d)).length ≤ 1099511627776) := ⟨hl, hkeys⟩
  have HRD : Hid (RdV W a1 n1 xs ∧ RdV W a2 n2 ys) := ⟨h1, h2⟩
  have HX : Hid (Bx W b 96 #[.int .i64 x0, .slice a1 n1 c1] ∧ Bx W r 96 #[.int .i64 y0, .slice a2 n2 c2]) := ⟨hb, hr⟩
  have p1 := hb.cell 1
  have p2 := hr.cell 1
  simp at p1 p2
  have pz1 := hb.lt
  have pz2 := hr.lt
  have hst1 : st ≤ n1 + n2 := by omega
  have hst2 : n1 + n2 ≤ st := by omega
  clear hst
  clear h1 h2 hb hr hk hSb hSr hl hkeys
  have t3 := ta3 (.pointer (some ⟨b, 0, none⟩))
  have t4 := ta4 (.pointer (some ⟨b, 0, none⟩))
  have t5 := ta5 (.pointer (some ⟨r, 0, none⟩))
  go_enter Try.func73, Try.ntmps73
  go_upto_region 8 with fail
  have HConc : Hid (Calls Try.prog 87 #[.slice (some ⟨W.heap.size, 0, none⟩) 2 2] (W.alloc (.cells #[.slice a1 n1 c1, .slice a2 n2 c2] 94)).drew fun e w' => ∃ gg cc, e = .returned (.slice (some ⟨gg, 0, none⟩) (n1 + n2) cc) ∧ w'.ownsRow (W.alloc (.cells #[.slice a1 n1 c1, .slice a2 n2 c2] 94)).drew.heap.size 59 1 (.slice (some ⟨gg, 0, none⟩) (n1 + n2) cc) (n1 + n2) (xs ++ ys) ∧ Below (W.alloc (.cells #[.slice a1 n1 c1, .slice a2 n2 c2] 94)).drew.heap.size (W.alloc (.cells #[.slice a1 n1 c1, .slice a2 n2 c2] 94)).drew w') := by
    have nb := (Bx.new W #[.slice a1 n1 c1, .slice a2 n2 c2] 94).drew
    have hbl : Below W.heap.size W (W.alloc (.cells #[.slice a1 n1 c1, .slice a2 n2 c2] 94)).drew := (below_alloc W _).drew
    exact concatN_any W.heap.size 2 n1 n2 c1 c2 a1 a2 xs ys _ ((nb.cell 0).trans (by simp)) ((nb.cell 1).trans (by simp)) (HRD.out.1.below hbl) (HRD.out.2.below hbl) (by omega) hn
  have HB0 : Hid (∀ w2, Below (W.alloc (.cells #[.slice a1 n1 c1, .slice a2 n2 c2] 94)).drew.heap.size (W.alloc (.cells #[.slice a1 n1 c1, .slice a2 n2 c2] 94)).drew w2 → Below W.heap.size W w2) := fun w2 h => (below_alloc W _).drew.trans (h.mono (by show W.heap.size ≤ (W.alloc _).heap.size; simp))
  refine wp_region_late (S := fun _ => True) 22 (by kernel_rfl) trivial (fun hHeld => ?_)
  refine late_take 0 .zero (v := ?_) (by kernel_rfl) (by kernel_rfl) (by kernel_rfl) (by kernel_rfl) (fun _ _ _ h => h) (by rfl) ?_ (by assumption) ?_
  rotate_left
  · (intro w hSw; go_simp) <;> with_reducible rfl
  simp only [Act.put, List.setIfInBounds_toArray, List.set_cons_zero, List.set_cons_succ]
  refine late_take 1 (.succ .zero) (v := ?_) (by kernel_rfl) (by kernel_rfl) (by kernel_rfl) (by kernel_rfl) (fun _ _ _ h => h) (by rfl) ?_ (by assumption) ?_
  rotate_left
  · (intro w hSw; go_simp) <;> with_reducible rfl
  simp only [Act.put, List.setIfInBounds_toArray, List.set_cons_zero, List.set_cons_succ]
  refine late_take 2 (.succ (.succ .zero)) (v := ?_) (by kernel_rfl) (by kernel_rfl) (by kernel_rfl) (by kernel_rfl) (fun _ _ _ h => h) (by rfl) ?_ (by assumption) ?_
  rotate_left
  · (intro w hSw; go_simp) <;> with_reducible rfl
  simp only [Act.put, List.setIfInBounds_toArray, List.set_cons_zero, List.set_cons_succ]
  refine late_take 3 (.succ (.succ (.succ .zero))) (v := ?_) (by kernel_rfl) (by kernel_rfl) (by kernel_rfl) (by kernel_rfl) (fun _ _ _ h => h) (by rfl) ?_ (by assumption) ?_
  rotate_left
  · (intro w hSw; go_simp) <;> with_reducible rfl
  simp only [Act.put, List.setIfInBounds_toArray, List.set_cons_zero, List.set_cons_succ]
  refine late_take 4 (.succ (.succ (.succ (.succ .zero)))) (v := ?_) (by kernel_rfl) (by kernel_rfl) (by kernel_rfl) (by kernel_rfl) (fun _ _ _ h => h) (by rfl) ?_ (by assumption) ?_
  rotate_left
  · (intro w hSw; go_simp) <;> with_reducible rfl
  simp only [Act.put, List.setIfInBounds_toArray, List.set_cons_zero, List.set_cons_succ]
  refine late_take 6 (.succ (.succ (.succ (.succ (.succ (.succ .zero)))))) (v := ?_) (by kernel_rfl) (by kernel_rfl) (by kernel_rfl) (by kernel_rfl) (fun _ _ _ h => h) (by rfl) ?_ (by assumption) ?_
  rotate_left
  · (intro w hSw; go_simp) <;> with_reducible rfl
  simp only [Act.put, List.setIfInBounds_toArray, List.set_cons_zero, List.set_cons_succ]
  refine late_take 7 (.succ (.succ (.succ (.succ (.succ (.succ (.succ .zero))))))) (v := ?_) (by kernel_rfl) (by kernel_rfl) (by kernel_rfl) (by kernel_rfl) (fun _ _ _ h => h) (by rfl) ?_ (by assumption) ?_
  rotate_left
  · (intro w hSw; go_simp) <;> with_reducible rfl
  simp only [Act.put, List.setIfInBounds_toArray, List.set_cons_zero, List.set_cons_succ]
  refine late_take 8 (.succ (.succ (.succ (.succ (.succ (.succ (.succ (.succ .zero)))))))) (v := ?_) (by kernel_rfl) (by kernel_rfl) (by kernel_rfl) (by kernel_rfl) (fun _ _ _ h => h) (by rfl) ?_ (by assumption) ?_
  rotate_left
  · (intro w hSw; go_simp) <;> with_reducible rfl
  simp only [Act.put, List.setIfInBounds_toArray, List.set_cons_zero, List.set_cons_succ]
  refine late_take 12 (.succ (.succ (.succ (.succ (.succ (.succ (.succ (.succ (.succ (.succ (.succ (.succ .zero)))))))))))) (v := ?_) (by kernel_rfl) (by kernel_rfl) (by kernel_rfl) (by kernel_rfl) (fun _ _ _ h => h) (by rfl) ?_ (by assumption) ?_
  rotate_left
  · (intro w hSw; go_simp) <;> with_reducible rfl
  simp only [Act.put, List.setIfInBounds_toArray, List.set_cons_zero, List.set_cons_succ]
  refine late_two 5 9 (.succ (.succ (.succ (.succ (.succ .zero))))) (.succ (.succ (.succ (.succ (.succ (.succ (.succ (.succ (.succ .zero))))))))) (by kernel_rfl) (fun K hK => ?_) (fun K hK => ?_)
  · skip
    go_simp
    refine hK.out _ _ ?_ (fun hHeld2 => ?_)
    · (intro _; trivial)
    clear hK K
    replace hHeld := hHeld2 (by decide)
    clear hHeld2
    try simp only [Act.put, List.setIfInBounds_toArray, List.set_cons_zero, List.set_cons_succ]
    refine late_one 9 (.succ (.succ (.succ (.succ (.succ (.succ (.succ (.succ (.succ .zero))))))))) (by kernel_rfl) (fun K hK => ?_)
    go_simp
    refine hK.out _ _ ?_ (fun hHeld2 => ?_)
    · (intro _; trivial)
    clear hK K
    replace hHeld := hHeld2 (by decide)
    clear hHeld2
    try simp only [Act.put, List.setIfInBounds_toArray, List.set_cons_zero, List.set_cons_succ]
    refine late_one 10 (.succ (.succ (.succ (.succ (.succ (.succ (.succ (.succ (.succ (.succ .zero)))))))))) (by kernel_rfl) (fun K hK => ?_)
    go_simp
    refine hK.out _ _ ?_ (fun hHeld2 => ?_)
    · (intro _; trivial)
    clear hK K
    replace hHeld := hHeld2 (by decide)
    clear hHeld2
    try simp only [Act.put, List.setIfInBounds_toArray, List.set_cons_zero, List.set_cons_succ]
    refine late_one 11 (.succ (.succ (.succ (.succ (.succ (.succ (.succ (.succ (.succ (.succ (.succ .zero))))))))))) (by kernel_rfl) (fun K hK => ?_)
    refine step_t1 (by rfl) 87 53 _ (by rfl) (.slice (some ⟨W.heap.size, 0, none⟩) 2 2) (by rfl) (fun _ _ => by rfl) ?_
    (with_reducible refine HConc.out.mono ?_)
    rintro e w2 ⟨gg, cc, rfl, ho2, hb2⟩
    refine ⟨_, rfl, ?_⟩
    have H2 : Hid (w2.ownsRow (W.heap.size + 1) 59 1 (.slice (some ⟨gg, 0, none⟩) (n1 + n2) cc) (n1 + n2) (xs ++ ys) ∧ Below W.heap.size W w2) := ⟨by have q : (W.alloc (.cells #[.slice a1 n1 c1, .slice a2 n2 c2] 94)).drew.heap.size = W.heap.size + 1 := (show (W.alloc (.cells #[.slice a1 n1 c1, .slice a2 n2 c2] 94)).heap.size = W.heap.size + 1 by simp); rw [q] at ho2; exact ho2, HB0.out w2 hb2⟩
    have hcc := own_cap H2.out.1
    clear ho2 hb2
    refine hK.out _ _ ?_ (fun hHeld2 => ?_)
    · (intro _; trivial)
    clear hK K
    replace hHeld := hHeld2 (by decide)
    clear hHeld2
    try simp only [Act.put, List.setIfInBounds_toArray, List.set_cons_zero, List.set_cons_succ]
    refine late_one 13 (.succ (.succ (.succ (.succ (.succ (.succ (.succ (.succ (.succ (.succ (.succ (.succ (.succ .zero))))))))))))) (by kernel_rfl) (fun K hK => ?_)
    have HCut : Hid (Calls Try.prog 86 #[.slice (some ⟨gg, 0, none⟩) (n1 + n2) cc, .int .i64 (st : Int)] w2 fun e w' => e = .returned (.tuple #[.slice (some ⟨gg, 0, none⟩) st st, .slice (some ⟨gg, cutAt cc st, none⟩) 0 (cc - st)]) ∧ w' = w2.drew) := cutNF_any gg (n1 + n2) cc st w2 (by omega) hcc.1
    refine step_t2 (by rfl) 86 54 55 _ (by rfl) (.slice (some ⟨gg, 0, none⟩) (n1 + n2) cc) (.int .i64 (st : Int)) (by rfl) (by rfl) (fun _ _ => by rfl) ?_
    (with_reducible refine HCut.out.mono ?_)
    rintro e w3 ⟨rfl, hw3⟩
    refine ⟨_, rfl, ?_⟩
    have H3 : Hid (Bx w3 b 96 #[.int .i64 x0, .slice a1 n1 c1] ∧ Bx w3 r 96 #[.int .i64 y0, .slice a2 n2 c2] ∧ w3.ownsRow (W.heap.size + 1) 59 1 (.slice (some ⟨gg, 0, none⟩) (n1 + n2) cc) (n1 + n2) (xs ++ ys) ∧ Below W.heap.size W w3) := by
      subst hw3
      exact ⟨(HX.out.1.below H2.out.2).drew, (HX.out.2.below H2.out.2).drew, own_below H2.out.1 (Below.refl _ _).drew, H2.out.2.drew⟩
    have l1 := H3.out.1.cell 1
    have l2 := H3.out.2.1.cell 1
    simp at l1 l2
    have lf1 := H3.out.1.frozen 1
    have lf2 := H3.out.2.1.frozen 1
    have lz1 := H3.out.1.lt
    have lz2 := H3.out.2.1.lt
    clear hw3 HCut
    refine hK.out _ _ ?_ (fun hHeld2 => ?_)
    · (intro _; trivial)
    clear hK K
    replace hHeld := hHeld2 (by decide)
    clear hHeld2
    try simp only [Act.put, List.setIfInBounds_toArray, List.set_cons_zero, List.set_cons_succ]
    refine late_one 14 (.succ (.succ (.succ (.succ (.succ (.succ (.succ (.succ (.succ (.succ (.succ (.succ (.succ (.succ .zero)))))))))))))) (by kernel_rfl) (fun K hK => ?_)
    go_simp
    refine hK.out _ _ ?_ (fun hHeld2 => ?_)
    · (intro _; trivial)
    clear hK K
    replace hHeld := hHeld2 (by decide)
    clear hHeld2
    try simp only [Act.put, List.setIfInBounds_toArray, List.set_cons_zero, List.set_cons_succ]
    refine late_take 15 (.succ (.succ (.succ (.succ (.succ (.succ (.succ (.succ (.succ (.succ (.succ (.succ (.succ (.succ (.succ .zero))))))))))))))) (v := ?_) (by kernel_rfl) (by kernel_rfl) (by kernel_rfl) (by kernel_rfl) (fun _ _ _ h => h) (by rfl) ?_ (by assumption) ?_
    rotate_left
    · (intro w hSw; go_simp) <;> with_reducible rfl
    simp only [Act.put, List.setIfInBounds_toArray, List.set_cons_zero, List.set_cons_succ]
    refine late_take 16 (.succ (.succ (.succ (.succ (.succ (.succ (.succ (.succ (.succ (.succ (.succ (.succ (.succ (.succ (.succ (.succ .zero)))))))))))))))) (v := ?_) (by kernel_rfl) (by kernel_rfl) (by kernel_rfl) (by kernel_rfl) (fun _ _ _ h => h) (by rfl) ?_ (by assumption) ?_
    rotate_left
    · (intro w hSw; go_simp) <;> with_reducible rfl
    simp only [Act.put, List.setIfInBounds_toArray, List.set_cons_zero, List.set_cons_succ]
    refine late_take 17 (.succ (.succ (.succ (.succ (.succ (.succ (.succ (.succ (.succ (.succ (.succ (.succ (.succ (.succ (.succ (.succ (.succ .zero))))))))))))))))) (v := ?_) (by kernel_rfl) (by kernel_rfl) (by kernel_rfl) (by kernel_rfl) (fun _ _ _ h => h) (by rfl) ?_ (by assumption) ?_
    rotate_left
    · (intro w hSw; go_simp) <;> with_reducible rfl
    simp only [Act.put, List.setIfInBounds_toArray, List.set_cons_zero, List.set_cons_succ]
    refine late_take 18 (.succ (.succ (.succ (.succ (.succ (.succ (.succ (.succ (.succ (.succ (.succ (.succ (.succ (.succ (.succ (.succ (.succ (.succ .zero)))))))))))))))))) (v := ?_) (by kernel_rfl) (by kernel_rfl) (by kernel_rfl) (by kernel_rfl) (fun _ _ _ h => h) (by rfl) ?_ (by assumption) ?_
    rotate_left
    · (intro w hSw; go_simp) <;> with_reducible rfl
    simp only [Act.put, List.setIfInBounds_toArray, List.set_cons_zero, List.set_cons_succ]
    refine late_one 19 (.succ (.succ (.succ (.succ (.succ (.succ (.succ (.succ (.succ (.succ (.succ (.succ (.succ (.succ (.succ (.succ (.succ (.succ (.succ .zero))))))))))))))))))) (by kernel_rfl) (fun K hK => ?_)
    go_simp
    refine hK.out _ _ ?_ (fun hHeld2 => ?_)
    · (intro _; trivial)
    clear hK K
    replace hHeld := hHeld2 (by decide)
    clear hHeld2
    try simp only [Act.put, List.setIfInBounds_toArray, List.set_cons_zero, List.set_cons_succ]
    refine late_one 20 (.succ (.succ (.succ (.succ (.succ (.succ (.succ (.succ (.succ (.succ (.succ (.succ (.succ (.succ (.succ (.succ (.succ (.succ (.succ (.succ .zero)))))))))))))))))))) (by kernel_rfl) (fun K hK => ?_)
    go_simp
    refine hK.out _ _ ?_ (fun hHeld2 => ?_)
    · (intro _; trivial)
    clear hK K
    replace hHeld := hHeld2 (by decide)
    clear hHeld2
    try simp only [Act.put, List.setIfInBounds_toArray, List.set_cons_zero, List.set_cons_succ]
    refine late_one 21 (.succ (.succ (.succ (.succ (.succ (.succ (.succ (.succ (.succ (.succ (.succ (.succ (.succ (.succ (.succ (.succ (.succ (.succ (.succ (.succ (.succ .zero))))))))))))))))))))) (by kernel_rfl) (fun K hK => ?_)
    go_simp
    refine hK.out _ _ ?_ (fun hHeld2 => ?_)
    · (intro _; trivial)
    clear hK K
    replace hHeld := hHeld2 (by decide)
    clear hHeld2
    try simp only [Act.put, List.setIfInBounds_toArray, List.set_cons_zero, List.set_cons_succ]
    refine late_one 22 (.succ (.succ (.succ (.succ (.succ (.succ (.succ (.succ (.succ (.succ (.succ (.succ (.succ (.succ (.succ (.succ (.succ (.succ (.succ (.succ (.succ (.succ .zero)))))))))))))))))))))) (by kernel_rfl) (fun K hK => ?_)
    go_simp
    refine hK.out _ _ ?_ (fun hHeld2 => ?_)
    · (intro hne; exact absurd rfl hne)
    clear hK K hHeld2
    refine wpLate_done (by kernel_rfl) ?_ _
    have HW : Hid (Bx ((w3.setCell ⟨b, 1, none⟩ (.slice (some ⟨gg, 0, none⟩) st st)).setCell ⟨r, 1, none⟩ (.slice (some ⟨gg, cutAt cc st, none⟩) 0 (cc - st))) b 96 #[.int .i64 x0, .slice (some ⟨gg, 0, none⟩) st st] ∧ Bx ((w3.setCell ⟨b, 1, none⟩ (.slice (some ⟨gg, 0, none⟩) st st)).setCell ⟨r, 1, none⟩ (.slice (some ⟨gg, cutAt cc st, none⟩) 0 (cc - st))) r 96 #[.int .i64 y0, .slice (some ⟨gg, cutAt cc st, none⟩) 0 (cc - st)] ∧ Fr2 w3 ((w3.setCell ⟨b, 1, none⟩ (.slice (some ⟨gg, 0, none⟩) st st)).setCell ⟨r, 1, none⟩ (.slice (some ⟨gg, cutAt cc st, none⟩) 0 (cc - st))) b r) := by
      refine ⟨?_, ?_, fr2_set2 _ _ _ _ _ _ _⟩
      · have q := (H3.out.1.set 1 (.slice (some ⟨gg, 0, none⟩) st st)).other (p := ⟨r, 1, none⟩) hbr (.slice (some ⟨gg, cutAt cc st, none⟩) 0 (cc - st))
        simpa using q
      · have q := (H3.out.2.1.other (p := ⟨b, 1, none⟩) hbr.symm (.slice (some ⟨gg, 0, none⟩) st st)).set 1 (.slice (some ⟨gg, cutAt cc st, none⟩) 0 (cc - st))
        simpa using q
    generalize (w3.setCell ⟨b, 1, none⟩ (.slice (some ⟨gg, 0, none⟩) st st)).setCell ⟨r, 1, none⟩ (.slice (some ⟨gg, cutAt cc st, none⟩) 0 (cc - st)) = W4 at HW ⊢
    clear l1 l2 lf1 lf2 lz1 lz2 hHeld
    have hcc2 : st ≤ cc := by omega
    have HF : Hid (Fr2 W W4 b r) := (fr2_of b r H3.out.2.2.2).trans HW.out.2.2
    have hgl := own_lt H3.out.2.2.1 gg rfl
    have HCe : Hid (∀ j u, (xs ++ ys)[j]? = some u → W4.cell? ⟨gg, j, none⟩ = some u) := by
      intro j u hj
      have hjl := (List.getElem?_eq_some_iff.1 hj).1
      have hz := H3.out.2.2.1.1
      rw [World.cell?_of_block (a := ⟨gg, j, none⟩) (HW.out.2.2.2.2.2.2 gg hgl.2 (by omega) (by omega)), H3.out.2.2.1.cellAt j (by omega)]
      exact hj
    have HR1 : Hid (Calls Try.prog 57 #[.pointer (some ⟨b, 0, none⟩)] W4 fun e w' => e = .returned (.tuple #[]) ∧ W4.grownBy w' (some b) ∧ w'.heap.size = W4.heap.size ∧ Bx w' b 96 #[.int .i64 ((((l.drop 0).take st).flatMap (keysR d)).length : Int), .slice (some ⟨gg, 0, none⟩) st st]) := by
      refine recountO_any d b gg 0 st st ((l.drop 0).take st) x0 (((xs ++ ys).drop 0).take st) W4 HW.out.1 (by rw [List.length_take, List.length_drop, ← HL.out.1]; omega) (by omega) ?_ (fun j u hj => ?_) (by omega) (fun k h => ?_)
      · have := flat_take_le (keysR d) l st
        rw [List.drop_zero]
        have := HL.out.2
        omega
      · rw [List.getElem?_take] at hj
        split at hj
        · rw [List.getElem?_drop] at hj
          exact HCe.out _ u hj
        · cases hj
      · rw [List.length_take, List.length_drop] at h
        obtain ⟨u, bb, q1, q2, q3, q4⟩ := dealIn_kid HK.out.1 HK.out.2.1 HK.out.2.2 HF.out k (by omega)
        refine ⟨u, bb, by rw [List.getElem?_take, if_pos (by omega), List.getElem?_drop, Nat.zero_add]; exact q1, q2.1, ?_, q4⟩
        rw [q3, List.getElem_take, List.getElem_drop]
        simp
    go_wp2_with fail
    (with_reducible refine HR1.out.mono ?_)
    rintro e w5 ⟨rfl, hg5, hs5, hx5⟩
    have HX5 : Hid (W4.grownBy w5 (some b) ∧ Bx w5 b 96 #[.int .i64 ((((l.drop 0).take st).flatMap (keysR d)).length : Int), .slice (some ⟨gg, 0, none⟩) st st] ∧ Bx w5 r 96 #[.int .i64 y0, .slice (some ⟨gg, cutAt cc st, none⟩) 0 (cc - st)]) := ⟨hg5, hx5, HW.out.2.1.grown hg5 (fun e => hbr (by injection e))⟩
    clear hg5 hs5 hx5 HR1
    have HR2 : Hid (Calls Try.prog 57 #[.pointer (some ⟨r, 0, none⟩)] w5 fun e w' => e = .returned (.tuple #[]) ∧ w5.grownBy w' (some r) ∧ w'.heap.size = w5.heap.size ∧ Bx w' r 96 #[.int .i64 ((([] : List (Ro d)).flatMap (keysR d)).length : Int), .slice (some ⟨gg, cutAt cc st, none⟩) 0 (cc - st)]) := by
      exact recountO_any d r gg (cutAt cc st) 0 (cc - st) [] y0 [] w5 HX5.out.2.2 rfl (by omega) (by simp) (fun j u hj => by simp at hj) (by omega) (fun k h => by simp at h)
    go_wp2_with fail
    (with_reducible refine HR2.out.mono ?_)
    rintro e w6 ⟨rfl, hg6, hs6, hx6⟩
    have HX6 : Hid (Fr2 W w6 b r ∧ w5.grownBy w6 (some r) ∧ Bx w6 b 96 #[.int .i64 ((((l.drop 0).take st).flatMap (keysR d)).length : Int), .slice (some ⟨gg, 0, none⟩) st st] ∧ Bx w6 r 96 #[.int .i64 ((([] : List (Ro d)).flatMap (keysR d)).length : Int), .slice (some ⟨gg, cutAt cc st, none⟩) 0 (cc - st)]) := ⟨(HF.out.trans (fr2_grown HX5.out.1)).trans (fr2_grown' hg6), hg6, HX5.out.2.1.grown hg6 (fun e => hbr (by injection e with e; exact e.symm)), hx6⟩
    clear hg6 hs6 hx6 HR2
    go_wp2
    go_end0
    have hL := HL.out.1
    have hs4 := HF.out.2.2.2.1
    have hz4 := HW.out.2.2.2.2.2.1
    have hz5 := HX5.out.1.size
    have hz6 := HX6.out.2.1.size
    have hce6 : ∀ j u, (xs ++ ys)[j]? = some u → w6.cell? ⟨gg, j, none⟩ = some u := fun j u hj => HX6.out.2.1.cell (HX5.out.1.cell (HCe.out j u hj) (fun e => by injection e with e; have e' : gg = b := e; omega)) (fun e => by injection e with e; have e' : gg = r := e; omega)
    refine ⟨rfl, HX6.out.1, dealIn_side HK.out.1 HK.out.2.1 HK.out.2.2 HX6.out.1 HX6.out.2.2.1 (by omega) (by omega) (by omega) (by omega) hst0 (by omega) (fun j u hj => ?_)⟩
    rw [List.getElem?_take] at hj
    split at hj
    · rw [List.getElem?_drop] at hj
      exact hce6 _ u hj
    · cases hj
  · skip
    go_simp
    refine hK.out _ _ ?_ (fun hHeld2 => ?_)
    · (intro _; trivial)
    clear hK K
    replace hHeld := hHeld2 (by decide)
    clear hHeld2
    try simp only [Act.put, List.setIfInBounds_toArray, List.set_cons_zero, List.set_cons_succ]
    refine late_one 5 (.succ (.succ (.succ (.succ (.succ .zero))))) (by kernel_rfl) (fun K hK => ?_)
    go_simp
    refine hK.out _ _ ?_ (fun hHeld2 => ?_)
    · (intro _; trivial)
    clear hK K
    replace hHeld := hHeld2 (by decide)
    clear hHeld2
    try simp only [Act.put, List.setIfInBounds_toArray, List.set_cons_zero, List.set_cons_succ]
    refine late_one 10 (.succ (.succ (.succ (.succ (.succ (.succ (.succ (.succ (.succ (.succ .zero)))))))))) (by kernel_rfl) (fun K hK => ?_)
    go_simp
    refine hK.out _ _ ?_ (fun hHeld2 => ?_)
    · (intro _; trivial)
    clear hK K
    replace hHeld := hHeld2 (by decide)
    clear hHeld2
    try simp only [Act.put, List.setIfInBounds_toArray, List.set_cons_zero, List.set_cons_succ]
    refine late_one 11 (.succ (.succ (.succ (.succ (.succ (.succ (.succ (.succ (.succ (.succ (.succ .zero))))))))))) (by kernel_rfl) (fun K hK => ?_)
    refine step_t1 (by rfl) 87 53 _ (by rfl) (.slice (some ⟨W.heap.size, 0, none⟩) 2 2) (by rfl) (fun _ _ => by rfl) ?_
    (with_reducible refine HConc.out.mono ?_)
    rintro e w2 ⟨gg, cc, rfl, ho2, hb2⟩
    refine ⟨_, rfl, ?_⟩
    have H2 : Hid (w2.ownsRow (W.heap.size + 1) 59 1 (.slice (some ⟨gg, 0, none⟩) (n1 + n2) cc) (n1 + n2) (xs ++ ys) ∧ Below W.heap.size W w2) := ⟨by have q : (W.alloc (.cells #[.slice a1 n1 c1, .slice a2 n2 c2] 94)).drew.heap.size = W.heap.size + 1 := (show (W.alloc (.cells #[.slice a1 n1 c1, .slice a2 n2 c2] 94)).heap.size = W.heap.size + 1 by simp); rw [q] at ho2; exact ho2, HB0.out w2 hb2⟩
    have hcc := own_cap H2.out.1
    clear ho2 hb2
    refine hK.out _ _ ?_ (fun hHeld2 => ?_)
    · (intro _; trivial)
    clear hK K
    replace hHeld := hHeld2 (by decide)
    clear hHeld2
    try simp only [Act.put, List.setIfInBounds_toArray, List.set_cons_zero, List.set_cons_succ]
    refine late_one 13 (.succ (.succ (.succ (.succ (.succ (.succ (.succ (.succ (.succ (.succ (.succ (.succ (.succ .zero))))))))))))) (by kernel_rfl) (fun K hK => ?_)
    have HCut : Hid (Calls Try.prog 86 #[.slice (some ⟨gg, 0, none⟩) (n1 + n2) cc, .int .i64 (st : Int)] w2 fun e w' => e = .returned (.tuple #[.slice (some ⟨gg, 0, none⟩) st st, .slice (some ⟨gg, cutAt cc st, none⟩) 0 (cc - st)]) ∧ w' = w2.drew) := cutNF_any gg (n1 + n2) cc st w2 (by omega) hcc.1
    refine step_t2 (by rfl) 86 54 55 _ (by rfl) (.slice (some ⟨gg, 0, none⟩) (n1 + n2) cc) (.int .i64 (st : Int)) (by rfl) (by rfl) (fun _ _ => by rfl) ?_
    (with_reducible refine HCut.out.mono ?_)
    rintro e w3 ⟨rfl, hw3⟩
    refine ⟨_, rfl, ?_⟩
    have H3 : Hid (Bx w3 b 96 #[.int .i64 x0, .slice a1 n1 c1] ∧ Bx w3 r 96 #[.int .i64 y0, .slice a2 n2 c2] ∧ w3.ownsRow (W.heap.size + 1) 59 1 (.slice (some ⟨gg, 0, none⟩) (n1 + n2) cc) (n1 + n2) (xs ++ ys) ∧ Below W.heap.size W w3) := by
      subst hw3
      exact ⟨(HX.out.1.below H2.out.2).drew, (HX.out.2.below H2.out.2).drew, own_below H2.out.1 (Below.refl _ _).drew, H2.out.2.drew⟩
    have l1 := H3.out.1.cell 1
    have l2 := H3.out.2.1.cell 1
    simp at l1 l2
    have lf1 := H3.out.1.frozen 1
    have lf2 := H3.out.2.1.frozen 1
    have lz1 := H3.out.1.lt
    have lz2 := H3.out.2.1.lt
    clear hw3 HCut
    refine hK.out _ _ ?_ (fun hHeld2 => ?_)
    · (intro _; trivial)
    clear hK K
    replace hHeld := hHeld2 (by decide)
    clear hHeld2
    try simp only [Act.put, List.setIfInBounds_toArray, List.set_cons_zero, List.set_cons_succ]
    refine late_one 14 (.succ (.succ (.succ (.succ (.succ (.succ (.succ (.succ (.succ (.succ (.succ (.succ (.succ (.succ .zero)))))))))))))) (by kernel_rfl) (fun K hK => ?_)
    go_simp
    refine hK.out _ _ ?_ (fun hHeld2 => ?_)
    · (intro _; trivial)
    clear hK K
    replace hHeld := hHeld2 (by decide)
    clear hHeld2
    try simp only [Act.put, List.setIfInBounds_toArray, List.set_cons_zero, List.set_cons_succ]
    refine late_take 15 (.succ (.succ (.succ (.succ (.succ (.succ (.succ (.succ (.succ (.succ (.succ (.succ (.succ (.succ (.succ .zero))))))))))))))) (v := ?_) (by kernel_rfl) (by kernel_rfl) (by kernel_rfl) (by kernel_rfl) (fun _ _ _ h => h) (by rfl) ?_ (by assumption) ?_
    rotate_left
    · (intro w hSw; go_simp) <;> with_reducible rfl
    simp only [Act.put, List.setIfInBounds_toArray, List.set_cons_zero, List.set_cons_succ]
    refine late_take 16 (.succ (.succ (.succ (.succ (.succ (.succ (.succ (.succ (.succ (.succ (.succ (.succ (.succ (.succ (.succ (.succ .zero)))))))))))))))) (v := ?_) (by kernel_rfl) (by kernel_rfl) (by kernel_rfl) (by kernel_rfl) (fun _ _ _ h => h) (by rfl) ?_ (by assumption) ?_
    rotate_left
    · (intro w hSw; go_simp) <;> with_reducible rfl
    simp only [Act.put, List.setIfInBounds_toArray, List.set_cons_zero, List.set_cons_succ]
    refine late_take 17 (.succ (.succ (.succ (.succ (.succ (.succ (.succ (.succ (.succ (.succ (.succ (.succ (.succ (.succ (.succ (.succ (.succ .zero))))))))))))))))) (v := ?_) (by kernel_rfl) (by kernel_rfl) (by kernel_rfl) (by kernel_rfl) (fun _ _ _ h => h) (by rfl) ?_ (by assumption) ?_
    rotate_left
    · (intro w hSw; go_simp) <;> with_reducible rfl
    simp only [Act.put, List.setIfInBounds_toArray, List.set_cons_zero, List.set_cons_succ]
    refine late_take 18 (.succ (.succ (.succ (.succ (.succ (.succ (.succ (.succ (.succ (.succ (.succ (.succ (.succ (.succ (.succ (.succ (.succ (.succ .zero)))))))))))))))))) (v := ?_) (by kernel_rfl) (by kernel_rfl) (by kernel_rfl) (by kernel_rfl) (fun _ _ _ h => h) (by rfl) ?_ (by assumption) ?_
    rotate_left
    · (intro w hSw; go_simp) <;> with_reducible rfl
    simp only [Act.put, List.setIfInBounds_toArray, List.set_cons_zero, List.set_cons_succ]
    refine late_one 19 (.succ (.succ (.succ (.succ (.succ (.succ (.succ (.succ (.succ (.succ (.succ (.succ (.succ (.succ (.succ (.succ (.succ (.succ (.succ .zero))))))))))))))))))) (by kernel_rfl) (fun K hK => ?_)
    go_simp
    refine hK.out _ _ ?_ (fun hHeld2 => ?_)
    · (intro _; trivial)
    clear hK K
    replace hHeld := hHeld2 (by decide)
    clear hHeld2
    try simp only [Act.put, List.setIfInBounds_toArray, List.set_cons_zero, List.set_cons_succ]
    refine late_one 20 (.succ (.succ (.succ (.succ (.succ (.succ (.succ (.succ (.succ (.succ (.succ (.succ (.succ (.succ (.succ (.succ (.succ (.succ (.succ (.succ .zero)))))))))))))))))))) (by kernel_rfl) (fun K hK => ?_)
    go_simp
    refine hK.out _ _ ?_ (fun hHeld2 => ?_)
    · (intro _; trivial)
    clear hK K
    replace hHeld := hHeld2 (by decide)
    clear hHeld2
    try simp only [Act.put, List.setIfInBounds_toArray, List.set_cons_zero, List.set_cons_succ]
    refine late_one 21 (.succ (.succ (.succ (.succ (.succ (.succ (.succ (.succ (.succ (.succ (.succ (.succ (.succ (.succ (.succ (.succ (.succ (.succ (.succ (.succ (.succ .zero))))))))))))))))))))) (by kernel_rfl) (fun K hK => ?_)
    go_simp
    refine hK.out _ _ ?_ (fun hHeld2 => ?_)
    · (intro _; trivial)
    clear hK K
    replace hHeld := hHeld2 (by decide)
    clear hHeld2
    try simp only [Act.put, List.setIfInBounds_toArray, List.set_cons_zero, List.set_cons_succ]
    refine late_one 22 (.succ (.succ (.succ (.succ (.succ (.succ (.succ (.succ (.succ (.succ (.succ (.succ (.succ (.succ (.succ (.succ (.succ (.succ (.succ (.succ (.succ (.succ .zero)))))))))))))))))))))) (by kernel_rfl) (fun K hK => ?_)
    go_simp
    refine hK.out _ _ ?_ (fun hHeld2 => ?_)
    · (intro hne; exact absurd rfl hne)
    clear hK K hHeld2
    refine wpLate_done (by kernel_rfl) ?_ _
    have HW : Hid (Bx ((w3.setCell ⟨b, 1, none⟩ (.slice (some ⟨gg, 0, none⟩) st st)).setCell ⟨r, 1, none⟩ (.slice (some ⟨gg, cutAt cc st, none⟩) 0 (cc - st))) b 96 #[.int .i64 x0, .slice (some ⟨gg, 0, none⟩) st st] ∧ Bx ((w3.setCell ⟨b, 1, none⟩ (.slice (some ⟨gg, 0, none⟩) st st)).setCell ⟨r, 1, none⟩ (.slice (some ⟨gg, cutAt cc st, none⟩) 0 (cc - st))) r 96 #[.int .i64 y0, .slice (some ⟨gg, cutAt cc st, none⟩) 0 (cc - st)] ∧ Fr2 w3 ((w3.setCell ⟨b, 1, none⟩ (.slice (some ⟨gg, 0, none⟩) st st)).setCell ⟨r, 1, none⟩ (.slice (some ⟨gg, cutAt cc st, none⟩) 0 (cc - st))) b r) := by
      refine ⟨?_, ?_, fr2_set2 _ _ _ _ _ _ _⟩
      · have q := (H3.out.1.set 1 (.slice (some ⟨gg, 0, none⟩) st st)).other (p := ⟨r, 1, none⟩) hbr (.slice (some ⟨gg, cutAt cc st, none⟩) 0 (cc - st))
        simpa using q
      · have q := (H3.out.2.1.other (p := ⟨b, 1, none⟩) hbr.symm (.slice (some ⟨gg, 0, none⟩) st st)).set 1 (.slice (some ⟨gg, cutAt cc st, none⟩) 0 (cc - st))
        simpa using q
    generalize (w3.setCell ⟨b, 1, none⟩ (.slice (some ⟨gg, 0, none⟩) st st)).setCell ⟨r, 1, none⟩ (.slice (some ⟨gg, cutAt cc st, none⟩) 0 (cc - st)) = W4 at HW ⊢
    clear l1 l2 lf1 lf2 lz1 lz2 hHeld
    have hcc2 : st ≤ cc := by omega
    have HF : Hid (Fr2 W W4 b r) := (fr2_of b r H3.out.2.2.2).trans HW.out.2.2
    have hgl := own_lt H3.out.2.2.1 gg rfl
    have HCe : Hid (∀ j u, (xs ++ ys)[j]? = some u → W4.cell? ⟨gg, j, none⟩ = some u) := by
      intro j u hj
      have hjl := (List.getElem?_eq_some_iff.1 hj).1
      have hz := H3.out.2.2.1.1
      rw [World.cell?_of_block (a := ⟨gg, j, none⟩) (HW.out.2.2.2.2.2.2 gg hgl.2 (by omega) (by omega)), H3.out.2.2.1.cellAt j (by omega)]
      exact hj
    have HR1 : Hid (Calls Try.prog 57 #[.pointer (some ⟨b, 0, none⟩)] W4 fun e w' => e = .returned (.tuple #[]) ∧ W4.grownBy w' (some b) ∧ w'.heap.size = W4.heap.size ∧ Bx w' b 96 #[.int .i64 ((((l.drop 0).take st).flatMap (keysR d)).length : Int), .slice (some ⟨gg, 0, none⟩) st st]) := by
      refine recountO_any d b gg 0 st st ((l.drop 0).take st) x0 (((xs ++ ys).drop 0).take st) W4 HW.out.1 (by rw [List.length_take, List.length_drop, ← HL.out.1]; omega) (by omega) ?_ (fun j u hj => ?_) (by omega) (fun k h => ?_)
      · have := flat_take_le (keysR d) l st
        rw [List.drop_zero]
        have := HL.out.2
        omega
      · rw [List.getElem?_take] at hj
        split at hj
        · rw [List.getElem?_drop] at hj
          exact HCe.out _ u hj
        · cases hj
      · rw [List.length_take, List.length_drop] at h
        obtain ⟨u, bb, q1, q2, q3, q4⟩ := dealIn_kid HK.out.1 HK.out.2.1 HK.out.2.2 HF.out k (by omega)
        refine ⟨u, bb, by rw [List.getElem?_take, if_pos (by omega), List.getElem?_drop, Nat.zero_add]; exact q1, q2.1, ?_, q4⟩
        rw [q3, List.getElem_take, List.getElem_drop]
        simp
    go_wp2_with fail
    (with_reducible refine HR1.out.mono ?_)
    rintro e w5 ⟨rfl, hg5, hs5, hx5⟩
    have HX5 : Hid (W4.grownBy w5 (some b) ∧ Bx w5 b 96 #[.int .i64 ((((l.drop 0).take st).flatMap (keysR d)).length : Int), .slice (some ⟨gg, 0, none⟩) st st] ∧ Bx w5 r 96 #[.int .i64 y0, .slice (some ⟨gg, cutAt cc st, none⟩) 0 (cc - st)]) := ⟨hg5, hx5, HW.out.2.1.grown hg5 (fun e => hbr (by injection e))⟩
    clear hg5 hs5 hx5 HR1
    have HR2 : Hid (Calls Try.prog 57 #[.pointer (some ⟨r, 0, none⟩)] w5 fun e w' => e = .returned (.tuple #[]) ∧ w5.grownBy w' (some r) ∧ w'.heap.size = w5.heap.size ∧ Bx w' r 96 #[.int .i64 ((([] : List (Ro d)).flatMap (keysR d)).length : Int), .slice (some ⟨gg, cutAt cc st, none⟩) 0 (cc - st)]) := by
      exact recountO_any d r gg (cutAt cc st) 0 (cc - st) [] y0 [] w5 HX5.out.2.2 rfl (by omega) (by simp) (fun j u hj => by simp at hj) (by omega) (fun k h => by simp at h)
    go_wp2_with fail
    (with_reducible refine HR2.out.mono ?_)
    rintro e w6 ⟨rfl, hg6, hs6, hx6⟩
    have HX6 : Hid (Fr2 W w6 b r ∧ w5.grownBy w6 (some r) ∧ Bx w6 b 96 #[.int .i64 ((((l.drop 0).take st).flatMap (keysR d)).length : Int), .slice (some ⟨gg, 0, none⟩) st st] ∧ Bx w6 r 96 #[.int .i64 ((([] : List (Ro d)).flatMap (keysR d)).length : Int), .slice (some ⟨gg, cutAt cc st, none⟩) 0 (cc - st)]) := ⟨(HF.out.trans (fr2_grown HX5.out.1)).trans (fr2_grown' hg6), hg6, HX5.out.2.1.grown hg6 (fun e => hbr (by injection e with e; exact e.symm)), hx6⟩
    clear hg6 hs6 hx6 HR2
    go_wp2
    go_end0
    have hL := HL.out.1
    have hs4 := HF.out.2.2.2.1
    have hz4 := HW.out.2.2.2.2.2.1
    have hz5 := HX5.out.1.size
    have hz6 := HX6.out.2.1.size
    have hce6 : ∀ j u, (xs ++ ys)[j]? = some u → w6.cell? ⟨gg, j, none⟩ = some u := fun j u hj => HX6.out.2.1.cell (HX5.out.1.cell (HCe.out j u hj) (fun e => by injection e with e; have e' : gg = b := e; omega)) (fun e => by injection e with e; have e' : gg = r := e; omega)
    refine ⟨rfl, HX6.out.1, dealIn_side HK.out.1 HK.out.2.1 HK.out.2.2 HX6.out.1 HX6.out.2.2.1 (by omega) (by omega) (by omega) (by omega) hst0 (by omega) (fun j u hj => ?_)⟩
    rw [List.getElem?_take] at hj
    split at hj
    · rw [List.getElem?_drop] at hj
      exact hce6 _ u hj
    · cases hj
end Go.Proofs.Ytakemeccigpbaaa

namespace Go.Proofs.Ytakemeccigpbaaa
open Go.RowKit Go.Deep Go.Shelf Go.Lib
set_option linter.unusedVariables false
set_option linter.unusedSimpArgs false
set_option maxRecDepth 1000000

set_option maxHeartbeats 4000000 in
theorem delS_any (b o n c i j : Nat) (cur : Array Value) (xs : List Value) (w : World) (hb : w.heap[b]? = some (.cells cur 9 (0, 0))) (hcs : o + n ≤ cur.size) (hx : ∀ k v, xs[k]? = some v → w.cell? ⟨b, o + k, none⟩ = some v) (hxl : xs.length = n) (h1 : ∀ v ∈ xs, v.oneCell' = true) (hij : i < j) (hj : j ≤ n) (hnc : n ≤ c) (hc63 : c ≤ 9223372036854775807) :
    Calls Try.prog 114 #[.slice (some ⟨b, o, none⟩) n c, .int .i64 (i : Int), .int .i64 (j : Int)] w fun e w' => e = .returned (.slice (some ⟨b, o, none⟩) (n - (j - i)) c) ∧ (∀ k v, (xs.take i ++ xs.drop j)[k]? = some v → w'.cell? ⟨b, o + k, none⟩ = some v) ∧ w.grownBy w' (some b) := by
  obtain ⟨i0, hi0, hz0, hz1, hz2⟩ := info_parts Try.info9
  have bx : Bx w b 9 cur := hb
  obtain ⟨news, hnews⟩ : ∃ news, news = xs.drop j := ⟨_, rfl⟩
  have hlen : news.length = n - j := by rw [hnews, List.length_drop, hxl]
  obtain ⟨A, hA, hsrc⟩ : ∃ A : Addr, (if c = j then some (⟨b, o, none⟩ : Addr) else some ⟨b, o + j, none⟩) = some A ∧ Hid (∀ t u, news[t]? = some u → w.drew.cell? (A.add t) = some u) := by
    by_cases h : c = j
    · refine ⟨⟨b, o, none⟩, by simp [h], fun t u hu => ?_⟩
      have h0 : news.length = 0 := by rw [hlen]; omega
      rw [List.length_eq_zero_iff.1 h0] at hu
      simp at hu
    · refine ⟨⟨b, o + j, none⟩, by simp [h], fun t u hu => ?_⟩
      rw [hnews, List.getElem?_drop] at hu
      rw [Addr.add_lit, Nat.add_assoc]
      exact hx (j + t) u hu
  have s1 : Hid (news.length = (n - j) * 1) := by rw [Nat.mul_one]; exact hlen
  have s2 : Hid (∀ u ∈ news, u.oneCell' = true) := by
    intro u hu
    rw [hnews] at hu
    exact h1 u (List.mem_of_mem_drop hu)
  have s3 : Hid (∀ t, t < news.length → (w.drew.cell? ⟨b, o + i * 1 + t, none⟩).isSome = true ∧ w.drew.frozen? ⟨b, o + i * 1 + t, none⟩ = false) := by
    intro t ht
    rw [hlen] at ht
    exact ⟨by show (w.cell? _).isSome = true; rw [bx.cell, Array.getElem?_eq_getElem (by omega)]; rfl, bx.frozen _⟩
  obtain ⟨W1, hW1⟩ : ∃ W1, W1 = w.drew.setCells b (o + i * 1) news := ⟨_, rfl⟩
  obtain ⟨cur1, e1, e2, e3⟩ := row_sets news (o + i * 1) w.drew cur hb (by omega)
  rw [← hW1] at e1
  have g1 : w.grownBy W1 (some b) := by rw [hW1]; exact grown_trans (⟨rfl, rfl, rfl, Nat.le_refl _, fun _ _ _ => rfl⟩ : w.grownBy w.drew (some b)) (grown_sets b news (o + i * 1) w.drew)
  have bx1 : Bx W1 b 9 cur1 := e1
  have hcl : ∀ ty, (Builtin.clear_ #[27] ty #[.slice (some ⟨b, o + (i + (n - j)), none⟩) (n - (i + (n - j))) (c - (i + (n - j)))]).run Try.prog W1 = .ok (.tuple #[]) (W1.setCells b (o + (i + (n - j))) (List.replicate (n - (i + (n - j))) (.string ByteArray.empty))) :=
    fun ty => Lib.run_clear_slice W1 _ _ ty (.string ByteArray.empty) Try.underlying27 (fun W => by kernel_rfl) rfl rfl b (o + (i + (n - j))) _ _ (by omega) (fun t ht => by rw [bx1.cell, Array.getElem?_eq_getElem (by omega)]; rfl) (fun t ht => bx1.frozen _)
  have HF : Hid (∀ W2, W2 = W1.setCells b (o + (i + (n - j))) (List.replicate (n - (i + (n - j))) (.string ByteArray.empty)) → (∀ k v, (xs.take i ++ xs.drop j)[k]? = some v → W2.cell? ⟨b, o + k, none⟩ = some v) ∧ w.grownBy W2 (some b)) := by
    rintro W2 rfl
    obtain ⟨cur2, f1, f2, f3⟩ := row_sets (List.replicate (n - (i + (n - j))) (.string ByteArray.empty)) (o + (i + (n - j))) W1 cur1 e1 (by rw [List.length_replicate]; omega)
    refine ⟨fun k v hk => ?_, grown_trans g1 (grown_sets b _ _ W1)⟩
    have hkl := (List.getElem?_eq_some_iff.1 hk).1
    rw [List.length_append, List.length_take, List.length_drop, hxl] at hkl
    rw [Bx.cell (show Bx _ b 9 cur2 from f1) (o + k), f3, if_neg (by omega), e3]
    have hl : (xs.take i).length = i := by rw [List.length_take]; omega
    by_cases q1 : k < i
    · rw [if_neg (by omega), ← bx.cell]
      rw [List.getElem?_append_left (by omega), List.getElem?_take, if_pos q1] at hk
      exact hx k v hk
    · rw [if_pos (by omega), hnews]
      rw [List.getElem?_append_right (by omega), hl] at hk
      rw [show o + k - (o + i * 1) = k - i by omega]
      exact hk
  have hW : Hid (W1 = w.drew.setCells b (o + i * 1) news) := hW1
  have hic : i ≤ c := by omega
  have hjc : j ≤ c := by omega
  have hne : ¬ i = j := by omega
  have hle : i ≤ j := by omega
  have mixed : Try.prog.follows .mixedOrders = true := by kernel_rfl
  clear hW1 hx e1 e2 e3 bx bx1 g1 hb hcs hlen hnews h1 hxl
  go_enter Try.func114, Try.ntmps114
  go_wp2_with fail
  go_region_law_o (refine step_append_room rfl (.tmp 22) (.tmp 25) 27 rfl 9 i0 1 Try.underlying27 hi0 hz1 b o i c (by simp [Act.eval, Act.put]) A (n - j) (c - j) news (by simp [Act.eval, Act.put]) s1.out hsrc.out s2.out (by omega) s3.out ?_; rw [← hW.out])
  go_wp2
  go_ret
  exact ⟨by rw [show n - (j - i) = i + (n - j) by omega]; rfl, HF.out _ rfl⟩

set_option maxHeartbeats 4000000 in
theorem delN_any (b o n c i j : Nat) (cur : Array Value) (xs : List Value) (w : World) (hb : w.heap[b]? = some (.cells cur 59 (0, 0))) (hcs : o + n ≤ cur.size) (hx : ∀ k v, xs[k]? = some v → w.cell? ⟨b, o + k, none⟩ = some v) (hxl : xs.length = n) (h1 : ∀ v ∈ xs, v.oneCell' = true) (hij : i < j) (hj : j ≤ n) (hnc : n ≤ c) (hc63 : c ≤ 9223372036854775807) :
    Calls Try.prog 137 #[.slice (some ⟨b, o, none⟩) n c, .int .i64 (i : Int), .int .i64 (j : Int)] w fun e w' => e = .returned (.slice (some ⟨b, o, none⟩) (n - (j - i)) c) ∧ (∀ k v, (xs.take i ++ xs.drop j)[k]? = some v → w'.cell? ⟨b, o + k, none⟩ = some v) ∧ w.grownBy w' (some b) := by
  obtain ⟨i0, hi0, hz0, hz1, hz2⟩ := info_parts Try.info59
  have bx : Bx w b 59 cur := hb
  obtain ⟨news, hnews⟩ : ∃ news, news = xs.drop j := ⟨_, rfl⟩
  have hlen : news.length = n - j := by rw [hnews, List.length_drop, hxl]
  obtain ⟨A, hA, hsrc⟩ : ∃ A : Addr, (if c = j then some (⟨b, o, none⟩ : Addr) else some ⟨b, o + j, none⟩) = some A ∧ Hid (∀ t u, news[t]? = some u → w.drew.cell? (A.add t) = some u) := by
    by_cases h : c = j
    · refine ⟨⟨b, o, none⟩, by simp [h], fun t u hu => ?_⟩
      have h0 : news.length = 0 := by rw [hlen]; omega
      rw [List.length_eq_zero_iff.1 h0] at hu
      simp at hu
    · refine ⟨⟨b, o + j, none⟩, by simp [h], fun t u hu => ?_⟩
      rw [hnews, List.getElem?_drop] at hu
      rw [Addr.add_lit, Nat.add_assoc]
      exact hx (j + t) u hu
  have s1 : Hid (news.length = (n - j) * 1) := by rw [Nat.mul_one]; exact hlen
  have s2 : Hid (∀ u ∈ news, u.oneCell' = true) := by
    intro u hu
    rw [hnews] at hu
    exact h1 u (List.mem_of_mem_drop hu)
  have s3 : Hid (∀ t, t < news.length → (w.drew.cell? ⟨b, o + i * 1 + t, none⟩).isSome = true ∧ w.drew.frozen? ⟨b, o + i * 1 + t, none⟩ = false) := by
    intro t ht
    rw [hlen] at ht
    exact ⟨by show (w.cell? _).isSome = true; rw [bx.cell, Array.getElem?_eq_getElem (by omega)]; rfl, bx.frozen _⟩
  obtain ⟨W1, hW1⟩ : ∃ W1, W1 = w.drew.setCells b (o + i * 1) news := ⟨_, rfl⟩
  obtain ⟨cur1, e1, e2, e3⟩ := row_sets news (o + i * 1) w.drew cur hb (by omega)
  rw [← hW1] at e1
  have g1 : w.grownBy W1 (some b) := by rw [hW1]; exact grown_trans (⟨rfl, rfl, rfl, Nat.le_refl _, fun _ _ _ => rfl⟩ : w.grownBy w.drew (some b)) (grown_sets b news (o + i * 1) w.drew)
  have bx1 : Bx W1 b 59 cur1 := e1
  have hcl : ∀ ty, (Builtin.clear_ #[94] ty #[.slice (some ⟨b, o + (i + (n - j)), none⟩) (n - (i + (n - j))) (c - (i + (n - j)))]).run Try.prog W1 = .ok (.tuple #[]) (W1.setCells b (o + (i + (n - j))) (List.replicate (n - (i + (n - j))) (.nilIface))) :=
    fun ty => Lib.run_clear_slice W1 _ _ ty (.nilIface) Try.underlying94 (fun W => by kernel_rfl) rfl rfl b (o + (i + (n - j))) _ _ (by omega) (fun t ht => by rw [bx1.cell, Array.getElem?_eq_getElem (by omega)]; rfl) (fun t ht => bx1.frozen _)
  have HF : Hid (∀ W2, W2 = W1.setCells b (o + (i + (n - j))) (List.replicate (n - (i + (n - j))) (.nilIface)) → (∀ k v, (xs.take i ++ xs.drop j)[k]? = some v → W2.cell? ⟨b, o + k, none⟩ = some v) ∧ w.grownBy W2 (some b)) := by
    rintro W2 rfl
    obtain ⟨cur2, f1, f2, f3⟩ := row_sets (List.replicate (n - (i + (n - j))) (.nilIface)) (o + (i + (n - j))) W1 cur1 e1 (by rw [List.length_replicate]; omega)
    refine ⟨fun k v hk => ?_, grown_trans g1 (grown_sets b _ _ W1)⟩
    have hkl := (List.getElem?_eq_some_iff.1 hk).1
    rw [List.length_append, List.length_take, List.length_drop, hxl] at hkl
    rw [Bx.cell (show Bx _ b 59 cur2 from f1) (o + k), f3, if_neg (by omega), e3]
    have hl : (xs.take i).length = i := by rw [List.length_take]; omega
    by_cases q1 : k < i
    · rw [if_neg (by omega), ← bx.cell]
      rw [List.getElem?_append_left (by omega), List.getElem?_take, if_pos q1] at hk
      exact hx k v hk
    · rw [if_pos (by omega), hnews]
      rw [List.getElem?_append_right (by omega), hl] at hk
      rw [show o + k - (o + i * 1) = k - i by omega]
      exact hk
  have hW : Hid (W1 = w.drew.setCells b (o + i * 1) news) := hW1
  have hic : i ≤ c := by omega
  have hjc : j ≤ c := by omega
  have hne : ¬ i = j := by omega
  have hle : i ≤ j := by omega
  have mixed : Try.prog.follows .mixedOrders = true := by kernel_rfl
  clear hW1 hx e1 e2 e3 bx bx1 g1 hb hcs hlen hnews h1 hxl
  go_enter Try.func137, Try.ntmps137
  go_wp2_with fail
  go_region_law_o (refine step_append_room rfl (.tmp 22) (.tmp 25) 94 rfl 59 i0 1 Try.underlying94 hi0 hz1 b o i c (by simp [Act.eval, Act.put]) A (n - j) (c - j) news (by simp [Act.eval, Act.put]) s1.out hsrc.out s2.out (by omega) s3.out ?_; rw [← hW.out])
  go_wp2
  go_ret
  exact ⟨by rw [show n - (j - i) = i + (n - j) by omega]; rfl, HF.out _ rfl⟩

end Go.Proofs.Ytakemeccigpbaaa

namespace Go.Proofs.Ytakemeccigpbaaa
open Go.RowKit Go.Deep
set_option linter.unusedVariables false
set_option maxRecDepth 100000

theorem rdv_leaf {S : Nat → Prop} {w : World} {ka : Option Addr} {L : List ByteArray} (hr : RdO S w ka L.length (fun i => .string (gt L i))) : RdV w ka L.length (strL L) := by
  refine ⟨strL_length L, strL_one L, ?_⟩
  rcases hr with q | ⟨g, o, rfl, _, hl, hcc⟩
  · exact .inl q
  · refine .inr ⟨g, o, rfl, hl, fun j u hj => ?_⟩
    have hj2 := (List.getElem?_eq_some_iff.1 hj).1
    rw [strL_length] at hj2
    rw [strL_get L j hj2] at hj
    injection hj with hj
    subst hj
    exact hcc j hj2
theorem rdv_inner {S : Nat → Prop} {w : World} {d g o : Nat} {l : List (Ro d)} {xs : List Value} (hg : g < w.heap.size) (h0 : xs.length = l.length) (hcc : ∀ j u, xs[j]? = some u → w.cell? ⟨g, o + j, none⟩ = some u) (hk : ∀ k (h : k < l.length), ∃ u, xs[k]? = some u ∧ TAo S w d l[k] u) : RdV w (some ⟨g, o, none⟩) l.length xs := by
  refine ⟨h0, fun u hu => ?_, .inr ⟨g, o, rfl, hg, hcc⟩⟩
  obtain ⟨k, hkl, e⟩ := List.getElem_of_mem hu
  obtain ⟨u', q1, q2⟩ := hk k (by omega)
  rw [List.getElem?_eq_getElem hkl, e] at q1
  injection q1 with q1
  subst q1
  exact q2.oneCell
theorem all_cat {S : Nat → Prop} {w : World} {d : Nat} {l m : List (Ro d)} {xs ys : List Value} (hx : xs.length = l.length) (h1 : ∀ k (h : k < l.length), ∃ u, xs[k]? = some u ∧ TAo S w d l[k] u) (h2 : ∀ k (h : k < m.length), ∃ u, ys[k]? = some u ∧ TAo S w d m[k] u) : ∀ k (h : k < (l ++ m).length), ∃ u, (xs ++ ys)[k]? = some u ∧ TAo S w d (l ++ m)[k] u := by
  intro k h
  by_cases q : k < l.length
  · obtain ⟨u, e, ht⟩ := h1 k q
    exact ⟨u, by rw [List.getElem?_append_left (by omega)]; exact e, by rw [List.getElem_append_left q]; exact ht⟩
  · rw [List.length_append] at h
    obtain ⟨u, e, ht⟩ := h2 (k - l.length) (by omega)
    exact ⟨u, by rw [List.getElem?_append_right (by omega), hx]; exact e, by rw [List.getElem_append_right (by omega)]; exact ht⟩

/-- Two neighbours share out anew what they hold. -/
theorem dealD_any (d h b r st : Nat) (t u : Ro (d + 1)) (v x : Value) (S : Nat → Prop) (w : World) (h1 : NdI S w b (d + 1) t v) (h2 : NdI S w r (d + 1) u x) (hU : BalU (d + 1) t h) (hV : BalU (d + 1) u h) (hSb : ¬ S b) (hSr : ¬ S r) (hbr : b ≠ r) (hst0 : 0 < st) (hst : st < sizD t + sizD u) (hk : (keysR (d + 1) t).length + (keysR (d + 1) u).length ≤ 1099511627776) :
    Calls Try.prog 73 #[v, x, .int .i64 (st : Int)] w fun e w' => e = .returned (.tuple #[]) ∧ Fr2 w w' b r ∧ TAo (fun y => S y ∨ y = b ∨ w.heap.size ≤ y) w' (d + 1) (cutD 0 st (joinD t u)) v ∧ TAo (fun y => S y ∨ y = r ∨ w.heap.size ≤ y) w' (d + 1) (cutD st (sizD t + sizD u) (joinD t u)) x := by
  match t, u, h1, h2, hU, hV, hst, hk with
  | .inl L, .inl M, h1, h2, hU, hV, hst, hk =>
    obtain ⟨rfl, ka, kc, hx, hc, hr⟩ := h1
    obtain ⟨rfl, ka2, kc2, hx2, hc2, hr2⟩ := h2
    have hst' : st < L.length + M.length := hst
    have hL := hU.2
    have hM := hV.2
    refine (dealLeaf_any d b r L.length M.length kc kc2 st ka ka2 _ _ L M w hx hx2 hbr (rdv_leaf hr) (rdv_leaf hr2) hst' hst0 (by omega)).mono ?_
    rintro e w' ⟨rfl, q1, q2, q3⟩
    refine ⟨rfl, q1, ?_, ?_⟩
    · exact TAo.wide (show TAo _ w' (d + 1) (.inl (((L ++ M).take st).drop 0)) _ from q2) (fun y hy _ => .inr hy)
    · refine TAo.wide (show TAo _ w' (d + 1) (.inl (((L ++ M).take (L.length + M.length)).drop st)) _ from ?_) (fun y hy _ => .inr hy)
      rw [← List.length_append, List.take_length]
      exact q3
  | .inr l, .inr m, h1, h2, hU, hV, hst, hk =>
    obtain ⟨rfl, g, o, kc, xs, hx, hg, hc, h0, hcc, hk1⟩ := h1
    obtain ⟨rfl, g2, o2, kc2, xs2, hx2, hg2, hc2, h02, hcc2, hk2⟩ := h2
    have hst' : st < l.length + m.length := hst
    have hL := hU.2.1
    have hM := hV.2.1
    refine (dealInner_any d b r l.length m.length kc kc2 st _ _ _ _ xs xs2 (l ++ m) S w hx hx2 hbr (rdv_inner hc.1 h0.2 hcc hk1) (rdv_inner hc2.1 h02.2 hcc2 hk2) (by rw [List.length_append]) (all_cat h0.2 hk1 hk2) hSb hSr ?_ hst' hst0 (by omega)).mono ?_
    · rw [List.flatMap_append, List.length_append]
      exact hk
    rintro e w' ⟨rfl, q1, q2, q3⟩
    refine ⟨rfl, q1, ?_, ?_⟩
    · exact (show TAo _ w' (d + 1) (.inr (((l ++ m).take st).drop 0)) _ from q2)
    · refine (show TAo _ w' (d + 1) (.inr (((l ++ m).take (l.length + m.length)).drop st)) _ from ?_)
      rw [List.drop_take]
      exact q3
  | .inl L, .inr m, h1, h2, hU, hV, hst, hk =>
    obtain ⟨_, _, h2, e2, _⟩ := hV
    have := hU.1
    omega
  | .inr l, .inl M, h1, h2, hU, hV, hst, hk =>
    obtain ⟨_, _, h2, e2, _⟩ := hU
    have := hV.1
    omega
/-- All stays left. -/
theorem dealDF_any (d h b r st : Nat) (t u : Ro (d + 1)) (v x : Value) (S : Nat → Prop) (w : World) (h1 : NdI S w b (d + 1) t v) (h2 : NdI S w r (d + 1) u x) (hU : BalU (d + 1) t h) (hV : BalU (d + 1) u h) (hSb : ¬ S b) (hSr : ¬ S r) (hbr : b ≠ r) (hst0 : 0 < st) (hst : st = sizD t + sizD u) (hk : (keysR (d + 1) t).length + (keysR (d + 1) u).length ≤ 1099511627776) :
    Calls Try.prog 73 #[v, x, .int .i64 (st : Int)] w fun e w' => e = .returned (.tuple #[]) ∧ Fr2 w w' b r ∧ TAo (fun y => S y ∨ y = b ∨ w.heap.size ≤ y) w' (d + 1) (joinD t u) v := by
  match t, u, h1, h2, hU, hV, hst, hk with
  | .inl L, .inl M, h1, h2, hU, hV, hst, hk =>
    obtain ⟨rfl, ka, kc, hx, hc, hr⟩ := h1
    obtain ⟨rfl, ka2, kc2, hx2, hc2, hr2⟩ := h2
    have hst' : st = L.length + M.length := hst
    have hL := hU.2
    have hM := hV.2
    refine (dealLeafF_any d b r L.length M.length kc kc2 st ka ka2 _ _ L M w hx hx2 hbr (rdv_leaf hr) (rdv_leaf hr2) hst' hst0 (by omega)).mono ?_
    rintro e w' ⟨rfl, q1, q2⟩
    exact ⟨rfl, q1, TAo.wide (show TAo _ w' (d + 1) (.inl (L ++ M)) _ from q2) (fun y hy _ => .inr hy)⟩
  | .inr l, .inr m, h1, h2, hU, hV, hst, hk =>
    obtain ⟨rfl, g, o, kc, xs, hx, hg, hc, h0, hcc, hk1⟩ := h1
    obtain ⟨rfl, g2, o2, kc2, xs2, hx2, hg2, hc2, h02, hcc2, hk2⟩ := h2
    have hst' : st = l.length + m.length := hst
    have hL := hU.2.1
    have hM := hV.2.1
    refine (dealInnerF_any d b r l.length m.length kc kc2 st _ _ _ _ xs xs2 (l ++ m) S w hx hx2 hbr (rdv_inner hc.1 h0.2 hcc hk1) (rdv_inner hc2.1 h02.2 hcc2 hk2) (by rw [List.length_append]) (all_cat h0.2 hk1 hk2) hSb hSr ?_ hst' hst0 (by omega)).mono ?_
    · rw [List.flatMap_append, List.length_append]
      exact hk
    rintro e w' ⟨rfl, q1, q2⟩
    refine ⟨rfl, q1, (show TAo _ w' (d + 1) (.inr (l ++ m)) _ from ?_)⟩
    rw [List.drop_zero, hst', ← List.length_append, List.take_length] at q2
    exact q2
  | .inl L, .inr m, h1, h2, hU, hV, hst, hk =>
    obtain ⟨_, _, h2, e2, _⟩ := hV
    have := hU.1
    omega
  | .inr l, .inl M, h1, h2, hU, hV, hst, hk =>
    obtain ⟨_, _, h2, e2, _⟩ := hU
    have := hV.1
    omega

theorem take_l {T : Type} (L M : List T) (k : Nat) (h : k ≤ L.length) : (L ++ M).take k = L.take k := List.take_append_of_le_length h
theorem cut_left : ∀ {d h : Nat} {z y : Ro (d + 1)}, BalU (d + 1) z h → BalU (d + 1) y h → 0 < sizD z → cutD 0 (sizD z - 1) (joinD z y) = cutD 0 (sizD z - 1) z ∧ cutD (sizD z - 1) (sizD z + sizD y) (joinD z y) = joinD (cutD (sizD z - 1) (sizD z) z) y
  | d, h, .inl L, .inl M, hU, hV, hz => by
    have hz' : 0 < L.length := hz
    constructor
    · show Sum.inl (((L ++ M).take (L.length - 1)).drop 0) = Sum.inl ((L.take (L.length - 1)).drop 0)
      rw [take_l L M _ (by omega)]
    · show Sum.inl (((L ++ M).take (L.length + M.length)).drop (L.length - 1)) = Sum.inl (((L.take L.length).drop (L.length - 1)) ++ M)
      rw [← List.length_append, List.take_length, List.take_length, List.drop_append_of_le_length (by omega)]
  | d, h, .inr L, .inr M, hU, hV, hz => by
    have hz' : 0 < L.length := hz
    constructor
    · show Sum.inr (((L ++ M).take (L.length - 1)).drop 0) = Sum.inr ((L.take (L.length - 1)).drop 0)
      rw [take_l L M _ (by omega)]
    · show Sum.inr (((L ++ M).take (L.length + M.length)).drop (L.length - 1)) = Sum.inr (((L.take L.length).drop (L.length - 1)) ++ M)
      rw [← List.length_append, List.take_length, List.take_length, List.drop_append_of_le_length (by omega)]
  | d, h, .inl L, .inr m, hU, hV, hz => by
    obtain ⟨_, _, h2, e2, _⟩ := hV
    have := hU.1
    omega
  | d, h, .inr l, .inl M, hU, hV, hz => by
    obtain ⟨_, _, h2, e2, _⟩ := hU
    have := hV.1
    omega
theorem cut_right : ∀ {d h : Nat} {y z : Ro (d + 1)}, BalU (d + 1) y h → BalU (d + 1) z h → 0 < sizD z → cutD 0 (sizD y + 1) (joinD y z) = joinD y (cutD 0 1 z) ∧ cutD (sizD y + 1) (sizD y + sizD z) (joinD y z) = cutD 1 (sizD z) z
  | d, h, .inl L, .inl M, hU, hV, hz => by
    have hz' : 0 < M.length := hz
    constructor
    · show Sum.inl (((L ++ M).take (L.length + 1)).drop 0) = Sum.inl (L ++ (M.take 1).drop 0)
      rw [List.take_length_add_append]
      rfl
    · show Sum.inl (((L ++ M).take (L.length + M.length)).drop (L.length + 1)) = Sum.inl ((M.take M.length).drop 1)
      rw [← List.length_append, List.take_length, List.take_length, List.drop_length_add_append]
  | d, h, .inr L, .inr M, hU, hV, hz => by
    have hz' : 0 < M.length := hz
    constructor
    · show Sum.inr (((L ++ M).take (L.length + 1)).drop 0) = Sum.inr (L ++ (M.take 1).drop 0)
      rw [List.take_length_add_append]
      rfl
    · show Sum.inr (((L ++ M).take (L.length + M.length)).drop (L.length + 1)) = Sum.inr ((M.take M.length).drop 1)
      rw [← List.length_append, List.take_length, List.take_length, List.drop_length_add_append]
  | d, h, .inl L, .inr m, hU, hV, hz => by
    obtain ⟨_, _, h2, e2, _⟩ := hV
    have := hU.1
    omega
  | d, h, .inr l, .inl M, hU, hV, hz => by
    obtain ⟨_, _, h2, e2, _⟩ := hU
    have := hV.1
    omega

/-- A call of a node's size. -/
def SzI (v : Value) (n : Nat) (w : World) : Prop :=
  (∃ b, v = .iface 53 (.pointer (some ⟨b, 0, none⟩)) ∧ Calls Try.prog 140 #[.pointer (some ⟨b, 0, none⟩)] w fun e w' => e = .returned (.int .i64 (n : Int)) ∧ w' = w) ∨
  (∃ b, v = .iface 91 (.pointer (some ⟨b, 0, none⟩)) ∧ Calls Try.prog 55 #[.pointer (some ⟨b, 0, none⟩)] w fun e w' => e = .returned (.int .i64 (n : Int)) ∧ w' = w)
theorem NdI.szi {S : Nat → Prop} {w : World} {b d : Nat} {t : Ro (d + 1)} {v : Value} (h : NdI S w b (d + 1) t v) : SzI v (sizD t) w := by
  rcases h.form with ⟨rfl, x, ka, kc, hx⟩ | ⟨rfl, x, ka, kc, hx⟩
  · exact .inl ⟨b, rfl, sizeLeaf_any b _ kc ka x w hx⟩
  · exact .inr ⟨b, rfl, sizeInner_any b _ kc ka x w hx⟩
theorem step_size {ops : Array Oper} {o : Oper} {a : Act} {w : World} {K : Act → World → Prop} {Q : Exit → Act → World → Prop} {E : Prop} (hgd : o.guard = none) (i : Nat) (nm : String) (v : Value) (n : Nat)
    (ho : o.op = .call { callee := .invoke (.tmp i) nm, args := #[], argTypes := #[] }) (hx : a.tmps[i]?.getD undef = v) (hm1 : ∀ b w, (method 259 53 (.pointer (some ⟨b, 0, none⟩)) nm).run Try.prog w = .ok (140, .pointer (some ⟨b, 0, none⟩)) w) (hm2 : ∀ b w, (method 259 91 (.pointer (some ⟨b, 0, none⟩)) nm).run Try.prog w = .ok (55, .pointer (some ⟨b, 0, none⟩)) w)
    (hs : SzI v n w) (h : K (a.put o.dst (.int .i64 (n : Int))) w) :
    if Region.wanted o (yielded ops a.tmps) = true then Oper.wp Try.prog o a w K Q else E := by
  have hw : Region.wanted o (yielded ops a.tmps) = true := by simp [Region.wanted, hgd]
  rw [if_pos hw]
  unfold Oper.wp
  rcases hs with ⟨b, rfl, hc⟩ | ⟨b, rfl, hc⟩
  · have heg : ∀ args w, (callFunc 140 args).run Try.prog w = .ok (.enter 140 args) w := fun _ _ => by rfl
    simp [execOp, ho, resolve, invoke, hx, go_sem, hm1, heg]
    refine hc.mono ?_
    rintro e w' ⟨rfl, rfl⟩
    exact h
  · have heg : ∀ args w, (callFunc 55 args).run Try.prog w = .ok (.enter 55 args) w := fun _ _ => by rfl
    simp [execOp, ho, resolve, invoke, hx, go_sem, hm2, heg]
    refine hc.mono ?_
    rintro e w' ⟨rfl, rfl⟩
    exact h
end Go.Proofs.Ytakemeccigpbaaa

namespace Go.Proofs.Ytakemeccigpbaaa
open Go.RowKit Go.Deep
set_option linter.unusedVariables false
set_option maxRecDepth 100000

theorem delK_at {key : ByteArray} {L : List ByteArray} {i : Nat} (ha : Asc L) (hi : i < L.length) (e : gt L i = key) : delK key L = L.take i ++ L.drop (i + 1) := by
  have eg : L[i] = key := by
    rw [← e]
    unfold gt
    rw [List.getD_eq_getElem?_getD, List.getElem?_eq_getElem hi]
    rfl
  have hL : L = L.take i ++ key :: L.drop (i + 1) := by
    rw [← eg, List.getElem_cons_drop, List.take_append_drop]
  have ha2 : Asc (L.take i ++ key :: L.drop (i + 1)) := by rw [← hL]; exact ha
  have ha3 := List.pairwise_append.1 ha2
  have ha4 := List.pairwise_cons.1 ha3.2.1
  have q1 : (L.take i).filter (fun k => !(k.toList == key.toList)) = L.take i := by
    rw [List.filter_eq_self]
    intro x hx
    have hlt := ha3.2.2 x hx key (by simp)
    have hne : x.toList ≠ key.toList := fun e => by
      rw [e, less_irrefl] at hlt
      cases hlt
    simpa using hne
  have q2 : (L.drop (i + 1)).filter (fun k => !(k.toList == key.toList)) = L.drop (i + 1) := by
    rw [List.filter_eq_self]
    intro x hx
    have hlt := ha4.1 x hx
    have hne : x.toList ≠ key.toList := fun e => by
      rw [e, less_irrefl] at hlt
      cases hlt
    simpa using hne
  unfold delK
  conv => lhs; rw [hL]
  rw [List.filter_append, List.filter_cons_of_neg (by simp), q1, q2]
theorem delK_len {key : ByteArray} {L : List ByteArray} {i : Nat} (ha : Asc L) (hi : i < L.length) (e : gt L i = key) : (delK key L).length = L.length - 1 := by
  rw [delK_at ha hi e, List.length_append, List.length_take, List.length_drop]
  omega

/-- What a leaf's remove does. -/
def RetLr (b n kc : Nat) (ka : Option Addr) (L : List ByteArray) (key : ByteArray) (w : World) (e : Ending) (w' : World) : Prop :=
  (key ∉ L ∧ e = .returned (.bool false) ∧ w' = w) ∨
  (key ∈ L ∧ e = .returned (.bool true) ∧ Only2 w w' b ka ∧ (delK key L).length = n - 1 ∧ ∃ g, ka = some ⟨g, 0, none⟩ ∧ g ≠ b ∧ g < w.heap.size ∧ Bx w' b 57 #[.int .i64 ((n - 1 : Nat) : Int), .slice (some ⟨g, 0, none⟩) (n - 1) kc] ∧ ∀ j u, (strL (delK key L))[j]? = some u → w'.cell? ⟨g, 0 + j, none⟩ = some u)

set_option maxHeartbeats 2000000 in
theorem leafRem_any (B b n kc : Nat) (ka : Option Addr) (L : List ByteArray) (key : ByteArray) (w : World) (hx : Bx w b 57 #[.int .i64 (n : Int), .slice ka n kc]) (ho : w.ownsRow B 9 1 (.slice ka n kc) n (strL L)) (hn : n = L.length) (hn2 : n ≤ 1000000) (ha : Asc L) :
    Calls Try.prog 109 #[.pointer (some ⟨b, 0, none⟩), .string key] w (RetLr b n kc ka L key w) := by
  obtain ⟨a6, c6, e6, hrd, hcap6⟩ := ownS_strL ho hn
  injection e6 with e6 e7 e8
  subst e6
  rw [← hn] at hrd
  have HR : Hid (Bx w b 57 #[.int .i64 (n : Int), .slice ka n kc] ∧ w.ownsRow B 9 1 (.slice ka n kc) n (strL L) ∧ n = L.length ∧ Asc L ∧ RdS w ka n (gt L)) := ⟨hx, ho, hn, ha, hrd.rd⟩
  have c0 := hx.cell 0
  have c1 := hx.cell 1
  have f1 := hx.frozen 1
  have hl := hx.lt
  simp at c0 c1
  clear hx ho hn ha hrd hcap6 e7 e8 c6
  go_enter Try.func109, Try.ntmps109
  go_wp2_with fail
  refine (bs_any ka n kc L key w HR.out.2.2.2.2 HR.out.2.2.1 (by omega) HR.out.2.2.2.1).mono ?_
  rintro e w1 ⟨i, ok, rfl, rfl, h1, h2, h3, h4⟩
  cases ok with
  | false =>
    have HM : Hid (¬ key ∈ L) := fun hm => by
      obtain ⟨j, hj, e⟩ := List.getElem_of_mem hm
      have eg : gt L j = key := by
        unfold gt
        rw [List.getD_eq_getElem?_getD, List.getElem?_eq_getElem hj]
        exact e
      have hji : ¬ j < i := fun q => by
        have := h2 j q
        rw [eg, less_irrefl] at this
        cases this
      by_cases e2 : j = i
      · subst e2
        have := h4.2 ⟨hj, eg⟩
        cases this
      · have q1 := asc_lt HR.out.2.2.2.1 (show i < j by omega) hj
        rw [eg] at q1
        have q2 := h3 i (Nat.le_refl _) (by omega)
        rw [q1] at q2
        cases q2
    clear h1 h2 h3 h4
    go_wp2
    go_ret
    exact .inl ⟨HM.out, rfl, rfl⟩
  | true =>
    obtain ⟨q1, q2⟩ := h4.1 rfl
    have HM : Hid (key ∈ L ∧ (delK key L).length = n - 1 ∧ delK key L = L.take i ++ L.drop (i + 1)) := ⟨by rw [← q2]; exact gt_mem q1, by rw [HR.out.2.2.1]; exact delK_len HR.out.2.2.2.1 q1 q2, delK_at HR.out.2.2.2.1 q1 q2⟩
    have hin : i < n := by rw [HR.out.2.2.1]; exact q1
    clear h1 h2 h3 h4 q1 q2
    obtain ⟨g, cur, e1, hg1, hcn, hcm, hcs, htk⟩ : ∃ g cur, ka = some ⟨g, 0, none⟩ ∧ w1.heap[g]? = some (.cells cur 9 (0, 0)) ∧ n ≤ kc ∧ kc ≤ maxLen ∧ cur.size = kc ∧ cur.toList.take n = strL L := by
      rcases HR.out.2.1.2 with ⟨q, q0⟩ | ⟨g, cap, cur, q1, q2, q3, q4, q5, q6, q7⟩
      · omega
      · injection q1 with q1 _ q8
        subst q8
        exact ⟨g, cur, q1, q3, q4, q5, by omega, by rw [Nat.mul_one] at q7; exact q7⟩
    subst e1
    have hgb : g ≠ b := fun e => by
      have hb := HR.out.1
      unfold Bx at hb
      rw [← e] at hb
      have e2 := hg1.symm.trans hb
      injection e2 with e2
      injection e2 with _ e2 _
      exact absurd e2 (by decide)
    have hgl : g < w1.heap.size := (Array.getElem?_eq_some_iff.1 hg1).1
    have hmx : kc ≤ 9223372036854775807 := by unfold maxLen at hcm; omega
    have HDl : Hid (Calls Try.prog 114 #[.slice (some ⟨g, 0, none⟩) n kc, .int .i64 (i : Int), .int .i64 ((i + 1 : Nat) : Int)] w1 fun e w' => e = .returned (.slice (some ⟨g, 0, none⟩) (n - 1) kc) ∧ (∀ k v, (strL (delK key L))[k]? = some v → w'.cell? ⟨g, 0 + k, none⟩ = some v) ∧ w1.grownBy w' (some g)) := by
      have q := delS_any g 0 n kc i (i + 1) cur (strL L) w1 hg1 (by omega) (fun k v hk => by
        have hkl := (List.getElem?_eq_some_iff.1 hk).1
        rw [strL_length, ← HR.out.2.2.1] at hkl
        rw [Nat.zero_add, Bx.cell (show Bx w1 g 9 cur from hg1) k]
        rw [← htk, List.getElem?_take, if_pos hkl, Array.getElem?_toList] at hk
        exact hk) (by rw [strL_length, HR.out.2.2.1]) (strL_one L) (by omega) (by omega) hcn hmx
      rw [show n - (i + 1 - i) = n - 1 by omega, strL_take, strL_drop, ← strL_app, ← HM.out.2.2] at q
      exact q
    have y1 : IntKind.i64.wrap ((i : Int) + 1) = ((i + 1 : Nat) : Int) := by rw [IntKind.wrap_i64]; omega
    clear hg1 htk hcs
    go_wp2_with fail
    refine HDl.out.mono ?_
    rintro e w2 ⟨rfl, hc2, hg2⟩
    have hx2 : Bx w2 b 57 #[.int .i64 (n : Int), .slice (some ⟨g, 0, none⟩) n kc] := HR.out.1.grown hg2 (fun e => by injection e with e; exact hgb e)
    have d1 := hx2.cell 1
    have g1 := hx2.frozen 1
    have l2 := hx2.lt
    simp at d1
    have hx3 : Bx (w2.setCell ⟨b, 1, none⟩ (.slice (some ⟨g, 0, none⟩) (n - 1) kc)) b 57 #[.int .i64 (n : Int), .slice (some ⟨g, 0, none⟩) (n - 1) kc] := by
      have q := hx2.set 1 (.slice (some ⟨g, 0, none⟩) (n - 1) kc)
      simpa using q
    have HX : Hid (Bx (w2.setCell ⟨b, 1, none⟩ (.slice (some ⟨g, 0, none⟩) (n - 1) kc)) b 57 #[.int .i64 (n : Int), .slice (some ⟨g, 0, none⟩) (n - 1) kc]) := hx3
    have H2 : Hid ((∀ k v, (strL (delK key L))[k]? = some v → w2.cell? ⟨g, 0 + k, none⟩ = some v) ∧ w1.grownBy w2 (some g)) := ⟨hc2, hg2⟩
    clear hc2 hg2 hx2 hx3 c0 c1 f1 HDl
    go_wp2_with fail
    refine (recountLeaf_any b (n - 1) kc _ (n : Int) _ HX.out).mono ?_
    rintro e w3 ⟨rfl, rfl⟩
    have HF : Hid (RetLr b n kc (some ⟨g, 0, none⟩) L key w1 (.returned (.bool true)) ((w2.setCell ⟨b, 1, none⟩ (.slice (some ⟨g, 0, none⟩) (n - 1) kc)).setCell ⟨b, 0, none⟩ (.int .i64 ((n - 1 : Nat) : Int)))) := by
      obtain ⟨hc, hg⟩ := H2.out
      refine .inr ⟨HM.out.1, rfl, ⟨hg.os, hg.tape, hg.output, ?_, fun k hk hkb hka => ?_⟩, HM.out.2.1, g, rfl, hgb, hgl, ?_, fun j u hj => ?_⟩
      · have q := hg.size
        simp [World.setCell]
        omega
      · rw [Below.heap_setCell _ _ _ _ hkb, Below.heap_setCell _ _ _ _ hkb, hg.block k hk (fun e => hka (by injection e with e; rw [e]; rfl))]
      · have q := HX.out.set 0 (.int .i64 ((n - 1 : Nat) : Int))
        simpa using q
      · rw [World.cell?_of_block (a := ⟨g, 0 + j, none⟩) (w := w2) (by rw [Below.heap_setCell _ _ _ _ hgb, Below.heap_setCell _ _ _ _ hgb])]
        exact hc j u hj
    go_wp2
    go_ret
    exact HF.out

/-- A call of a node's remove. -/
def CallR (v : Value) (key : ByteArray) (w : World) (Q : Ending → World → Prop) : Prop :=
  (∃ b, v = .iface 53 (.pointer (some ⟨b, 0, none⟩)) ∧ Calls Try.prog 109 #[.pointer (some ⟨b, 0, none⟩), .string key] w Q) ∨
  (∃ b, v = .iface 91 (.pointer (some ⟨b, 0, none⟩)) ∧ Calls Try.prog 126 #[.pointer (some ⟨b, 0, none⟩), .string key] w Q)
/-- What a node's remove does; b: its box. -/
def RetR (key : ByteArray) (d : Nat) (t : Ro d) (v : Value) (bs : List Nat) (w : World) (e : Ending) (w' : World) : Prop :=
  (key ∉ keysR d t ∧ e = .returned (.bool false) ∧ Below w.heap.size w w') ∨
  (key ∈ keysR d t ∧ e = .returned (.bool true) ∧ Frs bs w w' ∧ ∃ u b, b ∈ bs ∧ DelR key d t u ∧ NdI (fun x => (x ∈ bs ∧ x ≠ b) ∨ w.heap.size ≤ x) w' b d u v)

theorem remLeafO (key : ByteArray) (d B : Nat) (L : List ByteArray) (v : Value) (bs : List Nat) (w : World) (h : TOw B w (d + 1) (.inl L) v bs) (hn : L.length ≤ 4) (ha : Asc L) : CallR v key w (RetR key (d + 1) (.inl L) v bs w) := by
  obtain ⟨b, ka, kc, rfl, hBb, hx, ho, rfl⟩ := h
  have hcap := own_cap ho
  refine .inl ⟨b, rfl, (leafRem_any B b L.length kc ka L key w hx ho rfl (by omega) ha).mono ?_⟩
  rintro e w' (⟨h1, rfl, rfl⟩ | ⟨h1, rfl, ho2, hlen, g, rfl, hgb, hgl, hx', hc⟩)
  · exact .inl ⟨h1, rfl, Below.refl _ _⟩
  · refine .inr ⟨h1, rfl, ⟨ho2.1, ho2.2.1, ho2.2.2.1, ho2.2.2.2.1, fun k hk hn => ho2.2.2.2.2 k hk (fun e => hn (by rw [e]; simp)) (fun e => hn (by injection e with e; simp [← e]))⟩, .inl (delK key L), b, by simp, rfl, rfl, some ⟨g, 0, none⟩, kc, by rw [hlen]; exact hx', by omega, ?_⟩
    refine .inr ⟨g, 0, rfl, .inl ⟨by simp, hgb⟩, by have := ho2.2.2.2.1; omega, fun i hi => ?_⟩
    exact hc i _ (strL_get _ i hi)
end Go.Proofs.Ytakemeccigpbaaa

namespace Go.Proofs.Ytakemeccigpbaaa
open Go.RowKit Go.Deep
set_option linter.unusedVariables false
set_option maxRecDepth 100000

/-- An inner node whose children's boxes cs may be changed; all else of the children lies in blocks of which S holds. -/
structure NR (S : Nat → Prop) (w : World) (d b g n kc : Nat) (x : Int) (m : List (Ro (d + 1))) (us : List Value) (cs : List Nat) : Prop where
  box : Bx w b 96 #[.int .i64 x, .slice (some ⟨g, 0, none⟩) n kc]
  own : ∃ cur, w.heap[g]? = some (.cells cur 59 (0, 0)) ∧ n ≤ cur.size
  row : ∀ j u, us[j]? = some u → w.cell? ⟨g, j, none⟩ = some u
  ul : us.length = n
  ml : m.length = n
  cl : cs.length = n
  nd : cs.Nodup
  out : ∀ c, c ∈ cs → ¬ S c
  nb : b ∉ cs ∧ ¬ S b
  ng : g ∉ cs ∧ ¬ S g
  gb : g ≠ b
  cap : n ≤ kc ∧ kc ≤ 9223372036854775807
  kid : ∀ k (h : k < m.length), ∃ u c, us[k]? = some u ∧ cs[k]? = some c ∧ NdI S w c (d + 1) m[k] u
theorem NR.at {S : Nat → Prop} {w : World} {d b g n kc : Nat} {x : Int} {m : List (Ro (d + 1))} {us : List Value} {cs : List Nat} (h : NR S w d b g n kc x m us cs) (k : Nat) (hk : k < n) : ∃ t u c, m[k]? = some t ∧ us[k]? = some u ∧ cs[k]? = some c ∧ w.cell? ⟨g, k, none⟩ = some u ∧ NdI S w c (d + 1) t u ∧ SzI u (sizD t) w ∧ ¬ S c ∧ c < w.heap.size := by
  have hm : k < m.length := by rw [h.ml]; exact hk
  obtain ⟨u, c, e1, e2, e3⟩ := h.kid k hm
  refine ⟨m[k], u, c, List.getElem?_eq_getElem hm, e1, e2, h.row k u e1, e3, e3.szi, h.out c (List.mem_of_getElem? e2), ?_⟩
  rcases e3.form with ⟨_, _, _, _, hx⟩ | ⟨_, _, _, _, hx⟩ <;> exact hx.lt

set_option maxHeartbeats 2000000 in
theorem canSpare_out {S : Nat → Prop} {w : World} {d b g n kc : Nat} {x : Int} {m : List (Ro (d + 1))} {us : List Value} {cs : List Nat} (h : NR S w d b g n kc x m us cs) (hn : n ≤ 1000) (j : Int) (hj : j < 0 ∨ (n : Int) ≤ j) :
    Calls Try.prog 134 #[.pointer (some ⟨b, 0, none⟩), .int .i64 j] w fun e w' => e = .returned (.bool false) ∧ w' = w := by
  have c1 := h.box.cell 1
  simp at c1
  have hl := h.box.lt
  clear h
  rcases hj with hj | hj
  · have j0 : ¬ (0 : Int) ≤ j := by omega
    have j0d : decide ((0 : Int) ≤ j) = false := decide_eq_false j0
    go_enter Try.func134, Try.ntmps134
    go_wp2
    go_ret
    exact ⟨rfl, rfl⟩
  · have j0 : (0 : Int) ≤ j := by omega
    have j0d : decide ((0 : Int) ≤ j) = true := decide_eq_true j0
    have j1 : ¬ j < (n : Int) := by omega
    have j1d : decide (j < (n : Int)) = false := decide_eq_false j1
    go_enter Try.func134, Try.ntmps134
    go_wp2
    go_ret
    exact ⟨rfl, rfl⟩

set_option maxHeartbeats 2000000 in
theorem canSpare_in {S : Nat → Prop} {w : World} {d b g n kc : Nat} {x : Int} {m : List (Ro (d + 1))} {us : List Value} {cs : List Nat} (h : NR S w d b g n kc x m us cs) (hn : n ≤ 1000) (j : Nat) (hj : j < n) (t : Ro (d + 1)) (ht : m[j]? = some t) :
    Calls Try.prog 134 #[.pointer (some ⟨b, 0, none⟩), .int .i64 (j : Int)] w fun e w' => e = .returned (.bool (decide (2 < sizD t))) ∧ w' = w := by
  obtain ⟨t', u, c, q1, q2, q3, q4, q5, q6, _⟩ := h.at j hj
  rw [ht] at q1
  injection q1 with q1
  subst q1
  have c1 := h.box.cell 1
  simp at c1
  have hl := h.box.lt
  have j0 : (0 : Int) ≤ (j : Int) := by omega
  have j0d : decide ((0 : Int) ≤ (j : Int)) = true := decide_eq_true j0
  have j1 : (j : Int) < (n : Int) := by omega
  have j1d : decide ((j : Int) < (n : Int)) = true := decide_eq_true j1
  obtain ⟨sz, hsz⟩ : ∃ sz, sz = sizD t := ⟨_, rfl⟩
  rw [← hsz] at q6 ⊢
  clear h q5 hsz ht
  rcases q6 with ⟨kb, rfl, hc⟩ | ⟨kb, rfl, hc⟩
  · have HC : Hid (Calls Try.prog 140 #[.pointer (some ⟨kb, 0, none⟩)] w fun e w' => e = .returned (.int .i64 (sz : Int)) ∧ w' = w) := hc
    clear hc
    go_enter Try.func134, Try.ntmps134
    go_wp2_with fail
    (with_reducible refine HC.out.mono ?_)
    rintro e w1 ⟨rfl, rfl⟩
    go_wp2
    go_ret
    exact ⟨by simp; omega, rfl⟩
  · have HC : Hid (Calls Try.prog 55 #[.pointer (some ⟨kb, 0, none⟩)] w fun e w' => e = .returned (.int .i64 (sz : Int)) ∧ w' = w) := hc
    clear hc
    go_enter Try.func134, Try.ntmps134
    go_wp2_with fail
    (with_reducible refine HC.out.mono ?_)
    rintro e w1 ⟨rfl, rfl⟩
    go_wp2
    go_ret
    exact ⟨by simp; omega, rfl⟩

/-- Two children were changed, the others kept. -/
theorem NR.two {S : Nat → Prop} {w w' : World} {d b g n kc : Nat} {x : Int} {m : List (Ro (d + 1))} {us : List Value} {cs : List Nat} (h : NR S w d b g n kc x m us cs) {p q cp cq : Nat} (hp : cs[p]? = some cp) (hq : cs[q]? = some cq) (hf : Fr2 w w' cp cq) (k : Nat) (hk : k < m.length) (h1 : k ≠ p) (h2 : k ≠ q) : ∃ u, us[k]? = some u ∧ TAo (fun y => S y ∨ y ∈ cs ∨ w.heap.size ≤ y) w' (d + 1) m[k] u := by
  obtain ⟨u, c, e1, e2, e3⟩ := h.kid k hk
  have hc := List.mem_of_getElem? e2
  have ne : ∀ {r cr : Nat}, cs[r]? = some cr → k ≠ r → c ≠ cr := fun {r cr} hr hne e => by
    obtain ⟨a1, a2⟩ := List.getElem?_eq_some_iff.1 e2
    obtain ⟨b1, b2⟩ := List.getElem?_eq_some_iff.1 hr
    exact hne ((List.getElem_inj h.nd).1 (by rw [a2, b2, e]))
  refine ⟨u, e1, TAo.keep hf.2.2.2.1 (fun y hy hl => ?_) (e3.tao (h.out c hc))⟩
  rcases hy with hy | rfl
  · exact ⟨.inl hy, hf.2.2.2.2 y hl (fun e => h.out cp (List.mem_of_getElem? hp) (e ▸ hy)) (fun e => h.out cq (List.mem_of_getElem? hq) (e ▸ hy))⟩
  · exact ⟨.inr (.inl hc), hf.2.2.2.2 y hl (ne hp h1) (ne hq h2)⟩
theorem NR.set2 {S : Nat → Prop} {w w' : World} {d b g n kc : Nat} {x : Int} {m : List (Ro (d + 1))} {us : List Value} {cs : List Nat} (h : NR S w d b g n kc x m us cs) {p q cp cq : Nat} (hpq : p ≠ q) (hp : cs[p]? = some cp) (hq : cs[q]? = some cq) (hf : Fr2 w w' cp cq) {A C : Ro (d + 1)} {u v : Value} (hu : us[p]? = some u) (hv : us[q]? = some v) (hA : TAo (fun y => S y ∨ y ∈ cs ∨ w.heap.size ≤ y) w' (d + 1) A u) (hC : TAo (fun y => S y ∨ y ∈ cs ∨ w.heap.size ≤ y) w' (d + 1) C v) : AllK (fun y => S y ∨ y ∈ cs ∨ w.heap.size ≤ y) w' (d + 1) ((m.set p A).set q C) us := by
  refine ⟨by rw [List.length_set, List.length_set, h.ul, h.ml], fun k hk => ?_⟩
  rw [List.length_set, List.length_set] at hk
  by_cases k1 : k = q
  · subst k1
    exact ⟨v, hv, by rw [List.getElem_set_self]; exact hC⟩
  · by_cases k2 : k = p
    · subst k2
      exact ⟨u, hu, by rw [List.getElem_set_ne (by omega), List.getElem_set_self]; exact hA⟩
    · obtain ⟨u', e1, e2⟩ := h.two hp hq hf k hk k2 k1
      exact ⟨u', e1, by rw [List.getElem_set_ne (by omega), List.getElem_set_ne (by omega)]; exact e2⟩
theorem NR.del {S : Nat → Prop} {w w' : World} {d b g n kc : Nat} {x : Int} {m : List (Ro (d + 1))} {us : List Value} {cs : List Nat} (h : NR S w d b g n kc x m us cs) {p cp cq : Nat} (hpn : p + 1 < n) (hp : cs[p]? = some cp) (hq : cs[p + 1]? = some cq) (hf : Fr2 w w' cp cq) {A : Ro (d + 1)} {u : Value} (hu : us[p]? = some u) (hA : TAo (fun y => S y ∨ y ∈ cs ∨ w.heap.size ≤ y) w' (d + 1) A u) : AllK (fun y => S y ∨ y ∈ cs ∨ w.heap.size ≤ y) w' (d + 1) (m.take p ++ A :: m.drop (p + 2)) (us.take (p + 1) ++ us.drop (p + 2)) := by
  have hu' := h.ul
  have hm := h.ml
  refine ⟨by simp; omega, fun k hk => ?_⟩
  rw [List.length_append, List.length_take, List.length_cons, List.length_drop] at hk
  by_cases k1 : k < p
  · obtain ⟨u', e1, e2⟩ := h.two hp hq hf k (by omega) (by omega) (by omega)
    refine ⟨u', by rw [List.getElem?_append_left (by rw [List.length_take]; omega), List.getElem?_take, if_pos (by omega)]; exact e1, ?_⟩
    rw [List.getElem_append_left (by rw [List.length_take]; omega), List.getElem_take]
    exact e2
  · by_cases k2 : k = p
    · subst k2
      refine ⟨u, by rw [List.getElem?_append_left (by rw [List.length_take]; omega), List.getElem?_take, if_pos (by omega)]; exact hu, ?_⟩
      have e : (m.take k ++ A :: m.drop (k + 2))[k]? = some A := by
        rw [List.getElem?_append_right (by rw [List.length_take]; omega), List.length_take, show k - min k m.length = 0 by omega]
        rfl
      rw [(List.getElem?_eq_some_iff.1 e).2]
      exact hA
    · obtain ⟨u', e1, e2⟩ := h.two hp hq hf (k + 1) (by omega) (by omega) (by omega)
      refine ⟨u', by rw [List.getElem?_append_right (by rw [List.length_take]; omega), List.length_take, List.getElem?_drop, show p + 2 + (k - min (p + 1) us.length) = k + 1 by omega]; exact e1, ?_⟩
      have e : (m.take p ++ A :: m.drop (p + 2))[k]? = some (m[k + 1]'(by omega)) := by
        rw [List.getElem?_append_right (by rw [List.length_take]; omega), List.length_take, show k - min p m.length = (k - p - 1) + 1 by omega, List.getElem?_cons_succ, List.getElem?_drop, show p + 2 + (k - p - 1) = k + 1 by omega]
        exact List.getElem?_eq_getElem _
      rw [(List.getElem?_eq_some_iff.1 e).2]
      exact e2

/-- What fillUp leaves. -/
def RetF (S : Nat → Prop) (w : World) (d b g kc : Nat) (x : Int) (M : List (Ro (d + 1))) (cs : List Nat) (e : Ending) (w' : World) : Prop :=
  e = .returned (.tuple #[]) ∧ Frs (b :: g :: cs) w w' ∧ ∃ ys, Bx w' b 96 #[.int .i64 x, .slice (some ⟨g, 0, none⟩) M.length kc] ∧ M.length ≤ kc ∧ (∀ j u, ys[j]? = some u → w'.cell? ⟨g, j, none⟩ = some u) ∧ AllK (fun y => S y ∨ y ∈ cs ∨ w.heap.size ≤ y) w' (d + 1) M ys
theorem frs_two {w w' : World} {p q : Nat} {bs : List Nat} (h : Fr2 w w' p q) (hp : p ∈ bs) (hq : q ∈ bs) : Frs bs w w' := ⟨h.1, h.2.1, h.2.2.1, h.2.2.2.1, fun k hk hn => h.2.2.2.2 k hk (fun e => hn (e ▸ hp)) (fun e => hn (e ▸ hq))⟩
end Go.Proofs.Ytakemeccigpbaaa

namespace Go.Proofs.Ytakemeccigpbaaa
open Go.RowKit Go.Deep
set_option linter.unusedVariables false
set_option maxRecDepth 100000

theorem NR.below {S : Nat → Prop} {w w' : World} {d b g n kc : Nat} {x : Int} {m : List (Ro (d + 1))} {us : List Value} {cs : List Nat} (h : NR S w d b g n kc x m us cs) (hb : Below w.heap.size w w') : NR S w' d b g n kc x m us cs := by
  obtain ⟨cur, hc, hcs⟩ := h.own
  have hgl := (Array.getElem?_eq_some_iff.1 hc).1
  refine ⟨h.box.below hb, ⟨cur, (hb.block g hgl).trans hc, hcs⟩, fun j u hj => (hb.cell (p := ⟨g, j, none⟩) hgl).trans (h.row j u hj), h.ul, h.ml, h.cl, h.nd, h.out, h.nb, h.ng, h.gb, h.cap, fun k hk => ?_⟩
  obtain ⟨u, c, e1, e2, e3⟩ := h.kid k hk
  have hl : c < w.heap.size := by rcases e3.form with ⟨_, _, _, _, hx⟩ | ⟨_, _, _, _, hx⟩ <;> exact hx.lt
  exact ⟨u, c, e1, e2, e3.keep hb.size (hb.block c hl) (fun y hy hl => ⟨hy, hb.block y hl⟩)⟩
theorem NR.ne {S : Nat → Prop} {w : World} {d b g n kc : Nat} {x : Int} {m : List (Ro (d + 1))} {us : List Value} {cs : List Nat} (h : NR S w d b g n kc x m us cs) {p q cp cq : Nat} (hp : cs[p]? = some cp) (hq : cs[q]? = some cq) (hne : p ≠ q) : cp ≠ cq := fun e => by
  obtain ⟨a1, a2⟩ := List.getElem?_eq_some_iff.1 hp
  obtain ⟨b1, b2⟩ := List.getElem?_eq_some_iff.1 hq
  exact hne ((List.getElem_inj h.nd).1 (by rw [a2, b2, e]))
theorem NR.one {S : Nat → Prop} {w : World} {d b g n kc : Nat} {x : Int} {m : List (Ro (d + 1))} {us : List Value} {cs : List Nat} (h : NR S w d b g n kc x m us cs) : ∀ v ∈ us, v.oneCell' = true := by
  intro v hv
  obtain ⟨k, hk, e⟩ := List.getElem_of_mem hv
  have h1 := h.ul
  have h2 := h.ml
  obtain ⟨u, c, e1, _, e3⟩ := h.kid k (by omega)
  rw [List.getElem?_eq_getElem hk, e] at e1
  injection e1 with e1
  subst e1
  rcases e3.form with ⟨rfl, _⟩ | ⟨rfl, _⟩ <;> rfl
theorem wide_s {S : Nat → Prop} {w' : World} {z c : Nat} {cs : List Nat} {d : Nat} {t : Ro d} {v : Value} (hc : c ∈ cs) (h : TAo (fun y => S y ∨ y = c ∨ z ≤ y) w' d t v) : TAo (fun y => S y ∨ y ∈ cs ∨ z ≤ y) w' d t v := h.wide (fun y hy _ => by
  rcases hy with q | rfl | q
  · exact .inl q
  · exact .inr (.inl hc)
  · exact .inr (.inr q))

set_option maxHeartbeats 8000000 in
theorem joinRight_any {S : Nat → Prop} {w : World} {d b g n kc : Nat} {x : Int} {m : List (Ro (d + 1))} {us : List Value} {cs : List Nat} (hR : NR S w d b g n kc x m us cs) (hn : n ≤ 1000) (p : Nat) (hpn : p + 1 < n) (t u : Ro (d + 1)) (ht : m[p]? = some t) (hu : m[p + 1]? = some u) (h : Nat) (hU : BalU (d + 1) t h) (hV : BalU (d + 1) u h) (h0 : 1 ≤ sizD t) (hkeys : (keysR (d + 1) t).length + (keysR (d + 1) u).length ≤ 1099511627776) :
    Calls Try.prog 135 #[.pointer (some ⟨b, 0, none⟩), .int .i64 (p : Int)] w (RetF S w d b g kc x (m.take p ++ joinD t u :: m.drop (p + 2)) cs) := by
  have hD := hR.below (Below.refl _ w).drew
  obtain ⟨t', v1, c1, q1, q2, q3, q4, q5, q6, q7, q8⟩ := hD.at p (by omega)
  rw [ht] at q1
  injection q1 with q1
  subst q1
  obtain ⟨u', v2, c2, r1, r2, r3, r4, r5, r6, r7, r8⟩ := hD.at (p + 1) hpn
  rw [hu] at r1
  injection r1 with r1
  subst r1
  have hne := hR.ne q3 r3 (by omega)
  have hU4 := hU.le
  have hV4 := hV.le
  obtain ⟨s1, hs1⟩ : ∃ s1, s1 = sizD t := ⟨_, rfl⟩
  obtain ⟨s2, hs2⟩ : ∃ s2, s2 = sizD u := ⟨_, rfl⟩
  rw [← hs1] at q6 hU4 h0
  rw [← hs2] at r6 hV4
  have HS1 : Hid (SzI v1 s1 w.drew) := q6
  have HS2 : Hid (SzI v2 s2 w.drew) := r6
  have HDl : Hid (Calls Try.prog 73 #[v1, v2, .int .i64 (IntKind.i64.wrap ((s1 : Int) + (s2 : Int)))] w.drew fun e w' => e = .returned (.tuple #[]) ∧ Fr2 w.drew w' c1 c2 ∧ TAo (fun y => S y ∨ y = c1 ∨ w.drew.heap.size ≤ y) w' (d + 1) (joinD t u) v1) := by
    rw [show IntKind.i64.wrap ((s1 : Int) + (s2 : Int)) = ((s1 + s2 : Nat) : Int) by rw [IntKind.wrap_i64]; omega]
    exact dealDF_any d h c1 c2 (s1 + s2) t u v1 v2 S w.drew q5 r5 hU hV q7 r7 hne (by omega) (by rw [hs1, hs2]) hkeys
  have HD : Hid (NR S w d b g n kc x m us cs ∧ NR S w.drew d b g n kc x m us cs) := ⟨hR, hD⟩
  have HC : Hid (us[p]? = some v1 ∧ cs[p]? = some c1 ∧ us[p + 1]? = some v2 ∧ cs[p + 1]? = some c2) := ⟨q2, q3, r2, r3⟩
  have c1b := hD.box.cell 1
  simp at c1b
  have hbl := hD.box.lt
  have hwi : IntKind.i64.wrap ((p : Int) + 1) = ((p + 1 : Nat) : Int) := by rw [IntKind.wrap_i64]; omega
  have hwi2 : IntKind.i64.wrap ((p : Int) + 2) = (p : Int) + 2 := by rw [IntKind.wrap_i64]; omega
  have i0 : (0 : Int) ≤ (p : Int) := by omega
  have i1 : (p : Int) < (n : Int) := by omega
  have i0m : (0 : Int) ≤ ((p + 1 : Nat) : Int) := by omega
  have i0p : (0 : Int) ≤ (p : Int) + 1 := by omega
  have i1m : ((p + 1 : Nat) : Int) < (n : Int) := by omega
  have i1p : (p : Int) + 1 < (n : Int) := by omega
  clear hR hD q2 q3 q5 q6 r2 r3 r5 r6 ht hu hs1 hs2 hU hV hkeys
  go_enter Try.func135, Try.ntmps135
  go_upto_region 0 with fail
  refine wp_region_late (S := fun w' => w'.cell? ⟨b, 1, none⟩ = some (.slice (some ⟨g, 0, none⟩) n kc) ∧ w'.cell? ⟨g, p, none⟩ = some v1 ∧ w'.cell? ⟨g, p + 1, none⟩ = some v2) 33 (by kernel_rfl) ⟨c1b, q4, r4⟩ (fun hHeld => ?_)
  refine late_take 0 .zero (v := ?_) (by kernel_rfl) (by kernel_rfl) (by kernel_rfl) (by kernel_rfl) (fun _ _ _ h => h) (by rfl) ?_ (by assumption) ?_
  rotate_left
  · (intro w hSw; (try dsimp only at hSw); go_simp) <;> with_reducible rfl
  simp only [Act.put, List.setIfInBounds_toArray, List.set_cons_zero, List.set_cons_succ]
  refine late_take 1 (.succ .zero) (v := ?_) (by kernel_rfl) (by kernel_rfl) (by kernel_rfl) (by kernel_rfl) (fun _ _ _ h => h) (by rfl) ?_ (by assumption) ?_
  rotate_left
  · (intro w hSw; (try dsimp only at hSw); go_simp) <;> with_reducible rfl
  simp only [Act.put, List.setIfInBounds_toArray, List.set_cons_zero, List.set_cons_succ]
  refine late_take 2 (.succ (.succ .zero)) (v := ?_) (by kernel_rfl) (by kernel_rfl) (by kernel_rfl) (by kernel_rfl) (fun _ _ _ h => h) (by rfl) ?_ (by assumption) ?_
  rotate_left
  · (intro w hSw; (try dsimp only at hSw); go_simp) <;> with_reducible rfl
  simp only [Act.put, List.setIfInBounds_toArray, List.set_cons_zero, List.set_cons_succ]
  refine late_take 3 (.succ (.succ (.succ .zero))) (v := ?_) (by kernel_rfl) (by kernel_rfl) (by kernel_rfl) (by kernel_rfl) (fun _ _ _ h => h) (by rfl) ?_ (by assumption) ?_
  rotate_left
  · (intro w hSw; (try dsimp only at hSw); go_simp) <;> with_reducible rfl
  simp only [Act.put, List.setIfInBounds_toArray, List.set_cons_zero, List.set_cons_succ]
  refine late_take 4 (.succ (.succ (.succ (.succ .zero)))) (v := ?_) (by kernel_rfl) (by kernel_rfl) (by kernel_rfl) (by kernel_rfl) (fun _ _ _ h => h) (by rfl) ?_ (by assumption) ?_
  rotate_left
  · (intro w hSw; (try dsimp only at hSw); go_simp) <;> with_reducible rfl
  simp only [Act.put, List.setIfInBounds_toArray, List.set_cons_zero, List.set_cons_succ]
  refine late_take 5 (.succ (.succ (.succ (.succ (.succ .zero))))) (v := ?_) (by kernel_rfl) (by kernel_rfl) (by kernel_rfl) (by kernel_rfl) (fun _ _ _ h => h) (by rfl) ?_ (by assumption) ?_
  rotate_left
  · (intro w hSw; (try dsimp only at hSw); go_simp) <;> with_reducible rfl
  simp only [Act.put, List.setIfInBounds_toArray, List.set_cons_zero, List.set_cons_succ]
  refine late_take 6 (.succ (.succ (.succ (.succ (.succ (.succ .zero)))))) (v := ?_) (by kernel_rfl) (by kernel_rfl) (by kernel_rfl) (by kernel_rfl) (fun _ _ _ h => h) (by rfl) ?_ (by assumption) ?_
  rotate_left
  · (intro w hSw; (try dsimp only at hSw); go_simp) <;> with_reducible rfl
  simp only [Act.put, List.setIfInBounds_toArray, List.set_cons_zero, List.set_cons_succ]
  refine late_take 7 (.succ (.succ (.succ (.succ (.succ (.succ (.succ .zero))))))) (v := ?_) (by kernel_rfl) (by kernel_rfl) (by kernel_rfl) (by kernel_rfl) (fun _ _ _ h => h) (by rfl) ?_ (by assumption) ?_
  rotate_left
  · (intro w hSw; (try dsimp only at hSw); go_simp) <;> with_reducible rfl
  simp only [Act.put, List.setIfInBounds_toArray, List.set_cons_zero, List.set_cons_succ]
  refine late_take 8 (.succ (.succ (.succ (.succ (.succ (.succ (.succ (.succ .zero)))))))) (v := ?_) (by kernel_rfl) (by kernel_rfl) (by kernel_rfl) (by kernel_rfl) (fun _ _ _ h => h) (by rfl) ?_ (by assumption) ?_
  rotate_left
  · (intro w hSw; (try dsimp only at hSw); go_simp) <;> with_reducible rfl
  simp only [Act.put, List.setIfInBounds_toArray, List.set_cons_zero, List.set_cons_succ]
  refine late_take 9 (.succ (.succ (.succ (.succ (.succ (.succ (.succ (.succ (.succ .zero))))))))) (v := ?_) (by kernel_rfl) (by kernel_rfl) (by kernel_rfl) (by kernel_rfl) (fun _ _ _ h => h) (by rfl) ?_ (by assumption) ?_
  rotate_left
  · (intro w hSw; (try dsimp only at hSw); go_simp) <;> with_reducible rfl
  simp only [Act.put, List.setIfInBounds_toArray, List.set_cons_zero, List.set_cons_succ]
  refine late_take 10 (.succ (.succ (.succ (.succ (.succ (.succ (.succ (.succ (.succ (.succ .zero)))))))))) (v := ?_) (by kernel_rfl) (by kernel_rfl) (by kernel_rfl) (by kernel_rfl) (fun _ _ _ h => h) (by rfl) ?_ (by assumption) ?_
  rotate_left
  · (intro w hSw; (try dsimp only at hSw); go_simp) <;> with_reducible rfl
  simp only [Act.put, List.setIfInBounds_toArray, List.set_cons_zero, List.set_cons_succ]
  refine late_take 11 (.succ (.succ (.succ (.succ (.succ (.succ (.succ (.succ (.succ (.succ (.succ .zero))))))))))) (v := ?_) (by kernel_rfl) (by kernel_rfl) (by kernel_rfl) (by kernel_rfl) (fun _ _ _ h => h) (by rfl) ?_ (by assumption) ?_
  rotate_left
  · (intro w hSw; (try dsimp only at hSw); go_simp) <;> with_reducible rfl
  simp only [Act.put, List.setIfInBounds_toArray, List.set_cons_zero, List.set_cons_succ]
  refine late_take 12 (.succ (.succ (.succ (.succ (.succ (.succ (.succ (.succ (.succ (.succ (.succ (.succ .zero)))))))))))) (v := ?_) (by kernel_rfl) (by kernel_rfl) (by kernel_rfl) (by kernel_rfl) (fun _ _ _ h => h) (by rfl) ?_ (by assumption) ?_
  rotate_left
  · (intro w hSw; (try dsimp only at hSw); go_simp) <;> with_reducible rfl
  simp only [Act.put, List.setIfInBounds_toArray, List.set_cons_zero, List.set_cons_succ]
  refine late_take 13 (.succ (.succ (.succ (.succ (.succ (.succ (.succ (.succ (.succ (.succ (.succ (.succ (.succ .zero))))))))))))) (v := ?_) (by kernel_rfl) (by kernel_rfl) (by kernel_rfl) (by kernel_rfl) (fun _ _ _ h => h) (by rfl) ?_ (by assumption) ?_
  rotate_left
  · (intro w hSw; (try dsimp only at hSw); go_simp) <;> with_reducible rfl
  simp only [Act.put, List.setIfInBounds_toArray, List.set_cons_zero, List.set_cons_succ]
  refine late_take 14 (.succ (.succ (.succ (.succ (.succ (.succ (.succ (.succ (.succ (.succ (.succ (.succ (.succ (.succ .zero)))))))))))))) (v := ?_) (by kernel_rfl) (by kernel_rfl) (by kernel_rfl) (by kernel_rfl) (fun _ _ _ h => h) (by rfl) ?_ (by assumption) ?_
  rotate_left
  · (intro w hSw; (try dsimp only at hSw); go_simp) <;> with_reducible rfl
  simp only [Act.put, List.setIfInBounds_toArray, List.set_cons_zero, List.set_cons_succ]
  refine late_take 15 (.succ (.succ (.succ (.succ (.succ (.succ (.succ (.succ (.succ (.succ (.succ (.succ (.succ (.succ (.succ .zero))))))))))))))) (v := ?_) (by kernel_rfl) (by kernel_rfl) (by kernel_rfl) (by kernel_rfl) (fun _ _ _ h => h) (by rfl) ?_ (by assumption) ?_
  rotate_left
  · (intro w hSw; (try dsimp only at hSw); go_simp) <;> with_reducible rfl
  simp only [Act.put, List.setIfInBounds_toArray, List.set_cons_zero, List.set_cons_succ]
  refine late_take 16 (.succ (.succ (.succ (.succ (.succ (.succ (.succ (.succ (.succ (.succ (.succ (.succ (.succ (.succ (.succ (.succ .zero)))))))))))))))) (v := ?_) (by kernel_rfl) (by kernel_rfl) (by kernel_rfl) (by kernel_rfl) (fun _ _ _ h => h) (by rfl) ?_ (by assumption) ?_
  rotate_left
  · (intro w hSw; (try dsimp only at hSw); go_simp) <;> with_reducible rfl
  simp only [Act.put, List.setIfInBounds_toArray, List.set_cons_zero, List.set_cons_succ]
  refine late_take 17 (.succ (.succ (.succ (.succ (.succ (.succ (.succ (.succ (.succ (.succ (.succ (.succ (.succ (.succ (.succ (.succ (.succ .zero))))))))))))))))) (v := ?_) (by kernel_rfl) (by kernel_rfl) (by kernel_rfl) (by kernel_rfl) (fun _ _ _ h => h) (by rfl) ?_ (by assumption) ?_
  rotate_left
  · (intro w hSw; (try dsimp only at hSw); go_simp) <;> with_reducible rfl
  simp only [Act.put, List.setIfInBounds_toArray, List.set_cons_zero, List.set_cons_succ]
  refine late_take 18 (.succ (.succ (.succ (.succ (.succ (.succ (.succ (.succ (.succ (.succ (.succ (.succ (.succ (.succ (.succ (.succ (.succ (.succ .zero)))))))))))))))))) (v := ?_) (by kernel_rfl) (by kernel_rfl) (by kernel_rfl) (by kernel_rfl) (fun _ _ _ h => h) (by rfl) ?_ (by assumption) ?_
  rotate_left
  · (intro w hSw; (try dsimp only at hSw); go_simp) <;> with_reducible rfl
  simp only [Act.put, List.setIfInBounds_toArray, List.set_cons_zero, List.set_cons_succ]
  refine late_take 19 (.succ (.succ (.succ (.succ (.succ (.succ (.succ (.succ (.succ (.succ (.succ (.succ (.succ (.succ (.succ (.succ (.succ (.succ (.succ .zero))))))))))))))))))) (v := ?_) (by kernel_rfl) (by kernel_rfl) (by kernel_rfl) (by kernel_rfl) (fun _ _ _ h => h) (by rfl) ?_ (by assumption) ?_
  rotate_left
  · (intro w hSw; (try dsimp only at hSw); go_simp) <;> with_reducible rfl
  simp only [Act.put, List.setIfInBounds_toArray, List.set_cons_zero, List.set_cons_succ]
  refine late_take 20 (.succ (.succ (.succ (.succ (.succ (.succ (.succ (.succ (.succ (.succ (.succ (.succ (.succ (.succ (.succ (.succ (.succ (.succ (.succ (.succ .zero)))))))))))))))))))) (v := ?_) (by kernel_rfl) (by kernel_rfl) (by kernel_rfl) (by kernel_rfl) (fun _ _ _ h => h) (by rfl) ?_ (by assumption) ?_
  rotate_left
  · (intro w hSw; (try dsimp only at hSw); go_simp) <;> with_reducible rfl
  simp only [Act.put, List.setIfInBounds_toArray, List.set_cons_zero, List.set_cons_succ]
  refine late_take 21 (.succ (.succ (.succ (.succ (.succ (.succ (.succ (.succ (.succ (.succ (.succ (.succ (.succ (.succ (.succ (.succ (.succ (.succ (.succ (.succ (.succ .zero))))))))))))))))))))) (v := ?_) (by kernel_rfl) (by kernel_rfl) (by kernel_rfl) (by kernel_rfl) (fun _ _ _ h => h) (by rfl) ?_ (by assumption) ?_
  rotate_left
  · (intro w hSw; (try dsimp only at hSw); go_simp) <;> with_reducible rfl
  simp only [Act.put, List.setIfInBounds_toArray, List.set_cons_zero, List.set_cons_succ]
  refine late_take 23 (.succ (.succ (.succ (.succ (.succ (.succ (.succ (.succ (.succ (.succ (.succ (.succ (.succ (.succ (.succ (.succ (.succ (.succ (.succ (.succ (.succ (.succ (.succ .zero))))))))))))))))))))))) (v := ?_) (by kernel_rfl) (by kernel_rfl) (by kernel_rfl) (by kernel_rfl) (fun _ _ _ h => h) (by rfl) ?_ (by assumption) ?_
  rotate_left
  · (intro w hSw; (try dsimp only at hSw); go_simp) <;> with_reducible rfl
  simp only [Act.put, List.setIfInBounds_toArray, List.set_cons_zero, List.set_cons_succ]
  refine late_take 24 (.succ (.succ (.succ (.succ (.succ (.succ (.succ (.succ (.succ (.succ (.succ (.succ (.succ (.succ (.succ (.succ (.succ (.succ (.succ (.succ (.succ (.succ (.succ (.succ .zero)))))))))))))))))))))))) (v := ?_) (by kernel_rfl) (by kernel_rfl) (by kernel_rfl) (by kernel_rfl) (fun _ _ _ h => h) (by rfl) ?_ (by assumption) ?_
  rotate_left
  · (intro w hSw; (try dsimp only at hSw); go_simp) <;> with_reducible rfl
  simp only [Act.put, List.setIfInBounds_toArray, List.set_cons_zero, List.set_cons_succ]
  refine late_take 25 (.succ (.succ (.succ (.succ (.succ (.succ (.succ (.succ (.succ (.succ (.succ (.succ (.succ (.succ (.succ (.succ (.succ (.succ (.succ (.succ (.succ (.succ (.succ (.succ (.succ .zero))))))))))))))))))))))))) (v := ?_) (by kernel_rfl) (by kernel_rfl) (by kernel_rfl) (by kernel_rfl) (fun _ _ _ h => h) (by rfl) ?_ (by assumption) ?_
  rotate_left
  · (intro w hSw; (try dsimp only at hSw); go_simp) <;> with_reducible rfl
  simp only [Act.put, List.setIfInBounds_toArray, List.set_cons_zero, List.set_cons_succ]
  refine late_take 26 (.succ (.succ (.succ (.succ (.succ (.succ (.succ (.succ (.succ (.succ (.succ (.succ (.succ (.succ (.succ (.succ (.succ (.succ (.succ (.succ (.succ (.succ (.succ (.succ (.succ (.succ .zero)))))))))))))))))))))))))) (v := ?_) (by kernel_rfl) (by kernel_rfl) (by kernel_rfl) (by kernel_rfl) (fun _ _ _ h => h) (by rfl) ?_ (by assumption) ?_
  rotate_left
  · (intro w hSw; (try dsimp only at hSw); go_simp) <;> with_reducible rfl
  simp only [Act.put, List.setIfInBounds_toArray, List.set_cons_zero, List.set_cons_succ]
  refine late_take 27 (.succ (.succ (.succ (.succ (.succ (.succ (.succ (.succ (.succ (.succ (.succ (.succ (.succ (.succ (.succ (.succ (.succ (.succ (.succ (.succ (.succ (.succ (.succ (.succ (.succ (.succ (.succ .zero))))))))))))))))))))))))))) (v := ?_) (by kernel_rfl) (by kernel_rfl) (by kernel_rfl) (by kernel_rfl) (fun _ _ _ h => h) (by rfl) ?_ (by assumption) ?_
  rotate_left
  · (intro w hSw; (try dsimp only at hSw); go_simp) <;> with_reducible rfl
  simp only [Act.put, List.setIfInBounds_toArray, List.set_cons_zero, List.set_cons_succ]
  refine late_take 28 (.succ (.succ (.succ (.succ (.succ (.succ (.succ (.succ (.succ (.succ (.succ (.succ (.succ (.succ (.succ (.succ (.succ (.succ (.succ (.succ (.succ (.succ (.succ (.succ (.succ (.succ (.succ (.succ .zero)))))))))))))))))))))))))))) (v := ?_) (by kernel_rfl) (by kernel_rfl) (by kernel_rfl) (by kernel_rfl) (fun _ _ _ h => h) (by rfl) ?_ (by assumption) ?_
  rotate_left
  · (intro w hSw; (try dsimp only at hSw); go_simp) <;> with_reducible rfl
  simp only [Act.put, List.setIfInBounds_toArray, List.set_cons_zero, List.set_cons_succ]
  refine late_take 29 (.succ (.succ (.succ (.succ (.succ (.succ (.succ (.succ (.succ (.succ (.succ (.succ (.succ (.succ (.succ (.succ (.succ (.succ (.succ (.succ (.succ (.succ (.succ (.succ (.succ (.succ (.succ (.succ (.succ .zero))))))))))))))))))))))))))))) (v := ?_) (by kernel_rfl) (by kernel_rfl) (by kernel_rfl) (by kernel_rfl) (fun _ _ _ h => h) (by rfl) ?_ (by assumption) ?_
  rotate_left
  · (intro w hSw; (try dsimp only at hSw); go_simp) <;> with_reducible rfl
  simp only [Act.put, List.setIfInBounds_toArray, List.set_cons_zero, List.set_cons_succ]
  refine late_take 30 (.succ (.succ (.succ (.succ (.succ (.succ (.succ (.succ (.succ (.succ (.succ (.succ (.succ (.succ (.succ (.succ (.succ (.succ (.succ (.succ (.succ (.succ (.succ (.succ (.succ (.succ (.succ (.succ (.succ (.succ .zero)))))))))))))))))))))))))))))) (v := ?_) (by kernel_rfl) (by kernel_rfl) (by kernel_rfl) (by kernel_rfl) (fun _ _ _ h => h) (by rfl) ?_ (by assumption) ?_
  rotate_left
  · (intro w hSw; (try dsimp only at hSw); go_simp) <;> with_reducible rfl
  simp only [Act.put, List.setIfInBounds_toArray, List.set_cons_zero, List.set_cons_succ]
  refine late_one 22 (.succ (.succ (.succ (.succ (.succ (.succ (.succ (.succ (.succ (.succ (.succ (.succ (.succ (.succ (.succ (.succ (.succ (.succ (.succ (.succ (.succ (.succ .zero)))))))))))))))))))))) (by kernel_rfl) (fun K hK => ?_)
  refine step_size (by rfl) 25 _ v1 s1 (by rfl) (by rfl) (fun _ _ => by kernel_rfl) (fun _ _ => by kernel_rfl) HS1.out ?_
  refine hK.out _ _ ?_ (fun hHeld2 => ?_)
  · (intro _; exact hHeld)
  clear hK K
  replace hHeld := hHeld2 (by decide)
  clear hHeld2
  try simp only [Act.put, List.setIfInBounds_toArray, List.set_cons_zero, List.set_cons_succ]
  refine late_one 31 (.succ (.succ (.succ (.succ (.succ (.succ (.succ (.succ (.succ (.succ (.succ (.succ (.succ (.succ (.succ (.succ (.succ (.succ (.succ (.succ (.succ (.succ (.succ (.succ (.succ (.succ (.succ (.succ (.succ (.succ (.succ .zero))))))))))))))))))))))))))))))) (by kernel_rfl) (fun K hK => ?_)
  refine step_size (by rfl) 34 _ v2 s2 (by rfl) (by rfl) (fun _ _ => by kernel_rfl) (fun _ _ => by kernel_rfl) HS2.out ?_
  refine hK.out _ _ ?_ (fun hHeld2 => ?_)
  · (intro _; exact hHeld)
  clear hK K
  replace hHeld := hHeld2 (by decide)
  clear hHeld2
  try simp only [Act.put, List.setIfInBounds_toArray, List.set_cons_zero, List.set_cons_succ]
  refine late_take 32 (.succ (.succ (.succ (.succ (.succ (.succ (.succ (.succ (.succ (.succ (.succ (.succ (.succ (.succ (.succ (.succ (.succ (.succ (.succ (.succ (.succ (.succ (.succ (.succ (.succ (.succ (.succ (.succ (.succ (.succ (.succ (.succ .zero)))))))))))))))))))))))))))))))) (v := ?_) (by kernel_rfl) (by kernel_rfl) (by kernel_rfl) (by kernel_rfl) (fun _ _ _ h => h) (by rfl) ?_ (by assumption) ?_
  rotate_left
  · (intro w hSw; (try dsimp only at hSw); go_simp) <;> with_reducible rfl
  simp only [Act.put, List.setIfInBounds_toArray, List.set_cons_zero, List.set_cons_succ]
  refine late_one 33 (.succ (.succ (.succ (.succ (.succ (.succ (.succ (.succ (.succ (.succ (.succ (.succ (.succ (.succ (.succ (.succ (.succ (.succ (.succ (.succ (.succ (.succ (.succ (.succ (.succ (.succ (.succ (.succ (.succ (.succ (.succ (.succ (.succ .zero))))))))))))))))))))))))))))))))) (by kernel_rfl) (fun K hK => ?_)
  refine step_t3 (by rfl) 73 10 18 36 _ (by rfl) v1 v2 (.int .i64 (IntKind.i64.wrap ((s1 : Int) + (s2 : Int)))) (by rfl) (by rfl) (by rfl) (fun _ _ => by rfl) ?_
  (with_reducible refine HDl.out.mono ?_)
  rintro e w2 ⟨rfl, hf2, hta⟩
  refine ⟨_, rfl, ?_⟩
  refine hK.out _ _ ?_ (fun hHeld2 => ?_)
  · (intro hne; exact absurd rfl hne)
  clear hK K hHeld2
  refine wpLate_done (by kernel_rfl) ?_ _
  have HB3 : Hid (NR S w d b g n kc x m us cs ∧ Fr2 w w2 c1 c2) := ⟨HD.out.1, hf2⟩
  obtain ⟨cur, hcu, hcs⟩ := HB3.out.1.own
  have hgl := (Array.getElem?_eq_some_iff.1 hcu).1
  have hgc1 : g ≠ c1 := fun e => HB3.out.1.ng.1 (e ▸ List.mem_of_getElem? HC.out.2.1)
  have hgc2 : g ≠ c2 := fun e => HB3.out.1.ng.1 (e ▸ List.mem_of_getElem? HC.out.2.2.2)
  have hbc1 : b ≠ c1 := fun e => HB3.out.1.nb.1 (e ▸ List.mem_of_getElem? HC.out.2.1)
  have hbc2 : b ≠ c2 := fun e => HB3.out.1.nb.1 (e ▸ List.mem_of_getElem? HC.out.2.2.2)
  have hcu2 : w2.heap[g]? = some (.cells cur 59 (0, 0)) := (hf2.2.2.2.2 g hgl hgc1 hgc2).trans hcu
  have hbx2 : Bx w2 b 96 #[.int .i64 x, .slice (some ⟨g, 0, none⟩) n kc] := HB3.out.1.box.of_block (hf2.2.2.2.2 b HB3.out.1.box.lt hbc1 hbc2)
  have hcap := HB3.out.1.cap
  have HDel : Hid (Calls Try.prog 137 #[.slice (some ⟨g, 0, none⟩) n kc, .int .i64 ((p : Int) + 1), .int .i64 ((p : Int) + 2)] w2 fun e w' => e = .returned (.slice (some ⟨g, 0, none⟩) (n - 1) kc) ∧ (∀ k v, (us.take (p + 1) ++ us.drop (p + 2))[k]? = some v → w'.cell? ⟨g, 0 + k, none⟩ = some v) ∧ w2.grownBy w' (some g)) := by
    have q := delN_any g 0 n kc (p + 1) (p + 1 + 1) cur us w2 hcu2 (by omega) (fun k v hk => by
      rw [Nat.zero_add, World.cell?_of_block (a := ⟨g, k, none⟩) (hf2.2.2.2.2 g hgl hgc1 hgc2)]
      exact HB3.out.1.row k v hk) HB3.out.1.ul HB3.out.1.one (by omega) (by omega) hcap.1 hcap.2
    rw [show n - (p + 1 + 1 - (p + 1)) = n - 1 by omega, show ((p + 1 : Nat) : Int) = (p : Int) + 1 by omega, show ((p + 1 + 1 : Nat) : Int) = (p : Int) + 2 by omega] at q
    exact q
  have HTA : Hid (TAo (fun y => S y ∨ y = c1 ∨ w.heap.size ≤ y) w2 (d + 1) (joinD t u) v1) := hta
  have HBX2 : Hid (Bx w2 b 96 #[.int .i64 x, .slice (some ⟨g, 0, none⟩) n kc]) := hbx2
  have d1 := hbx2.cell 1
  simp at d1
  have dl := hbx2.lt
  have df := hbx2.frozen 1
  clear hHeld hta hcu hcu2 hcs hbx2 HDl HS1 HS2 c1b q4 r4
  go_wp2_with fail
  (with_reducible refine HDel.out.mono ?_)
  rintro e w3 ⟨rfl, hc3, hg3⟩
  have hgb := HB3.out.1.gb
  have hbx3 : Bx w3 b 96 #[.int .i64 x, .slice (some ⟨g, 0, none⟩) n kc] := HBX2.out.grown hg3 (fun e => by injection e with e; exact hgb e)
  have d1' := hbx3.cell 1
  simp at d1'
  have dl' := hbx3.lt
  have df' := hbx3.frozen 1
  have HF : Hid (RetF S w d b g kc x (m.take p ++ joinD t u :: m.drop (p + 2)) cs (.returned (.tuple #[])) (w3.setCell ⟨b, 1, none⟩ (.slice (some ⟨g, 0, none⟩) (n - 1) kc))) := by
    have hR := HB3.out.1
    have hf := HB3.out.2
    have hm1 := hR.ml
    have hu1 := hR.ul
    have hMl : (m.take p ++ joinD t u :: m.drop (p + 2)).length = n - 1 := by simp; omega
    have mc1 := List.mem_of_getElem? HC.out.2.1
    have mc2 := List.mem_of_getElem? HC.out.2.2.2
    have hblk : ∀ y, y < w2.heap.size → y ≠ g → y ≠ b → (w3.setCell ⟨b, 1, none⟩ (.slice (some ⟨g, 0, none⟩) (n - 1) kc)).heap[y]? = w2.heap[y]? := fun y hy h1 h2 => by
      rw [Below.heap_setCell _ _ _ _ h2]
      exact hg3.block y hy (fun e => h1 (by cases e; rfl))
    have hz : w2.heap.size ≤ (w3.setCell ⟨b, 1, none⟩ (.slice (some ⟨g, 0, none⟩) (n - 1) kc)).heap.size := by have := hg3.size; simp [World.setCell]; omega
    have hfr : Frs (b :: g :: cs) w (w3.setCell ⟨b, 1, none⟩ (.slice (some ⟨g, 0, none⟩) (n - 1) kc)) := by
      have f1 : Frs (b :: g :: cs) w w2 := frs_two hf (by simp [mc1]) (by simp [mc2])
      refine f1.trans ⟨hg3.os, hg3.tape, hg3.output, hz, fun y hy hn => hblk y hy (fun e => hn (by simp [e])) (fun e => hn (by simp [e]))⟩
    refine ⟨rfl, hfr, us.take (p + 1) ++ us.drop (p + 2), ?_, by have := hR.cap; omega, fun j u hj => ?_, ?_⟩
    · rw [hMl]
      have q := hbx3.set 1 (.slice (some ⟨g, 0, none⟩) (n - 1) kc)
      simpa using q
    · have q := hc3 j u hj
      rw [Nat.zero_add] at q
      rw [World.cell?_of_block (a := ⟨g, j, none⟩) (Below.heap_setCell _ _ _ _ hgb)]
      exact q
    · have ak := hR.del hpn HC.out.2.1 HC.out.2.2.2 hf HC.out.1 (wide_s mc1 HTA.out)
      have hw2 := hf.2.2.2.1
      have hlg := hgl
      have hlb := hR.box.lt
      refine ak.keep hz (fun y hy hl => ⟨hy, hblk y hl (fun e => ?_) (fun e => ?_)⟩)
      · subst e
        rcases hy with q | q | q
        · exact hR.ng.2 q
        · exact hR.ng.1 q
        · omega
      · subst e
        rcases hy with q | q | q
        · exact hR.nb.2 q
        · exact hR.nb.1 q
        · omega
  clear hc3 hg3 hbx3
  go_wp2
  go_end0
  exact HF.out

end Go.Proofs.Ytakemeccigpbaaa

namespace Go.Proofs.Ytakemeccigpbaaa
open Go.RowKit Go.Deep
set_option linter.unusedVariables false
set_option maxRecDepth 100000

set_option maxHeartbeats 8000000 in
theorem fillLeft_any {S : Nat → Prop} {w : World} {d b g n kc : Nat} {x : Int} {m : List (Ro (d + 1))} {us : List Value} {cs : List Nat} (hR : NR S w d b g n kc x m us cs) (hn : n ≤ 1000) (i : Nat) (t u : Ro (d + 1)) (hi0 : 0 < i) (hin : i < n) (ht : m[i - 1]? = some t) (hu : m[i]? = some u) (h : Nat) (hU : BalU (d + 1) t h) (hV : BalU (d + 1) u h) (HH1 : 2 < sizD t) (HH2 : 1 ≤ sizD u) (hkeys : (keysR (d + 1) t).length + (keysR (d + 1) u).length ≤ 1099511627776) :
    Calls Try.prog 131 #[.pointer (some ⟨b, 0, none⟩), .int .i64 (i : Int)] w (RetF S w d b g kc x ((m.set i (joinD (cutD (sizD t - 1) (sizD t) t) u)).set (i - 1) (cutD 0 (sizD t - 1) t)) cs) := by
  have HCs : Hid (Calls Try.prog 134 #[.pointer (some ⟨b, 0, none⟩), .int .i64 ((i - 1 : Nat) : Int)] w fun e w' => e = .returned (.bool true) ∧ w' = w) := by
    have q := canSpare_in hR hn (i - 1) (by omega) t ht
    rw [decide_eq_true HH1] at q
    exact q
  have hD := hR.below (Below.refl _ w).drew
  obtain ⟨t', v1, c1, q1, q2, q3, q4, q5, q6, q7, q8⟩ := hD.at (i - 1) (by omega)
  rw [ht] at q1
  injection q1 with q1
  subst q1
  obtain ⟨u', v2, c2, r1, r2, r3, r4, r5, r6, r7, r8⟩ := hD.at (i) (by omega)
  rw [hu] at r1
  injection r1 with r1
  subst r1
  have hne := hR.ne q3 r3 (by omega)
  have hU4 := hU.le
  have hV4 := hV.le
  obtain ⟨s1, hs1⟩ : ∃ s1, s1 = sizD t := ⟨_, rfl⟩
  obtain ⟨s2, hs2⟩ : ∃ s2, s2 = sizD u := ⟨_, rfl⟩
  rw [← hs1] at q6 hU4 HH1
  rw [← hs2] at r6 hV4 HH2
  have HS1 : Hid (SzI v1 s1 w.drew) := q6
  have HDl : Hid (Calls Try.prog 73 #[v1, v2, .int .i64 (IntKind.i64.wrap ((s1 : Int) - 1))] w.drew fun e w' => e = .returned (.tuple #[]) ∧ Fr2 w.drew w' c1 c2 ∧ TAo (fun y => S y ∨ y = c1 ∨ w.drew.heap.size ≤ y) w' (d + 1) (cutD 0 (s1 - 1) (joinD t u)) v1 ∧ TAo (fun y => S y ∨ y = c2 ∨ w.drew.heap.size ≤ y) w' (d + 1) (cutD (s1 - 1) (s1 + s2) (joinD t u)) v2) := by
    rw [show IntKind.i64.wrap ((s1 : Int) - 1) = ((s1 - 1 : Nat) : Int) by rw [IntKind.wrap_i64]; omega]
    have q := dealD_any d h c1 c2 (s1 - 1) t u v1 v2 S w.drew q5 r5 hU hV q7 r7 hne (by omega) (by omega) hkeys
    rw [← hs1, ← hs2] at q
    exact q
  have HD : Hid (NR S w d b g n kc x m us cs ∧ NR S w.drew d b g n kc x m us cs ∧ s1 = sizD t ∧ s2 = sizD u ∧ BalU (d + 1) t h ∧ BalU (d + 1) u h) := ⟨hR, hD, hs1, hs2, hU, hV⟩
  have HC : Hid (us[i - 1]? = some v1 ∧ cs[i - 1]? = some c1 ∧ us[i]? = some v2 ∧ cs[i]? = some c2) := ⟨q2, q3, r2, r3⟩
  have c1b := hD.box.cell 1
  simp at c1b
  have hbl := hD.box.lt
  clear hD q2 q3 q5 q6 r2 r3 r5 r6 ht hu hs1 hs2 hkeys
  have hwi : IntKind.i64.wrap ((i : Int) - 1) = ((i - 1 : Nat) : Int) := by rw [IntKind.wrap_i64]; omega
  have i0 : (0 : Int) ≤ (i : Int) := by omega
  have i1 : (i : Int) < (n : Int) := by omega
  have i0m : (0 : Int) ≤ ((i - 1 : Nat) : Int) := by omega
  have i1m : ((i - 1 : Nat) : Int) < (n : Int) := by omega
  clear hR hU hV
  go_enter Try.func131, Try.ntmps131
  go_wp2_with fail
  (with_reducible refine HCs.out.mono ?_)
  rintro e w0 ⟨rfl, hw0⟩
  subst w0
  go_upto_region 2 with fail
  refine wp_region_late (S := fun w' => w'.cell? ⟨b, 1, none⟩ = some (.slice (some ⟨g, 0, none⟩) n kc) ∧ w'.cell? ⟨g, i - 1, none⟩ = some v1 ∧ w'.cell? ⟨g, i, none⟩ = some v2) 25 (by kernel_rfl) ⟨c1b, q4, r4⟩ (fun hHeld => ?_)
  refine late_take 0 .zero (v := ?_) (by kernel_rfl) (by kernel_rfl) (by kernel_rfl) (by kernel_rfl) (fun _ _ _ h => h) (by rfl) ?_ (by assumption) ?_
  rotate_left
  · (intro w hSw; (try dsimp only at hSw); go_simp) <;> with_reducible rfl
  simp only [Act.put, List.setIfInBounds_toArray, List.set_cons_zero, List.set_cons_succ]
  refine late_take 1 (.succ .zero) (v := ?_) (by kernel_rfl) (by kernel_rfl) (by kernel_rfl) (by kernel_rfl) (fun _ _ _ h => h) (by rfl) ?_ (by assumption) ?_
  rotate_left
  · (intro w hSw; (try dsimp only at hSw); go_simp) <;> with_reducible rfl
  simp only [Act.put, List.setIfInBounds_toArray, List.set_cons_zero, List.set_cons_succ]
  refine late_take 2 (.succ (.succ .zero)) (v := ?_) (by kernel_rfl) (by kernel_rfl) (by kernel_rfl) (by kernel_rfl) (fun _ _ _ h => h) (by rfl) ?_ (by assumption) ?_
  rotate_left
  · (intro w hSw; (try dsimp only at hSw); go_simp) <;> with_reducible rfl
  simp only [Act.put, List.setIfInBounds_toArray, List.set_cons_zero, List.set_cons_succ]
  refine late_take 3 (.succ (.succ (.succ .zero))) (v := ?_) (by kernel_rfl) (by kernel_rfl) (by kernel_rfl) (by kernel_rfl) (fun _ _ _ h => h) (by rfl) ?_ (by assumption) ?_
  rotate_left
  · (intro w hSw; (try dsimp only at hSw); go_simp) <;> with_reducible rfl
  simp only [Act.put, List.setIfInBounds_toArray, List.set_cons_zero, List.set_cons_succ]
  refine late_take 4 (.succ (.succ (.succ (.succ .zero)))) (v := ?_) (by kernel_rfl) (by kernel_rfl) (by kernel_rfl) (by kernel_rfl) (fun _ _ _ h => h) (by rfl) ?_ (by assumption) ?_
  rotate_left
  · (intro w hSw; (try dsimp only at hSw); go_simp) <;> with_reducible rfl
  simp only [Act.put, List.setIfInBounds_toArray, List.set_cons_zero, List.set_cons_succ]
  refine late_take 5 (.succ (.succ (.succ (.succ (.succ .zero))))) (v := ?_) (by kernel_rfl) (by kernel_rfl) (by kernel_rfl) (by kernel_rfl) (fun _ _ _ h => h) (by rfl) ?_ (by assumption) ?_
  rotate_left
  · (intro w hSw; (try dsimp only at hSw); go_simp) <;> with_reducible rfl
  simp only [Act.put, List.setIfInBounds_toArray, List.set_cons_zero, List.set_cons_succ]
  refine late_take 6 (.succ (.succ (.succ (.succ (.succ (.succ .zero)))))) (v := ?_) (by kernel_rfl) (by kernel_rfl) (by kernel_rfl) (by kernel_rfl) (fun _ _ _ h => h) (by rfl) ?_ (by assumption) ?_
  rotate_left
  · (intro w hSw; (try dsimp only at hSw); go_simp) <;> with_reducible rfl
  simp only [Act.put, List.setIfInBounds_toArray, List.set_cons_zero, List.set_cons_succ]
  refine late_take 7 (.succ (.succ (.succ (.succ (.succ (.succ (.succ .zero))))))) (v := ?_) (by kernel_rfl) (by kernel_rfl) (by kernel_rfl) (by kernel_rfl) (fun _ _ _ h => h) (by rfl) ?_ (by assumption) ?_
  rotate_left
  · (intro w hSw; (try dsimp only at hSw); go_simp) <;> with_reducible rfl
  simp only [Act.put, List.setIfInBounds_toArray, List.set_cons_zero, List.set_cons_succ]
  refine late_take 8 (.succ (.succ (.succ (.succ (.succ (.succ (.succ (.succ .zero)))))))) (v := ?_) (by kernel_rfl) (by kernel_rfl) (by kernel_rfl) (by kernel_rfl) (fun _ _ _ h => h) (by rfl) ?_ (by assumption) ?_
  rotate_left
  · (intro w hSw; (try dsimp only at hSw); go_simp) <;> with_reducible rfl
  simp only [Act.put, List.setIfInBounds_toArray, List.set_cons_zero, List.set_cons_succ]
  refine late_take 9 (.succ (.succ (.succ (.succ (.succ (.succ (.succ (.succ (.succ .zero))))))))) (v := ?_) (by kernel_rfl) (by kernel_rfl) (by kernel_rfl) (by kernel_rfl) (fun _ _ _ h => h) (by rfl) ?_ (by assumption) ?_
  rotate_left
  · (intro w hSw; (try dsimp only at hSw); go_simp) <;> with_reducible rfl
  simp only [Act.put, List.setIfInBounds_toArray, List.set_cons_zero, List.set_cons_succ]
  refine late_take 10 (.succ (.succ (.succ (.succ (.succ (.succ (.succ (.succ (.succ (.succ .zero)))))))))) (v := ?_) (by kernel_rfl) (by kernel_rfl) (by kernel_rfl) (by kernel_rfl) (fun _ _ _ h => h) (by rfl) ?_ (by assumption) ?_
  rotate_left
  · (intro w hSw; (try dsimp only at hSw); go_simp) <;> with_reducible rfl
  simp only [Act.put, List.setIfInBounds_toArray, List.set_cons_zero, List.set_cons_succ]
  refine late_take 11 (.succ (.succ (.succ (.succ (.succ (.succ (.succ (.succ (.succ (.succ (.succ .zero))))))))))) (v := ?_) (by kernel_rfl) (by kernel_rfl) (by kernel_rfl) (by kernel_rfl) (fun _ _ _ h => h) (by rfl) ?_ (by assumption) ?_
  rotate_left
  · (intro w hSw; (try dsimp only at hSw); go_simp) <;> with_reducible rfl
  simp only [Act.put, List.setIfInBounds_toArray, List.set_cons_zero, List.set_cons_succ]
  refine late_take 12 (.succ (.succ (.succ (.succ (.succ (.succ (.succ (.succ (.succ (.succ (.succ (.succ .zero)))))))))))) (v := ?_) (by kernel_rfl) (by kernel_rfl) (by kernel_rfl) (by kernel_rfl) (fun _ _ _ h => h) (by rfl) ?_ (by assumption) ?_
  rotate_left
  · (intro w hSw; (try dsimp only at hSw); go_simp) <;> with_reducible rfl
  simp only [Act.put, List.setIfInBounds_toArray, List.set_cons_zero, List.set_cons_succ]
  refine late_take 13 (.succ (.succ (.succ (.succ (.succ (.succ (.succ (.succ (.succ (.succ (.succ (.succ (.succ .zero))))))))))))) (v := ?_) (by kernel_rfl) (by kernel_rfl) (by kernel_rfl) (by kernel_rfl) (fun _ _ _ h => h) (by rfl) ?_ (by assumption) ?_
  rotate_left
  · (intro w hSw; (try dsimp only at hSw); go_simp) <;> with_reducible rfl
  simp only [Act.put, List.setIfInBounds_toArray, List.set_cons_zero, List.set_cons_succ]
  refine late_take 14 (.succ (.succ (.succ (.succ (.succ (.succ (.succ (.succ (.succ (.succ (.succ (.succ (.succ (.succ .zero)))))))))))))) (v := ?_) (by kernel_rfl) (by kernel_rfl) (by kernel_rfl) (by kernel_rfl) (fun _ _ _ h => h) (by rfl) ?_ (by assumption) ?_
  rotate_left
  · (intro w hSw; (try dsimp only at hSw); go_simp) <;> with_reducible rfl
  simp only [Act.put, List.setIfInBounds_toArray, List.set_cons_zero, List.set_cons_succ]
  refine late_take 15 (.succ (.succ (.succ (.succ (.succ (.succ (.succ (.succ (.succ (.succ (.succ (.succ (.succ (.succ (.succ .zero))))))))))))))) (v := ?_) (by kernel_rfl) (by kernel_rfl) (by kernel_rfl) (by kernel_rfl) (fun _ _ _ h => h) (by rfl) ?_ (by assumption) ?_
  rotate_left
  · (intro w hSw; (try dsimp only at hSw); go_simp) <;> with_reducible rfl
  simp only [Act.put, List.setIfInBounds_toArray, List.set_cons_zero, List.set_cons_succ]
  refine late_take 16 (.succ (.succ (.succ (.succ (.succ (.succ (.succ (.succ (.succ (.succ (.succ (.succ (.succ (.succ (.succ (.succ .zero)))))))))))))))) (v := ?_) (by kernel_rfl) (by kernel_rfl) (by kernel_rfl) (by kernel_rfl) (fun _ _ _ h => h) (by rfl) ?_ (by assumption) ?_
  rotate_left
  · (intro w hSw; (try dsimp only at hSw); go_simp) <;> with_reducible rfl
  simp only [Act.put, List.setIfInBounds_toArray, List.set_cons_zero, List.set_cons_succ]
  refine late_take 17 (.succ (.succ (.succ (.succ (.succ (.succ (.succ (.succ (.succ (.succ (.succ (.succ (.succ (.succ (.succ (.succ (.succ .zero))))))))))))))))) (v := ?_) (by kernel_rfl) (by kernel_rfl) (by kernel_rfl) (by kernel_rfl) (fun _ _ _ h => h) (by rfl) ?_ (by assumption) ?_
  rotate_left
  · (intro w hSw; (try dsimp only at hSw); go_simp) <;> with_reducible rfl
  simp only [Act.put, List.setIfInBounds_toArray, List.set_cons_zero, List.set_cons_succ]
  refine late_take 18 (.succ (.succ (.succ (.succ (.succ (.succ (.succ (.succ (.succ (.succ (.succ (.succ (.succ (.succ (.succ (.succ (.succ (.succ .zero)))))))))))))))))) (v := ?_) (by kernel_rfl) (by kernel_rfl) (by kernel_rfl) (by kernel_rfl) (fun _ _ _ h => h) (by rfl) ?_ (by assumption) ?_
  rotate_left
  · (intro w hSw; (try dsimp only at hSw); go_simp) <;> with_reducible rfl
  simp only [Act.put, List.setIfInBounds_toArray, List.set_cons_zero, List.set_cons_succ]
  refine late_take 19 (.succ (.succ (.succ (.succ (.succ (.succ (.succ (.succ (.succ (.succ (.succ (.succ (.succ (.succ (.succ (.succ (.succ (.succ (.succ .zero))))))))))))))))))) (v := ?_) (by kernel_rfl) (by kernel_rfl) (by kernel_rfl) (by kernel_rfl) (fun _ _ _ h => h) (by rfl) ?_ (by assumption) ?_
  rotate_left
  · (intro w hSw; (try dsimp only at hSw); go_simp) <;> with_reducible rfl
  simp only [Act.put, List.setIfInBounds_toArray, List.set_cons_zero, List.set_cons_succ]
  refine late_take 20 (.succ (.succ (.succ (.succ (.succ (.succ (.succ (.succ (.succ (.succ (.succ (.succ (.succ (.succ (.succ (.succ (.succ (.succ (.succ (.succ .zero)))))))))))))))))))) (v := ?_) (by kernel_rfl) (by kernel_rfl) (by kernel_rfl) (by kernel_rfl) (fun _ _ _ h => h) (by rfl) ?_ (by assumption) ?_
  rotate_left
  · (intro w hSw; (try dsimp only at hSw); go_simp) <;> with_reducible rfl
  simp only [Act.put, List.setIfInBounds_toArray, List.set_cons_zero, List.set_cons_succ]
  refine late_take 21 (.succ (.succ (.succ (.succ (.succ (.succ (.succ (.succ (.succ (.succ (.succ (.succ (.succ (.succ (.succ (.succ (.succ (.succ (.succ (.succ (.succ .zero))))))))))))))))))))) (v := ?_) (by kernel_rfl) (by kernel_rfl) (by kernel_rfl) (by kernel_rfl) (fun _ _ _ h => h) (by rfl) ?_ (by assumption) ?_
  rotate_left
  · (intro w hSw; (try dsimp only at hSw); go_simp) <;> with_reducible rfl
  simp only [Act.put, List.setIfInBounds_toArray, List.set_cons_zero, List.set_cons_succ]
  refine late_take 22 (.succ (.succ (.succ (.succ (.succ (.succ (.succ (.succ (.succ (.succ (.succ (.succ (.succ (.succ (.succ (.succ (.succ (.succ (.succ (.succ (.succ (.succ .zero)))))))))))))))))))))) (v := ?_) (by kernel_rfl) (by kernel_rfl) (by kernel_rfl) (by kernel_rfl) (fun _ _ _ h => h) (by rfl) ?_ (by assumption) ?_
  rotate_left
  · (intro w hSw; (try dsimp only at hSw); go_simp) <;> with_reducible rfl
  simp only [Act.put, List.setIfInBounds_toArray, List.set_cons_zero, List.set_cons_succ]
  refine late_one 23 (.succ (.succ (.succ (.succ (.succ (.succ (.succ (.succ (.succ (.succ (.succ (.succ (.succ (.succ (.succ (.succ (.succ (.succ (.succ (.succ (.succ (.succ (.succ .zero))))))))))))))))))))))) (by kernel_rfl) (fun K hK => ?_)
  refine step_size (by rfl) 36 _ v1 s1 (by rfl) (by rfl) (fun _ _ => by kernel_rfl) (fun _ _ => by kernel_rfl) HS1.out ?_
  refine hK.out _ _ ?_ (fun hHeld2 => ?_)
  · (intro _; exact hHeld)
  clear hK K
  replace hHeld := hHeld2 (by decide)
  clear hHeld2
  try simp only [Act.put, List.setIfInBounds_toArray, List.set_cons_zero, List.set_cons_succ]
  refine late_take 24 (.succ (.succ (.succ (.succ (.succ (.succ (.succ (.succ (.succ (.succ (.succ (.succ (.succ (.succ (.succ (.succ (.succ (.succ (.succ (.succ (.succ (.succ (.succ (.succ .zero)))))))))))))))))))))))) (v := ?_) (by kernel_rfl) (by kernel_rfl) (by kernel_rfl) (by kernel_rfl) (fun _ _ _ h => h) (by rfl) ?_ (by assumption) ?_
  rotate_left
  · (intro w hSw; (try dsimp only at hSw); go_simp) <;> with_reducible rfl
  simp only [Act.put, List.setIfInBounds_toArray, List.set_cons_zero, List.set_cons_succ]
  refine late_one 25 (.succ (.succ (.succ (.succ (.succ (.succ (.succ (.succ (.succ (.succ (.succ (.succ (.succ (.succ (.succ (.succ (.succ (.succ (.succ (.succ (.succ (.succ (.succ (.succ (.succ .zero))))))))))))))))))))))))) (by kernel_rfl) (fun K hK => ?_)
  refine step_t3 (by rfl) 73 21 28 38 _ (by rfl) v1 v2 (.int .i64 (IntKind.i64.wrap ((s1 : Int) - 1))) (by rfl) (by rfl) (by rfl) (fun _ _ => by rfl) ?_
  (with_reducible refine HDl.out.mono ?_)
  rintro e w2 ⟨rfl, hf2, hta1, hta2⟩
  refine ⟨_, rfl, ?_⟩
  refine hK.out _ _ ?_ (fun hHeld2 => ?_)
  · (intro hne; exact absurd rfl hne)
  clear hK K hHeld2
  refine wpLate_done (by kernel_rfl) ?_ _
  have HF : Hid (RetF S w d b g kc x ((m.set i (joinD (cutD (sizD t - 1) (sizD t) t) u)).set (i - 1) (cutD 0 (sizD t - 1) t)) cs (.returned (.tuple #[])) w2) := by
    obtain ⟨hR, _, e1, e2, hU, hV⟩ := HD.out
    have mc1 := List.mem_of_getElem? HC.out.2.1
    have mc2 := List.mem_of_getElem? HC.out.2.2.2
    have hf : Fr2 w w2 c1 c2 := hf2
    obtain ⟨cur, hcu, hcs⟩ := hR.own
    have hgl := (Array.getElem?_eq_some_iff.1 hcu).1
    have hgc1 : g ≠ c1 := fun e => hR.ng.1 (e ▸ mc1)
    have hgc2 : g ≠ c2 := fun e => hR.ng.1 (e ▸ mc2)
    have hbc1 : b ≠ c1 := fun e => hR.nb.1 (e ▸ mc1)
    have hbc2 : b ≠ c2 := fun e => hR.nb.1 (e ▸ mc2)
    have hl : ((m.set i (joinD (cutD (sizD t - 1) (sizD t) t) u)).set (i - 1) (cutD 0 (sizD t - 1) t)).length = n := by rw [List.length_set, List.length_set, hR.ml]
    have cl := cut_left hU hV (by omega)
    refine ⟨rfl, frs_two hf (by simp [mc1]) (by simp [mc2]), us, ?_, by rw [hl]; exact hR.cap.1, fun j u hj => ?_, ?_⟩
    · rw [hl]
      exact hR.box.of_block (hf.2.2.2.2 b hR.box.lt hbc1 hbc2)
    · rw [World.cell?_of_block (a := ⟨g, j, none⟩) (hf.2.2.2.2 g hgl hgc1 hgc2)]
      exact hR.row j u hj
    · have ak := hR.set2 (show i ≠ i - 1 by omega) HC.out.2.2.2 HC.out.2.1 ⟨hf.1, hf.2.1, hf.2.2.1, hf.2.2.2.1, fun k hk h1 h2 => hf.2.2.2.2 k hk h2 h1⟩ HC.out.2.2.1 HC.out.1 (wide_s mc2 hta2) (wide_s mc1 hta1)
      rw [e1, e2, cl.1, cl.2] at ak
      exact ak
  clear hHeld hta1 hta2 hf2
  go_wp2
  go_end0
  exact HF.out

set_option maxHeartbeats 8000000 in
theorem fillRight_any {S : Nat → Prop} {w : World} {d b g n kc : Nat} {x : Int} {m : List (Ro (d + 1))} {us : List Value} {cs : List Nat} (hR : NR S w d b g n kc x m us cs) (hn : n ≤ 1000) (i : Nat) (t u : Ro (d + 1)) (HCs : Hid (Calls Try.prog 134 #[.pointer (some ⟨b, 0, none⟩), .int .i64 ((i : Int) - 1)] w fun e w' => e = .returned (.bool false) ∧ w' = w)) (hin : i + 1 < n) (ht : m[i]? = some t) (hu : m[i + 1]? = some u) (h : Nat) (hU : BalU (d + 1) t h) (hV : BalU (d + 1) u h) (HH1 : 1 ≤ sizD t) (HH2 : 2 < sizD u) (hkeys : (keysR (d + 1) t).length + (keysR (d + 1) u).length ≤ 1099511627776) :
    Calls Try.prog 131 #[.pointer (some ⟨b, 0, none⟩), .int .i64 (i : Int)] w (RetF S w d b g kc x ((m.set i (joinD t (cutD 0 1 u))).set (i + 1) (cutD 1 (sizD u) u)) cs) := by
  have HCr : Hid (Calls Try.prog 134 #[.pointer (some ⟨b, 0, none⟩), .int .i64 ((i : Int) + 1)] w fun e w' => e = .returned (.bool true) ∧ w' = w) := by
    have q := canSpare_in hR hn (i + 1) (by omega) u hu
    rw [decide_eq_true HH2] at q
    exact q
  have hD := hR.below (Below.refl _ w).drew
  obtain ⟨t', v1, c1, q1, q2, q3, q4, q5, q6, q7, q8⟩ := hD.at (i) (by omega)
  rw [ht] at q1
  injection q1 with q1
  subst q1
  obtain ⟨u', v2, c2, r1, r2, r3, r4, r5, r6, r7, r8⟩ := hD.at (i + 1) (by omega)
  rw [hu] at r1
  injection r1 with r1
  subst r1
  have hne := hR.ne q3 r3 (by omega)
  have hU4 := hU.le
  have hV4 := hV.le
  obtain ⟨s1, hs1⟩ : ∃ s1, s1 = sizD t := ⟨_, rfl⟩
  obtain ⟨s2, hs2⟩ : ∃ s2, s2 = sizD u := ⟨_, rfl⟩
  rw [← hs1] at q6 hU4 HH1
  rw [← hs2] at r6 hV4 HH2
  have HS1 : Hid (SzI v1 s1 w.drew) := q6
  have HDl : Hid (Calls Try.prog 73 #[v1, v2, .int .i64 (IntKind.i64.wrap ((s1 : Int) + 1))] w.drew fun e w' => e = .returned (.tuple #[]) ∧ Fr2 w.drew w' c1 c2 ∧ TAo (fun y => S y ∨ y = c1 ∨ w.drew.heap.size ≤ y) w' (d + 1) (cutD 0 (s1 + 1) (joinD t u)) v1 ∧ TAo (fun y => S y ∨ y = c2 ∨ w.drew.heap.size ≤ y) w' (d + 1) (cutD (s1 + 1) (s1 + s2) (joinD t u)) v2) := by
    rw [show IntKind.i64.wrap ((s1 : Int) + 1) = ((s1 + 1 : Nat) : Int) by rw [IntKind.wrap_i64]; omega]
    have q := dealD_any d h c1 c2 (s1 + 1) t u v1 v2 S w.drew q5 r5 hU hV q7 r7 hne (by omega) (by omega) hkeys
    rw [← hs1, ← hs2] at q
    exact q
  have HD : Hid (NR S w d b g n kc x m us cs ∧ NR S w.drew d b g n kc x m us cs ∧ s1 = sizD t ∧ s2 = sizD u ∧ BalU (d + 1) t h ∧ BalU (d + 1) u h) := ⟨hR, hD, hs1, hs2, hU, hV⟩
  have HC : Hid (us[i]? = some v1 ∧ cs[i]? = some c1 ∧ us[i + 1]? = some v2 ∧ cs[i + 1]? = some c2) := ⟨q2, q3, r2, r3⟩
  have c1b := hD.box.cell 1
  simp at c1b
  have hbl := hD.box.lt
  clear hD q2 q3 q5 q6 r2 r3 r5 r6 ht hu hs1 hs2 hkeys
  have hwi : IntKind.i64.wrap ((i : Int) + 1) = ((i + 1 : Nat) : Int) := by rw [IntKind.wrap_i64]; omega
  have i0 : (0 : Int) ≤ (i : Int) := by omega
  have i1 : (i : Int) < (n : Int) := by omega
  have i0m : (0 : Int) ≤ ((i + 1 : Nat) : Int) := by omega
  have i0p : (0 : Int) ≤ (i : Int) + 1 := by omega
  have hwm : IntKind.i64.wrap ((i : Int) - 1) = (i : Int) - 1 := by rw [IntKind.wrap_i64]; omega
  have i1m : ((i + 1 : Nat) : Int) < (n : Int) := by omega
  have i1p : (i : Int) + 1 < (n : Int) := by omega
  clear hR hU hV
  go_enter Try.func131, Try.ntmps131
  go_wp2_with fail
  (with_reducible refine HCs.out.mono ?_)
  rintro e w0 ⟨rfl, hw0⟩
  subst w0
  go_wp2_with fail
  (with_reducible refine HCr.out.mono ?_)
  rintro e w0' ⟨rfl, hw0⟩
  subst w0'
  go_upto_region 4 with fail
  refine wp_region_late (S := fun w' => w'.cell? ⟨b, 1, none⟩ = some (.slice (some ⟨g, 0, none⟩) n kc) ∧ w'.cell? ⟨g, i, none⟩ = some v1 ∧ w'.cell? ⟨g, i + 1, none⟩ = some v2) 24 (by kernel_rfl) ⟨c1b, q4, r4⟩ (fun hHeld => ?_)
  refine late_take 0 .zero (v := ?_) (by kernel_rfl) (by kernel_rfl) (by kernel_rfl) (by kernel_rfl) (fun _ _ _ h => h) (by rfl) ?_ (by assumption) ?_
  rotate_left
  · (intro w hSw; (try dsimp only at hSw); go_simp) <;> with_reducible rfl
  simp only [Act.put, List.setIfInBounds_toArray, List.set_cons_zero, List.set_cons_succ]
  refine late_take 1 (.succ .zero) (v := ?_) (by kernel_rfl) (by kernel_rfl) (by kernel_rfl) (by kernel_rfl) (fun _ _ _ h => h) (by rfl) ?_ (by assumption) ?_
  rotate_left
  · (intro w hSw; (try dsimp only at hSw); go_simp) <;> with_reducible rfl
  simp only [Act.put, List.setIfInBounds_toArray, List.set_cons_zero, List.set_cons_succ]
  refine late_take 2 (.succ (.succ .zero)) (v := ?_) (by kernel_rfl) (by kernel_rfl) (by kernel_rfl) (by kernel_rfl) (fun _ _ _ h => h) (by rfl) ?_ (by assumption) ?_
  rotate_left
  · (intro w hSw; (try dsimp only at hSw); go_simp) <;> with_reducible rfl
  simp only [Act.put, List.setIfInBounds_toArray, List.set_cons_zero, List.set_cons_succ]
  refine late_take 3 (.succ (.succ (.succ .zero))) (v := ?_) (by kernel_rfl) (by kernel_rfl) (by kernel_rfl) (by kernel_rfl) (fun _ _ _ h => h) (by rfl) ?_ (by assumption) ?_
  rotate_left
  · (intro w hSw; (try dsimp only at hSw); go_simp) <;> with_reducible rfl
  simp only [Act.put, List.setIfInBounds_toArray, List.set_cons_zero, List.set_cons_succ]
  refine late_take 4 (.succ (.succ (.succ (.succ .zero)))) (v := ?_) (by kernel_rfl) (by kernel_rfl) (by kernel_rfl) (by kernel_rfl) (fun _ _ _ h => h) (by rfl) ?_ (by assumption) ?_
  rotate_left
  · (intro w hSw; (try dsimp only at hSw); go_simp) <;> with_reducible rfl
  simp only [Act.put, List.setIfInBounds_toArray, List.set_cons_zero, List.set_cons_succ]
  refine late_take 5 (.succ (.succ (.succ (.succ (.succ .zero))))) (v := ?_) (by kernel_rfl) (by kernel_rfl) (by kernel_rfl) (by kernel_rfl) (fun _ _ _ h => h) (by rfl) ?_ (by assumption) ?_
  rotate_left
  · (intro w hSw; (try dsimp only at hSw); go_simp) <;> with_reducible rfl
  simp only [Act.put, List.setIfInBounds_toArray, List.set_cons_zero, List.set_cons_succ]
  refine late_take 6 (.succ (.succ (.succ (.succ (.succ (.succ .zero)))))) (v := ?_) (by kernel_rfl) (by kernel_rfl) (by kernel_rfl) (by kernel_rfl) (fun _ _ _ h => h) (by rfl) ?_ (by assumption) ?_
  rotate_left
  · (intro w hSw; (try dsimp only at hSw); go_simp) <;> with_reducible rfl
  simp only [Act.put, List.setIfInBounds_toArray, List.set_cons_zero, List.set_cons_succ]
  refine late_take 7 (.succ (.succ (.succ (.succ (.succ (.succ (.succ .zero))))))) (v := ?_) (by kernel_rfl) (by kernel_rfl) (by kernel_rfl) (by kernel_rfl) (fun _ _ _ h => h) (by rfl) ?_ (by assumption) ?_
  rotate_left
  · (intro w hSw; (try dsimp only at hSw); go_simp) <;> with_reducible rfl
  simp only [Act.put, List.setIfInBounds_toArray, List.set_cons_zero, List.set_cons_succ]
  refine late_take 8 (.succ (.succ (.succ (.succ (.succ (.succ (.succ (.succ .zero)))))))) (v := ?_) (by kernel_rfl) (by kernel_rfl) (by kernel_rfl) (by kernel_rfl) (fun _ _ _ h => h) (by rfl) ?_ (by assumption) ?_
  rotate_left
  · (intro w hSw; (try dsimp only at hSw); go_simp) <;> with_reducible rfl
  simp only [Act.put, List.setIfInBounds_toArray, List.set_cons_zero, List.set_cons_succ]
  refine late_take 9 (.succ (.succ (.succ (.succ (.succ (.succ (.succ (.succ (.succ .zero))))))))) (v := ?_) (by kernel_rfl) (by kernel_rfl) (by kernel_rfl) (by kernel_rfl) (fun _ _ _ h => h) (by rfl) ?_ (by assumption) ?_
  rotate_left
  · (intro w hSw; (try dsimp only at hSw); go_simp) <;> with_reducible rfl
  simp only [Act.put, List.setIfInBounds_toArray, List.set_cons_zero, List.set_cons_succ]
  refine late_take 10 (.succ (.succ (.succ (.succ (.succ (.succ (.succ (.succ (.succ (.succ .zero)))))))))) (v := ?_) (by kernel_rfl) (by kernel_rfl) (by kernel_rfl) (by kernel_rfl) (fun _ _ _ h => h) (by rfl) ?_ (by assumption) ?_
  rotate_left
  · (intro w hSw; (try dsimp only at hSw); go_simp) <;> with_reducible rfl
  simp only [Act.put, List.setIfInBounds_toArray, List.set_cons_zero, List.set_cons_succ]
  refine late_take 11 (.succ (.succ (.succ (.succ (.succ (.succ (.succ (.succ (.succ (.succ (.succ .zero))))))))))) (v := ?_) (by kernel_rfl) (by kernel_rfl) (by kernel_rfl) (by kernel_rfl) (fun _ _ _ h => h) (by rfl) ?_ (by assumption) ?_
  rotate_left
  · (intro w hSw; (try dsimp only at hSw); go_simp) <;> with_reducible rfl
  simp only [Act.put, List.setIfInBounds_toArray, List.set_cons_zero, List.set_cons_succ]
  refine late_take 12 (.succ (.succ (.succ (.succ (.succ (.succ (.succ (.succ (.succ (.succ (.succ (.succ .zero)))))))))))) (v := ?_) (by kernel_rfl) (by kernel_rfl) (by kernel_rfl) (by kernel_rfl) (fun _ _ _ h => h) (by rfl) ?_ (by assumption) ?_
  rotate_left
  · (intro w hSw; (try dsimp only at hSw); go_simp) <;> with_reducible rfl
  simp only [Act.put, List.setIfInBounds_toArray, List.set_cons_zero, List.set_cons_succ]
  refine late_take 13 (.succ (.succ (.succ (.succ (.succ (.succ (.succ (.succ (.succ (.succ (.succ (.succ (.succ .zero))))))))))))) (v := ?_) (by kernel_rfl) (by kernel_rfl) (by kernel_rfl) (by kernel_rfl) (fun _ _ _ h => h) (by rfl) ?_ (by assumption) ?_
  rotate_left
  · (intro w hSw; (try dsimp only at hSw); go_simp) <;> with_reducible rfl
  simp only [Act.put, List.setIfInBounds_toArray, List.set_cons_zero, List.set_cons_succ]
  refine late_take 14 (.succ (.succ (.succ (.succ (.succ (.succ (.succ (.succ (.succ (.succ (.succ (.succ (.succ (.succ .zero)))))))))))))) (v := ?_) (by kernel_rfl) (by kernel_rfl) (by kernel_rfl) (by kernel_rfl) (fun _ _ _ h => h) (by rfl) ?_ (by assumption) ?_
  rotate_left
  · (intro w hSw; (try dsimp only at hSw); go_simp) <;> with_reducible rfl
  simp only [Act.put, List.setIfInBounds_toArray, List.set_cons_zero, List.set_cons_succ]
  refine late_take 15 (.succ (.succ (.succ (.succ (.succ (.succ (.succ (.succ (.succ (.succ (.succ (.succ (.succ (.succ (.succ .zero))))))))))))))) (v := ?_) (by kernel_rfl) (by kernel_rfl) (by kernel_rfl) (by kernel_rfl) (fun _ _ _ h => h) (by rfl) ?_ (by assumption) ?_
  rotate_left
  · (intro w hSw; (try dsimp only at hSw); go_simp) <;> with_reducible rfl
  simp only [Act.put, List.setIfInBounds_toArray, List.set_cons_zero, List.set_cons_succ]
  refine late_take 16 (.succ (.succ (.succ (.succ (.succ (.succ (.succ (.succ (.succ (.succ (.succ (.succ (.succ (.succ (.succ (.succ .zero)))))))))))))))) (v := ?_) (by kernel_rfl) (by kernel_rfl) (by kernel_rfl) (by kernel_rfl) (fun _ _ _ h => h) (by rfl) ?_ (by assumption) ?_
  rotate_left
  · (intro w hSw; (try dsimp only at hSw); go_simp) <;> with_reducible rfl
  simp only [Act.put, List.setIfInBounds_toArray, List.set_cons_zero, List.set_cons_succ]
  refine late_take 17 (.succ (.succ (.succ (.succ (.succ (.succ (.succ (.succ (.succ (.succ (.succ (.succ (.succ (.succ (.succ (.succ (.succ .zero))))))))))))))))) (v := ?_) (by kernel_rfl) (by kernel_rfl) (by kernel_rfl) (by kernel_rfl) (fun _ _ _ h => h) (by rfl) ?_ (by assumption) ?_
  rotate_left
  · (intro w hSw; (try dsimp only at hSw); go_simp) <;> with_reducible rfl
  simp only [Act.put, List.setIfInBounds_toArray, List.set_cons_zero, List.set_cons_succ]
  refine late_take 18 (.succ (.succ (.succ (.succ (.succ (.succ (.succ (.succ (.succ (.succ (.succ (.succ (.succ (.succ (.succ (.succ (.succ (.succ .zero)))))))))))))))))) (v := ?_) (by kernel_rfl) (by kernel_rfl) (by kernel_rfl) (by kernel_rfl) (fun _ _ _ h => h) (by rfl) ?_ (by assumption) ?_
  rotate_left
  · (intro w hSw; (try dsimp only at hSw); go_simp) <;> with_reducible rfl
  simp only [Act.put, List.setIfInBounds_toArray, List.set_cons_zero, List.set_cons_succ]
  refine late_take 19 (.succ (.succ (.succ (.succ (.succ (.succ (.succ (.succ (.succ (.succ (.succ (.succ (.succ (.succ (.succ (.succ (.succ (.succ (.succ .zero))))))))))))))))))) (v := ?_) (by kernel_rfl) (by kernel_rfl) (by kernel_rfl) (by kernel_rfl) (fun _ _ _ h => h) (by rfl) ?_ (by assumption) ?_
  rotate_left
  · (intro w hSw; (try dsimp only at hSw); go_simp) <;> with_reducible rfl
  simp only [Act.put, List.setIfInBounds_toArray, List.set_cons_zero, List.set_cons_succ]
  refine late_take 20 (.succ (.succ (.succ (.succ (.succ (.succ (.succ (.succ (.succ (.succ (.succ (.succ (.succ (.succ (.succ (.succ (.succ (.succ (.succ (.succ .zero)))))))))))))))))))) (v := ?_) (by kernel_rfl) (by kernel_rfl) (by kernel_rfl) (by kernel_rfl) (fun _ _ _ h => h) (by rfl) ?_ (by assumption) ?_
  rotate_left
  · (intro w hSw; (try dsimp only at hSw); go_simp) <;> with_reducible rfl
  simp only [Act.put, List.setIfInBounds_toArray, List.set_cons_zero, List.set_cons_succ]
  refine late_take 21 (.succ (.succ (.succ (.succ (.succ (.succ (.succ (.succ (.succ (.succ (.succ (.succ (.succ (.succ (.succ (.succ (.succ (.succ (.succ (.succ (.succ .zero))))))))))))))))))))) (v := ?_) (by kernel_rfl) (by kernel_rfl) (by kernel_rfl) (by kernel_rfl) (fun _ _ _ h => h) (by rfl) ?_ (by assumption) ?_
  rotate_left
  · (intro w hSw; (try dsimp only at hSw); go_simp) <;> with_reducible rfl
  simp only [Act.put, List.setIfInBounds_toArray, List.set_cons_zero, List.set_cons_succ]
  refine late_one 22 (.succ (.succ (.succ (.succ (.succ (.succ (.succ (.succ (.succ (.succ (.succ (.succ (.succ (.succ (.succ (.succ (.succ (.succ (.succ (.succ (.succ (.succ .zero)))))))))))))))))))))) (by kernel_rfl) (fun K hK => ?_)
  refine step_size (by rfl) 66 _ v1 s1 (by rfl) (by rfl) (fun _ _ => by kernel_rfl) (fun _ _ => by kernel_rfl) HS1.out ?_
  refine hK.out _ _ ?_ (fun hHeld2 => ?_)
  · (intro _; exact hHeld)
  clear hK K
  replace hHeld := hHeld2 (by decide)
  clear hHeld2
  try simp only [Act.put, List.setIfInBounds_toArray, List.set_cons_zero, List.set_cons_succ]
  refine late_take 23 (.succ (.succ (.succ (.succ (.succ (.succ (.succ (.succ (.succ (.succ (.succ (.succ (.succ (.succ (.succ (.succ (.succ (.succ (.succ (.succ (.succ (.succ (.succ .zero))))))))))))))))))))))) (v := ?_) (by kernel_rfl) (by kernel_rfl) (by kernel_rfl) (by kernel_rfl) (fun _ _ _ h => h) (by rfl) ?_ (by assumption) ?_
  rotate_left
  · (intro w hSw; (try dsimp only at hSw); go_simp) <;> with_reducible rfl
  simp only [Act.put, List.setIfInBounds_toArray, List.set_cons_zero, List.set_cons_succ]
  refine late_one 24 (.succ (.succ (.succ (.succ (.succ (.succ (.succ (.succ (.succ (.succ (.succ (.succ (.succ (.succ (.succ (.succ (.succ (.succ (.succ (.succ (.succ (.succ (.succ (.succ .zero)))))))))))))))))))))))) (by kernel_rfl) (fun K hK => ?_)
  refine step_t3 (by rfl) 73 51 59 68 _ (by rfl) v1 v2 (.int .i64 (IntKind.i64.wrap ((s1 : Int) + 1))) (by rfl) (by rfl) (by rfl) (fun _ _ => by rfl) ?_
  (with_reducible refine HDl.out.mono ?_)
  rintro e w2 ⟨rfl, hf2, hta1, hta2⟩
  refine ⟨_, rfl, ?_⟩
  refine hK.out _ _ ?_ (fun hHeld2 => ?_)
  · (intro hne; exact absurd rfl hne)
  clear hK K hHeld2
  refine wpLate_done (by kernel_rfl) ?_ _
  have HF : Hid (RetF S w d b g kc x ((m.set i (joinD t (cutD 0 1 u))).set (i + 1) (cutD 1 (sizD u) u)) cs (.returned (.tuple #[])) w2) := by
    obtain ⟨hR, _, e1, e2, hU, hV⟩ := HD.out
    have mc1 := List.mem_of_getElem? HC.out.2.1
    have mc2 := List.mem_of_getElem? HC.out.2.2.2
    have hf : Fr2 w w2 c1 c2 := hf2
    obtain ⟨cur, hcu, hcs⟩ := hR.own
    have hgl := (Array.getElem?_eq_some_iff.1 hcu).1
    have hgc1 : g ≠ c1 := fun e => hR.ng.1 (e ▸ mc1)
    have hgc2 : g ≠ c2 := fun e => hR.ng.1 (e ▸ mc2)
    have hbc1 : b ≠ c1 := fun e => hR.nb.1 (e ▸ mc1)
    have hbc2 : b ≠ c2 := fun e => hR.nb.1 (e ▸ mc2)
    have hl : ((m.set i (joinD t (cutD 0 1 u))).set (i + 1) (cutD 1 (sizD u) u)).length = n := by rw [List.length_set, List.length_set, hR.ml]
    have cl := cut_right hU hV (by omega)
    refine ⟨rfl, frs_two hf (by simp [mc1]) (by simp [mc2]), us, ?_, by rw [hl]; exact hR.cap.1, fun j u hj => ?_, ?_⟩
    · rw [hl]
      exact hR.box.of_block (hf.2.2.2.2 b hR.box.lt hbc1 hbc2)
    · rw [World.cell?_of_block (a := ⟨g, j, none⟩) (hf.2.2.2.2 g hgl hgc1 hgc2)]
      exact hR.row j u hj
    · have ak := hR.set2 (show i ≠ i + 1 by omega) HC.out.2.1 HC.out.2.2.2 hf HC.out.1 HC.out.2.2.1 (wide_s mc1 hta1) (wide_s mc2 hta2)
      rw [e1, e2, cl.1, cl.2] at ak
      exact ak
  clear hHeld hta1 hta2 hf2
  go_wp2
  go_end0
  exact HF.out

set_option maxHeartbeats 8000000 in
theorem fillJoin_any {S : Nat → Prop} {w : World} {d b g n kc : Nat} {x : Int} {m : List (Ro (d + 1))} {us : List Value} {cs : List Nat} (hR : NR S w d b g n kc x m us cs) (hn : n ≤ 1000) (i : Nat) (t u : Ro (d + 1)) (HCs : Hid (Calls Try.prog 134 #[.pointer (some ⟨b, 0, none⟩), .int .i64 ((i : Int) - 1)] w fun e w' => e = .returned (.bool false) ∧ w' = w)) (HCr : Hid (Calls Try.prog 134 #[.pointer (some ⟨b, 0, none⟩), .int .i64 ((i : Int) + 1)] w fun e w' => e = .returned (.bool false) ∧ w' = w)) (hin : i < n) (p : Nat) (hp : p = i - 1) (hpn : p + 1 < n) (ht : m[p]? = some t) (hu : m[p + 1]? = some u) (h : Nat) (hU : BalU (d + 1) t h) (hV : BalU (d + 1) u h) (HH1 : 1 ≤ sizD t) (hkeys : (keysR (d + 1) t).length + (keysR (d + 1) u).length ≤ 1099511627776) :
    Calls Try.prog 131 #[.pointer (some ⟨b, 0, none⟩), .int .i64 (i : Int)] w (RetF S w d b g kc x (m.take p ++ joinD t u :: m.drop (p + 2)) cs) := by
  have HJ : Hid (Calls Try.prog 135 #[.pointer (some ⟨b, 0, none⟩), .int .i64 (p : Int)] w (RetF S w d b g kc x (m.take p ++ joinD t u :: m.drop (p + 2)) cs)) := joinRight_any hR hn p hpn t u ht hu h hU hV HH1 hkeys
  have hmx : max (IntKind.i64.wrap ((i : Int) - 1)) 0 = (p : Int) := by rw [IntKind.wrap_i64]; omega
  have hwi : IntKind.i64.wrap ((i : Int) - 1) = (i : Int) - 1 := by rw [IntKind.wrap_i64]; omega
  have hwr : IntKind.i64.wrap ((i : Int) + 1) = (i : Int) + 1 := by rw [IntKind.wrap_i64]; omega
  rw [hwi] at hmx
  clear hR ht hu hU hV HH1 hkeys hp
  go_enter Try.func131, Try.ntmps131
  go_wp2_with fail
  (with_reducible refine HCs.out.mono ?_)
  rintro e w0 ⟨rfl, hw0⟩
  subst w0
  go_wp2_with fail
  (with_reducible refine HCr.out.mono ?_)
  rintro e w0' ⟨rfl, hw0⟩
  subst w0'
  go_wp2_with fail
  (with_reducible refine HJ.out.mono ?_)
  rintro e w2 hret
  have HF : Hid (RetF S w d b g kc x (m.take p ++ joinD t u :: m.drop (p + 2)) cs e w2) := hret
  obtain ⟨rfl, _⟩ := hret
  go_wp2
  go_end0
  exact HF.out

end Go.Proofs.Ytakemeccigpbaaa

namespace Go.Proofs.Ytakemeccigpbaaa
open Go.RowKit Go.Deep
set_option linter.unusedVariables false
set_option maxRecDepth 100000

theorem fillUp_any {S : Nat → Prop} {w : World} {d b g n kc : Nat} {x : Int} {m : List (Ro (d + 1))} {us : List Value} {cs : List Nat} (hR : NR S w d b g n kc x m us cs) (hn : n ≤ 4) (hn2 : 2 ≤ n) (i : Nat) (hin : i < n) (h : Nat) (y : Ro (d + 1)) (hy : m[i]? = some y) (hU : BalU (d + 1) y h) (h1 : 1 ≤ sizD y) (hf : ¬ 2 ≤ sizD y) (hall : ∀ j t, m[j]? = some t → j ≠ i → BalR (d + 1) false t h) (hkeys : ∀ t, t ∈ m → (keysR (d + 1) t).length ≤ 200000) :
    Calls Try.prog 131 #[.pointer (some ⟨b, 0, none⟩), .int .i64 (i : Int)] w (RetF S w d b g kc x (fixD m i) cs) := by
  have hml := hR.ml
  have ky := hkeys y (List.mem_of_getElem? hy)
  by_cases hl : 0 < i ∧ 2 < sizO m[i - 1]?
  · obtain ⟨hi0, hz3⟩ := hl
    have hz : m[i - 1]? = some (m[i - 1]'(by omega)) := List.getElem?_eq_getElem (by omega)
    generalize m[i - 1]'(by omega) = z at hz
    rw [hz] at hz3
    have hz3' : 2 < sizD z := hz3
    have kz := hkeys z (List.mem_of_getElem? hz)
    rw [fixD_left hy hf hi0 hz hz3']
    exact fillLeft_any hR (by omega) i z y hi0 hin hz hy h (BalU.of (hall (i - 1) z hz (by omega))) hU hz3' h1 (by omega)
  · have HCs : Hid (Calls Try.prog 134 #[.pointer (some ⟨b, 0, none⟩), .int .i64 ((i : Int) - 1)] w fun e w' => e = .returned (.bool false) ∧ w' = w) := by
      by_cases hi0 : 0 < i
      · have hz : m[i - 1]? = some (m[i - 1]'(by omega)) := List.getElem?_eq_getElem (by omega)
        generalize m[i - 1]'(by omega) = z at hz
        have q : ¬ 2 < sizD z := fun q => hl ⟨hi0, by rw [hz]; exact q⟩
        have c := canSpare_in hR (by omega) (i - 1) (by omega) z hz
        rw [decide_eq_false q, show ((i - 1 : Nat) : Int) = (i : Int) - 1 by omega] at c
        exact c
      · exact canSpare_out hR (by omega) _ (.inl (by omega))
    by_cases hr : 2 < sizO m[i + 1]?
    · have hlt : i + 1 < m.length := by
        by_cases q : i + 1 < m.length
        · exact q
        · rw [List.getElem?_eq_none (by omega)] at hr
          exact absurd hr (by simp [sizO])
      have hz : m[i + 1]? = some m[i + 1] := List.getElem?_eq_getElem hlt
      generalize m[i + 1] = z at hz
      rw [hz] at hr
      have hz3' : 2 < sizD z := hr
      have kz := hkeys z (List.mem_of_getElem? hz)
      rw [fixD_right hy hf hl hz hz3']
      exact fillRight_any hR (by omega) i y z HCs (by omega) hy hz h hU (BalU.of (hall (i + 1) z hz (by omega))) h1 hz3' (by omega)
    · have HCr : Hid (Calls Try.prog 134 #[.pointer (some ⟨b, 0, none⟩), .int .i64 ((i : Int) + 1)] w fun e w' => e = .returned (.bool false) ∧ w' = w) := by
        by_cases q : i + 1 < n
        · have hz : m[i + 1]? = some (m[i + 1]'(by omega)) := List.getElem?_eq_getElem (by omega)
          generalize m[i + 1]'(by omega) = z at hz
          have q2 : ¬ 2 < sizD z := fun q => hr (by rw [hz]; exact q)
          have c := canSpare_in hR (by omega) (i + 1) (by omega) z hz
          rw [decide_eq_false q2, show ((i + 1 : Nat) : Int) = (i : Int) + 1 by omega] at c
          exact c
        · exact canSpare_out hR (by omega) _ (.inr (by omega))
      by_cases hi0 : 0 < i
      · have hz : m[i - 1]? = some (m[i - 1]'(by omega)) := List.getElem?_eq_getElem (by omega)
        generalize m[i - 1]'(by omega) = z at hz
        have hb := hall (i - 1) z hz (by omega)
        have hs := hb.siz
        have kz := hkeys z (List.mem_of_getElem? hz)
        have em : max i 1 = i := Nat.max_eq_left hi0
        rw [fixD_join (u := z) (v := y) hy hf hl hr (by rw [em]; exact hz) (by rw [em]; exact hy), em]
        have q := fillJoin_any hR (by omega) i z y HCs HCr hin (i - 1) rfl (by omega) hz (by rw [show i - 1 + 1 = i by omega]; exact hy) h (BalU.of hb) hU (by omega) (by omega)
        rw [show i - 1 + 2 = i + 1 by omega] at q
        exact q
      · have e0 : i = 0 := by omega
        subst e0
        have hz : m[1]? = some (m[1]'(by omega)) := List.getElem?_eq_getElem (by omega)
        generalize m[1]'(by omega) = z at hz
        have hb := hall 1 z hz (by omega)
        have kz := hkeys z (List.mem_of_getElem? hz)
        rw [fixD_join (u := y) (v := z) hy hf hl hr hy hz]
        exact fillJoin_any hR (by omega) 0 y z HCs HCr hin 0 rfl (by omega) hy hz h hU (BalU.of hb) h1 (by omega)

theorem BalU.fit : ∀ {d : Nat} {t : Ro d} {h : Nat}, BalU d t h → FitR 4 d t
  | 0, t, _, _ => t.elim
  | d + 1, .inl L, h, hb => hb.2
  | d + 1, .inr l, h, hb => fun t ht => by
    obtain ⟨_, _, h', _, q⟩ := hb
    exact bal_fit (q t ht)
theorem heads_nodup {bss : List (List Nat)} (h : bss.flatten.Nodup) (hne : ∀ us, us ∈ bss → us ≠ []) : (bss.map (fun us => us.headD 0)).Nodup := by
  unfold List.Nodup at h ⊢
  rw [List.pairwise_flatten] at h
  rw [List.pairwise_map]
  refine h.2.imp_of_mem (fun {a b} ha hb hab => ?_)
  have m1 : ∀ {us : List Nat}, us ≠ [] → us.headD 0 ∈ us := fun {us} hn => by
    cases us with
    | nil => exact absurd rfl hn
    | cons x xs => simp
  exact hab _ (m1 (hne a ha)) _ (m1 (hne b hb))
/-- The box stands first. -/
theorem TOw.nd {B : Nat} {w : World} : ∀ {d : Nat} {t : Ro (d + 1)} {v : Value} {bs : List Nat}, TOw B w (d + 1) t v bs → bs.Nodup → bs ≠ [] ∧ NdI (fun x => x ∈ bs ∧ x ≠ bs.headD 0) w (bs.headD 0) (d + 1) t v
  | d, .inl t, v, bs, h, hd => by
    obtain ⟨b, ka, kc, rfl, hB, hx, ho, rfl⟩ := h
    refine ⟨by simp, rfl, ka, kc, hx, own_cap ho, ?_⟩
    rcases ho.2 with ⟨q, q0⟩ | ⟨g, cap, cur, q1, q2, q3, q4⟩
    · exact .inl q0
    · injection q1 with q1 _ q5
      subst q1 q5
      refine .inr ⟨g, 0, rfl, ⟨by simp, fun e => ?_⟩, (own_lt ho g rfl).2, fun i hi => ?_⟩
      · rw [List.nodup_cons] at hd
        have e' : g = b := e
        exact hd.1 (by rw [← e']; simp)
      · rw [Nat.zero_add, ho.cellAt i (by omega), strL_get t i hi]
  | d, .inr l, v, bs, h, hd => by
    obtain ⟨b, g, kc, xs, bss, rfl, hB, hx, ho, hl, hbl, rfl, hall⟩ := h
    have hc := own_cap ho
    rw [List.nodup_cons, List.nodup_cons] at hd
    refine ⟨by simp, rfl, g, 0, kc, xs, hx, ⟨by simp, fun e => hd.1 (by have e' : g = b := e; rw [e']; simp)⟩, ⟨(own_lt ho g rfl).2, hc.1, hc.2⟩, ⟨hl, by have := ho.1; omega⟩, fun j u hj => ?_, fun k h => ?_⟩
    · have hjl := (List.getElem?_eq_some_iff.1 hj).1
      rw [ho.1] at hjl
      rw [Nat.zero_add, ho.cellAt j hjl]
      exact hj
    · obtain ⟨u, us, e1, e2, e3⟩ := hall k h
      have hm : us ∈ bss := List.mem_of_getElem? e2
      refine ⟨u, e1, TAo.wide (TOw.tao e3 ?_) (fun b' hb' _ => ?_)⟩
      · exact (List.pairwise_flatten.1 hd.2.2).1 us hm
      · have hbf : b' ∈ bss.flatten := List.mem_flatten.2 ⟨us, hm, hb'⟩
        refine ⟨by simp only [List.mem_cons]; exact .inr (.inr hbf), fun e => ?_⟩
        have e' : b' = b := e
        subst e'
        exact hd.1 (List.mem_cons_of_mem _ hbf)
theorem NdI.box_eq {S : Nat → Prop} {w : World} {b c d : Nat} {t : Ro (d + 1)} {v : Value} (h : NdI S w b (d + 1) t v) (hv : v = .iface 53 (.pointer (some ⟨c, 0, none⟩)) ∨ v = .iface 91 (.pointer (some ⟨c, 0, none⟩))) : b = c := by
  have inj : ∀ {x y : Nat} {p q : Value}, (Value.iface x p = .iface y q) → p = q := fun {x y p q} e => by injection e
  have pj : ∀ {x y : Nat}, (Value.pointer (some ⟨x, 0, none⟩) = .pointer (some ⟨y, 0, none⟩)) → x = y := fun {x y} e => by
    injection e with e
    injection e with e
    injection e
  rcases h.form with ⟨rfl, _⟩ | ⟨rfl, _⟩
  · rcases hv with e | e
    · exact pj (inj e)
    · injection e with e _
      exact absurd e (by decide)
  · rcases hv with e | e
    · injection e with e _
      exact absurd e (by decide)
    · exact pj (inj e)

theorem NR.all {S : Nat → Prop} {w : World} {d b g n kc : Nat} {x : Int} {m : List (Ro (d + 1))} {us : List Value} {cs : List Nat} (h : NR S w d b g n kc x m us cs) : AllK (fun y => S y ∨ y ∈ cs ∨ w.heap.size ≤ y) w (d + 1) m us := by
  refine ⟨by rw [h.ul, h.ml], fun k hk => ?_⟩
  obtain ⟨u, c, e1, e2, e3⟩ := h.kid k hk
  have hc := List.mem_of_getElem? e2
  refine ⟨u, e1, (e3.tao (h.out c hc)).wide (fun y hy _ => ?_)⟩
  rcases hy with q | rfl
  · exact .inl q
  · exact .inr (.inl hc)

/-- The node's children once one of them has lost its key. -/
theorem NR.of {B d b g n kc : Nat} {x : Int} {l : List (Ro (d + 1))} {xs : List Value} {bss : List (List Nat)} {w w2 : World} (hx : Bx w b 96 #[.int .i64 x, .slice (some ⟨g, 0, none⟩) n kc]) (ho : w.ownsRow B 59 1 (.slice (some ⟨g, 0, none⟩) n kc) n xs) (hn : n = l.length) (hn0 : 0 < n) (hbl : bss.length = l.length) (hd : b ∉ g :: bss.flatten ∧ g ∉ bss.flatten ∧ bss.flatten.Nodup)
    (hall : ∀ k (h : k < l.length), ∃ u us, xs[k]? = some u ∧ bss[k]? = some us ∧ TOw B w (d + 1) l[k] u us) (i : Nat) (hi : i < l.length) (u : Value) (us : List Nat) (hu : xs[i]? = some u) (hus : bss[i]? = some us) (hf : Frs us w w2) (y : Ro (d + 1)) (hy : NdI (fun z => (z ∈ us ∧ z ≠ us.headD 0) ∨ w.heap.size ≤ z) w2 (us.headD 0) (d + 1) y u) (hlt : ∀ z, z ∈ b :: g :: bss.flatten → B ≤ z ∧ z < w.heap.size) :
    NR (fun z => (z ∈ bss.flatten ∧ z ∉ bss.map (fun us => us.headD 0)) ∨ w.heap.size ≤ z) w2 d b g n kc x (l.set i y) xs (bss.map (fun us => us.headD 0)) := by
  have hmus : us ∈ bss := List.mem_of_getElem? hus
  have hfl : ∀ z, z ∈ us → z ∈ bss.flatten := fun z hz => List.mem_flatten.2 ⟨us, hmus, hz⟩
  have hnd : ∀ (k : Nat) (vs : List Nat), bss[k]? = some vs → vs.Nodup := fun k vs e => (List.pairwise_flatten.1 hd.2.2).1 vs (List.mem_of_getElem? e)
  have hnb : b ∉ us := fun q => hd.1 (List.mem_cons_of_mem _ (hfl b q))
  have hng : g ∉ us := fun q => hd.2.1 (hfl g q)
  have hgl : g < w.heap.size := (hlt g (by simp)).2
  have hne : ∀ vs, vs ∈ bss → vs ≠ [] := fun vs hv => by
    obtain ⟨k, hk, e⟩ := List.getElem_of_mem hv
    obtain ⟨u', us', e1, e2, e3⟩ := hall k (by omega)
    rw [List.getElem?_eq_getElem hk, e] at e2
    injection e2 with e2
    subst e2
    exact (e3.nd (hnd k vs (by rw [List.getElem?_eq_getElem hk, e]))).1
  have hmem : ∀ vs, vs ∈ bss → vs.headD 0 ∈ vs := fun vs hv => by
    have := hne vs hv
    cases vs with
    | nil => exact absurd rfl this
    | cons a ts => simp
  have hcsf : ∀ z, z ∈ bss.map (fun us => us.headD 0) → z ∈ bss.flatten := fun z hz => by
    obtain ⟨vs, hv, rfl⟩ := List.mem_map.1 hz
    exact List.mem_flatten.2 ⟨vs, hv, hmem vs hv⟩
  have hsub : ∀ (k : Nat) (vs : List Nat), bss[k]? = some vs → ∀ z, z ∈ vs → z ≠ vs.headD 0 → z ∈ bss.flatten ∧ z ∉ bss.map (fun us => us.headD 0) := fun k vs hk z hz hzn => by
    refine ⟨List.mem_flatten.2 ⟨vs, List.mem_of_getElem? hk, hz⟩, fun q => ?_⟩
    obtain ⟨vs', hv', e⟩ := List.mem_map.1 q
    obtain ⟨k', hk', e'⟩ := List.getElem_of_mem hv'
    have hk2 : bss[k']? = some vs' := by rw [List.getElem?_eq_getElem hk', e']
    have hzv : z ∈ vs' := by rw [← e]; exact hmem vs' hv'
    by_cases ek : k = k'
    · subst ek
      rw [hk] at hk2
      injection hk2 with hk2
      subst hk2
      exact hzn e.symm
    · exact nodup_ne hd.2.2 hk2 hk ek hz hzv
  have hz2 := hf.2.2.2.1
  refine ⟨hx.of_block (hf.2.2.2.2 b hx.lt hnb), ?_, fun j v hj => ?_, by have := ho.1; omega, by rw [List.length_set]; exact hn.symm, by rw [List.length_map, hbl, hn], heads_nodup hd.2.2 hne, fun c hc q => ?_, ⟨fun q => hd.1 (List.mem_cons_of_mem _ (hcsf b q)), fun q => ?_⟩, ⟨fun q => hd.2.1 (hcsf g q), fun q => ?_⟩, fun e => hd.1 (by rw [e]; simp), own_cap ho, fun k hk => ?_⟩
  · rcases ho.2 with ⟨q, q0⟩ | ⟨g', cap, cur, q1, q2, q3, q4, q5, q6, q7⟩
    · omega
    · injection q1 with q1 _ q8
      injection q1 with q1
      injection q1 with q1
      subst q1 q8
      exact ⟨cur, (hf.2.2.2.2 g hgl hng).trans q3, by omega⟩
  · have hjl := (List.getElem?_eq_some_iff.1 hj).1
    rw [ho.1] at hjl
    rw [World.cell?_of_block (a := ⟨g, j, none⟩) (hf.2.2.2.2 g hgl hng), ho.cellAt j hjl]
    exact hj
  · rcases q with q | q
    · exact q.2 hc
    · have := (hlt c (by simp [hcsf c hc])).2
      omega
  · rcases q with q | q
    · exact hd.1 (List.mem_cons_of_mem _ q.1)
    · have := (hlt b (by simp)).2
      omega
  · rcases q with q | q
    · exact hd.2.1 q.1
    · omega
  · rw [List.length_set] at hk
    by_cases ek : k = i
    · subst ek
      refine ⟨u, us.headD 0, hu, by rw [List.getElem?_map, hus]; rfl, ?_⟩
      rw [List.getElem_set_self]
      refine NdI.keep (Nat.le_refl _) rfl (fun z hz _ => ⟨?_, rfl⟩) hy
      rcases hz with hz | hz
      · exact .inl (hsub k us hus z hz.1 hz.2)
      · exact .inr hz
    · obtain ⟨v, vs, e1, e2, e3⟩ := hall k hk
      refine ⟨v, vs.headD 0, e1, by rw [List.getElem?_map, e2]; rfl, ?_⟩
      rw [List.getElem_set_ne (by omega)]
      have hlv : ∀ z, z ∈ vs → z < w.heap.size ∧ z ∉ us := fun z hz => ⟨(hlt z (by simp [List.mem_flatten.2 ⟨vs, List.mem_of_getElem? e2, hz⟩])).2, nodup_ne hd.2.2 hus e2 ek hz⟩
      have hh := hlv _ (hmem vs (List.mem_of_getElem? e2))
      refine NdI.keep hz2 (hf.2.2.2.2 _ hh.1 hh.2) (fun z hz _ => ⟨.inl (hsub k vs e2 z hz.1 hz.2), ?_⟩) (e3.nd (hnd k vs e2)).2
      have := hlv z hz.1
      exact hf.2.2.2.2 z this.1 this.2
end Go.Proofs.Ytakemeccigpbaaa

namespace Go.Proofs.Ytakemeccigpbaaa
open Go.RowKit Go.Deep
set_option linter.unusedVariables false
set_option maxRecDepth 100000

theorem SzI.leaf {b n : Nat} {w : World} (h : SzI (.iface 53 (.pointer (some ⟨b, 0, none⟩))) n w) : Calls Try.prog 140 #[.pointer (some ⟨b, 0, none⟩)] w fun e w' => e = .returned (.int .i64 (n : Int)) ∧ w' = w := by
  rcases h with ⟨c, e, hc⟩ | ⟨c, e, hc⟩
  · injection e with _ e
    rw [e]
    exact hc
  · injection e with e _
    exact absurd e (by decide)
theorem SzI.inner {b n : Nat} {w : World} (h : SzI (.iface 91 (.pointer (some ⟨b, 0, none⟩))) n w) : Calls Try.prog 55 #[.pointer (some ⟨b, 0, none⟩)] w fun e w' => e = .returned (.int .i64 (n : Int)) ∧ w' = w := by
  rcases h with ⟨c, e, hc⟩ | ⟨c, e, hc⟩
  · injection e with e _
    exact absurd e (by decide)
  · injection e with _ e
    rw [e]
    exact hc
theorem DelR.keys {key : ByteArray} {d : Nat} {t r : Ro d} {root : Bool} {h : Nat} (hb : BalR d root t h) (ha : Asc (keysR d t)) (hn : nodesR d t ≤ 5000) (hd : DelR key d t r) : (keysR d r).length ≤ 20000 := by
  have q1 := fit_len (DelR.bal hb ha hd).1.fit
  have q2 := DelR.nodes hb ha hd
  omega

/-- The last of it: the node counts anew. -/
theorem rem_fin {key : ByteArray} {d b g kc : Nat} {x : Int} {l M : List (Ro (d + 1))} {ys : List Value} {bs : List Nat} {S : Nat → Prop} {cs : List Nat} {w w2 w3 : World} {root : Bool} {h : Nat} (hbal : BalR (d + 2) root (.inr l) h) (ha : Asc (keysR (d + 2) (.inr l))) (hnod : nodesR (d + 2) (.inr l) ≤ 5000) (hdel : DelR key (d + 2) (.inr l) (.inr M)) (hk : key ∈ keysR (d + 2) (.inr l)) (hx : Bx w3 b 96 #[.int .i64 x, .slice (some ⟨g, 0, none⟩) M.length kc]) (hcap : M.length ≤ kc ∧ kc ≤ 9223372036854775807) (hce : ∀ j u, ys[j]? = some u → w3.cell? ⟨g, j, none⟩ = some u) (hak : AllK (fun y => S y ∨ y ∈ cs ∨ w2.heap.size ≤ y) w3 (d + 1) M ys)
    (hS : ∀ y, S y → (y ∈ bs ∧ y ≠ b) ∨ w.heap.size ≤ y) (hcs : ∀ y, y ∈ cs → y ∈ bs ∧ y ≠ b) (hz : w.heap.size ≤ w2.heap.size) (hfr : Frs bs w w3) (hb : b ∈ bs) (hbl : b < w.heap.size) (hg : g ∈ bs) (hgb : g ≠ b) (hgl : g < w3.heap.size) :
    Calls Try.prog 57 #[.pointer (some ⟨b, 0, none⟩)] w3 fun e w' => e = .returned (.tuple #[]) ∧ RetR key (d + 2) (.inr l) (.iface 91 (.pointer (some ⟨b, 0, none⟩))) bs w (.returned (.bool true)) w' := by
  obtain ⟨hm1, hm4, _⟩ := (DelR.bal hbal ha hdel).1
  have hke := DelR.keys hbal ha hnod hdel
  refine (ins_fin (d + 1) b g kc x M ys (fun y => (y ∈ bs ∧ y ≠ b) ∨ w.heap.size ≤ y) w3 hx hcap (by omega) (by omega) hce (hak.keep (Nat.le_refl _) (fun y hy hl => ⟨?_, rfl⟩)) (fun q => ?_) (.inl ⟨hg, hgb⟩) hgl ?_).mono ?_
  · rcases hy with q | q | q
    · exact hS y q
    · exact .inl (hcs y q)
    · exact .inr (by omega)
  · rcases q with q | q
    · exact q.2 rfl
    · omega
  · have q : (M.flatMap (keysR (d + 1))).length ≤ 20000 := hke
    omega
  · rintro e w' ⟨rfl, hg', hnd⟩
    exact ⟨rfl, .inr ⟨hk, rfl, hfr.trans (frs_grown hg' hb), .inr M, b, hb, hdel, hnd⟩⟩

set_option maxHeartbeats 8000000 in
theorem remInnerO (key : ByteArray) (d B : Nat) (l : List (Ro (d + 1))) (v : Value) (bs : List Nat) (w : World) (root : Bool) (h : Nat) (hO : TOw B w (d + 2) (.inr l) v bs) (hd : bs.Nodup) (hbal : BalR (d + 2) root (.inr l) h) (ha : Asc (keysR (d + 2) (.inr l))) (hnod : nodesR (d + 2) (.inr l) ≤ 5000)
    (ih : ∀ i (hi : i < l.length) (u : Value) (us : List Nat), TOw B w (d + 1) l[i] u us → us.Nodup → CallR u key w (RetR key (d + 1) l[i] u us w)) : CallR v key w (RetR key (d + 2) (.inr l) v bs w) := by
  have htat := hO.tat
  have hOlt := hO.lt
  have HBR : Hid (BalR (d + 2) root (.inr l) h ∧ Asc (keysR (d + 2) (.inr l)) ∧ nodesR (d + 2) (.inr l) ≤ 5000) := ⟨hbal, ha, hnod⟩
  obtain ⟨b, g, kc, xs, bss, rfl, hBb, hx, ho, hl0, hbl, rfl, hall⟩ := hO
  obtain ⟨b2, b4, h', rfl, hbk⟩ := hbal
  have ha' : Asc (l.flatMap (keysR (d + 1))) := ha
  have hp : ∀ k (h : k < l.length), 0 < (keysR (d + 1) l[k]).length := fun k hk => bal_keys (hbk _ (List.getElem_mem hk))
  refine .inr ⟨b, rfl, ?_⟩
  have HKf : Hid (Calls Try.prog 129 #[.pointer (some ⟨b, 0, none⟩), .string key] w (RetKf l key w)) := kidFor_any (d + 1) b l _ h' key w htat hbk b4
  have hcap := own_cap ho
  obtain ⟨ln, hln⟩ : ∃ ln, ln = l.length := ⟨_, rfl⟩
  have HLn : Hid (ln = l.length) := hln
  rw [List.nodup_cons, List.nodup_cons] at hd
  have HD : Hid ((b ∉ g :: bss.flatten) ∧ g ∉ bss.flatten ∧ bss.flatten.Nodup) := hd
  have HO : Hid (w.ownsRow B 59 1 (.slice (some ⟨g, 0, none⟩) ln kc) ln xs) := by rw [hln]; exact ho
  have HX : Hid (Bx w b 96 #[.int .i64 ((l.flatMap (keysR (d + 1))).length : Int), .slice (some ⟨g, 0, none⟩) ln kc]) := by rw [hln]; exact hx
  have HAll : Hid (∀ k (h : k < l.length), ∃ u us, xs[k]? = some u ∧ bss[k]? = some us ∧ TOw B w (d + 1) l[k] u us) := hall
  have HOlt : Hid (∀ x, x ∈ b :: g :: bss.flatten → B ≤ x ∧ x < w.heap.size) := hOlt
  have HIH : Hid (∀ i (hi : i < l.length) (u : Value) (us : List Nat), TOw B w (d + 1) l[i] u us → us.Nodup → CallR u key w (RetR key (d + 1) l[i] u us w)) := ih
  have HBal : Hid ((∀ t, t ∈ l → BalR (d + 1) false t h') ∧ Asc (l.flatMap (keysR (d + 1))) ∧ (∀ k (h : k < l.length), 0 < (keysR (d + 1) l[k]).length) ∧ (∀ k (h : k < l.length), nodesR (d + 1) l[k] ≤ 5000)) := ⟨hbk, ha', hp, fun k hk => by
    have q := kid_le (d + 1) l k hk
    have q2 : nodesR (d + 1 + 1) (.inr l) ≤ 5000 := hnod
    omega⟩
  have HBl : Hid (bss.length = l.length) := hbl
  obtain ⟨X, hX⟩ : ∃ X : Int, X = ((l.flatMap (keysR (d + 1))).length : Int) := ⟨_, rfl⟩
  rw [← hX] at HX
  rw [← hln] at hcap hl0 b2 b4
  have p1 := HX.out.cell 1
  simp at p1
  have pz := HX.out.lt
  clear htat hOlt hx ho hall hbk ha ha' hp hd ih hnod hln hbl hX
  go_enter Try.func126, Try.ntmps126
  go_wp2_with fail
  (with_reducible refine HKf.out.mono ?_)
  rintro e w1 ⟨i, rfl, hw1, hi, hk1, hk2⟩
  subst hw1
  have HKI : Hid (KidIs l key i) := ⟨hi, hk1, hk2⟩
  obtain ⟨u, us, eu, eus, htk⟩ := HAll.out i hi
  have hiln : i < ln := by rw [HLn.out]; exact hi
  have hmus : us ∈ bss := List.mem_of_getElem? eus
  have hndu : us.Nodup := by
    have := HD.out.2.2
    unfold List.Nodup at this
    rw [List.pairwise_flatten] at this
    exact this.1 us hmus
  have HEq : Hid (xs[i]? = some u ∧ bss[i]? = some us ∧ us ∈ bss) := ⟨eu, eus, hmus⟩
  have HNd : Hid (NdI (fun x => x ∈ us ∧ x ≠ us.headD 0) w1 (us.headD 0) (d + 1) l[i] u) := (htk.nd hndu).2
  have cgi : w1.cell? ⟨g, i, none⟩ = some u := by
    rw [HO.out.cellAt i (by omega)]
    exact eu
  have i0 : (0 : Int) ≤ (i : Int) := by omega
  have i1 : (i : Int) < (ln : Int) := by omega
  have hCall := HIH.out i hi u us htk hndu
  clear htk eu eus hk1 hk2 HKf HIH hndu hmus
  rcases hCall with ⟨kb, rfl, hcall⟩ | ⟨kb, rfl, hcall⟩
  · have HC : Hid (Calls Try.prog 109 #[.pointer (some ⟨kb, 0, none⟩), .string key] w1 (RetR key (d + 1) l[i] (.iface 53 (.pointer (some ⟨kb, 0, none⟩))) us w1)) := hcall
    clear hcall
    go_wp2_with fail
    (with_reducible refine HC.out.mono ?_)
    rintro e w2 (⟨hm, rfl, hb2⟩ | ⟨hm, rfl, hf2, y, kb', hkb', hdel, hnd⟩)
    · have HR : Hid (RetR key (d + 2) (.inr l) (.iface 91 (.pointer (some ⟨b, 0, none⟩))) (b :: g :: bss.flatten) w1 (.returned (.bool false)) w2) := .inl ⟨fun q => hm ((mem_kid HBal.out.2.1 HBal.out.2.2.1 HKI.out hi).1 q), rfl, hb2⟩
      clear hb2 hm HC
      go_wp2
      go_ret
      exact HR.out
    · have HM : Hid (key ∈ keysR (d + 2) (.inr l)) := (mem_kid HBal.out.2.1 HBal.out.2.2.1 HKI.out hi).2 hm
      have hli := HBal.out.1 _ (List.getElem_mem hi)
      have hasi := asc_kid HBal.out.2.1 i hi
      have HDel : Hid (DelR key (d + 1) l[i] y ∧ BalU (d + 1) y h' ∧ 1 ≤ sizD y ∧ (keysR (d + 1) y).length ≤ 20000) := by
        have q := DelR.bal hli hasi hdel
        have q2 := hli.siz
        exact ⟨hdel, q.1, by omega, DelR.keys hli hasi (HBal.out.2.2.2 i hi) hdel⟩
      have hkk : kb' = kb := hnd.box_eq (.inl rfl)
      have hhd : us.headD 0 = kb := HNd.out.box_eq (.inl rfl)
      subst hkk
      have HSz : Hid (Calls Try.prog 140 #[.pointer (some ⟨kb', 0, none⟩)] w2 fun e w' => e = .returned (.int .i64 (sizD y : Int)) ∧ w' = w2) := hnd.szi.leaf
      have HNR : Hid (NR (fun z => (z ∈ bss.flatten ∧ z ∉ bss.map (fun us => us.headD 0)) ∨ w1.heap.size ≤ z) w2 d b g ln kc X (l.set i y) xs (bss.map (fun us => us.headD 0))) := NR.of HX.out HO.out HLn.out hl0 HBl.out HD.out HAll.out i hi _ us HEq.out.1 HEq.out.2.1 hf2 y (by rw [hhd]; exact hnd) HOlt.out
      have HCS : Hid (∀ z, z ∈ bss.map (fun us => us.headD 0) → z ∈ bss.flatten) := fun z hz => by
        obtain ⟨vs, hv, rfl⟩ := List.mem_map.1 hz
        obtain ⟨k, hk, e⟩ := List.getElem_of_mem hv
        obtain ⟨u', us', e1, e2, e3⟩ := HAll.out k (by rw [← HBl.out]; exact hk)
        rw [List.getElem?_eq_getElem hk, e] at e2
        injection e2 with e2
        subst e2
        have q := (e3.nd ((List.pairwise_flatten.1 HD.out.2.2).1 vs hv)).1
        refine List.mem_flatten.2 ⟨vs, hv, ?_⟩
        cases vs with
        | nil => exact absurd rfl q
        | cons a ts => simp
      have HF2 : Hid (Frs (b :: g :: bss.flatten) w1 w2) := hf2.mono (fun z hz => by simp [List.mem_flatten.2 ⟨us, HEq.out.2.2, hz⟩])
      obtain ⟨cs, hcs⟩ : ∃ cs, cs = bss.map (fun us => us.headD 0) := ⟨_, rfl⟩
      rw [← hcs] at HNR HCS
      obtain ⟨sy, hsy⟩ : ∃ sy, sy = sizD y := ⟨_, rfl⟩
      have HSy : Hid (sy = sizD y) := hsy
      rw [← hsy] at HSz
      have hsy4 : sy ≤ 4 := by rw [hsy]; exact HDel.out.2.1.le
      have HFN : Hid (∀ (w3 : World) (M : List (Ro (d + 1))) (ys : List Value), M = fixD (l.set i y) i → Frs (b :: g :: bss.flatten) w1 w3 → Bx w3 b 96 #[.int .i64 X, .slice (some ⟨g, 0, none⟩) M.length kc] → M.length ≤ kc → (∀ j u, ys[j]? = some u → w3.cell? ⟨g, j, none⟩ = some u) → AllK (fun z => ((z ∈ bss.flatten ∧ z ∉ cs) ∨ w1.heap.size ≤ z) ∨ z ∈ cs ∨ w2.heap.size ≤ z) w3 (d + 1) M ys → Calls Try.prog 57 #[.pointer (some ⟨b, 0, none⟩)] w3 fun e w' => e = .returned (.tuple #[]) ∧ RetR key (d + 2) (.inr l) (.iface 91 (.pointer (some ⟨b, 0, none⟩))) (b :: g :: bss.flatten) w1 (.returned (.bool true)) w') := by
        intro w3 M ys hM hfr hbx hcp hce hak
        have hnb : ∀ z, z ∈ bss.flatten → z ∈ b :: g :: bss.flatten ∧ z ≠ b := fun z hz => ⟨by simp [hz], fun e => HD.out.1 (List.mem_cons_of_mem _ (e ▸ hz))⟩
        have hz2 := HF2.out.2.2.2.1
        have hz3 := hfr.2.2.2.1
        refine rem_fin (cs := cs) (w2 := w2) HBR.out.1 HBR.out.2.1 HBR.out.2.2 ⟨i, HKI.out, hi, y, HDel.out.1, by rw [hM]⟩ HM.out hbx ⟨hcp, hcap.2⟩ hce hak (fun z hz => ?_) (fun z hz => hnb z (HCS.out z hz)) hz2 hfr (by simp) (HOlt.out b (by simp)).2 (by simp) (fun e => HD.out.1 (by rw [e]; simp)) (by have := (HOlt.out g (by simp)).2; omega)
        rcases hz with q | q
        · exact .inl (hnb z q.1)
        · exact .inr q
      have c1 := HNR.out.box.cell 1
      simp at c1
      have cz := HNR.out.box.lt
      have c2 : w2.cell? ⟨g, i, none⟩ = some (.iface 53 (.pointer (some ⟨kb', 0, none⟩))) := HNR.out.row i _ HEq.out.1
      clear hnd hf2 hkb' hm hdel HC cgi p1 hli hasi hcs hsy
      go_wp2_with fail
      (with_reducible refine HSz.out.mono ?_)
      rintro e w3 ⟨rfl, hw3⟩
      subst w3
      by_cases hful : 2 ≤ sy
      · have hd2 : decide ((sy : Int) < 2) = false := decide_eq_false (by omega)
        have hi2 : ¬ (sy : Int) < 2 := by omega
        have HRc : Hid (Calls Try.prog 57 #[.pointer (some ⟨b, 0, none⟩)] w2 fun e w' => e = .returned (.tuple #[]) ∧ RetR key (d + 2) (.inr l) (.iface 91 (.pointer (some ⟨b, 0, none⟩))) (b :: g :: bss.flatten) w1 (.returned (.bool true)) w') := by
          refine HFN.out w2 (l.set i y) xs (fixD_full (y := y) (by simp [hi]) (by rw [← HSy.out]; exact hful)).symm HF2.out ?_ ?_ HNR.out.row HNR.out.all
          · rw [HNR.out.ml]
            exact HNR.out.box
          · rw [HNR.out.ml]
            exact hcap.1
        clear HFN
        go_wp2_with fail
        (with_reducible refine HRc.out.mono ?_)
        rintro e w4 ⟨rfl, hret⟩
        have HRet : Hid (RetR key (d + 2) (.inr l) (.iface 91 (.pointer (some ⟨b, 0, none⟩))) (b :: g :: bss.flatten) w1 (.returned (.bool true)) w4) := hret
        clear hret HRc
        go_wp2
        go_ret
        exact HRet.out
      · have hd2 : decide ((sy : Int) < 2) = true := decide_eq_true (by omega)
        have hi2 : (sy : Int) < 2 := by omega
        have HFu : Hid (Calls Try.prog 131 #[.pointer (some ⟨b, 0, none⟩), .int .i64 (i : Int)] w2 (RetF (fun z => (z ∈ bss.flatten ∧ z ∉ cs) ∨ w1.heap.size ≤ z) w2 d b g kc X (fixD (l.set i y) i) cs)) := by
          refine fillUp_any HNR.out b4 b2 i hiln h' y (by simp [hi]) HDel.out.2.1 HDel.out.2.2.1 (by rw [← HSy.out]; exact hful) (fun j t ht hj => ?_) (fun t ht => ?_)
          · rw [List.getElem?_set_ne (by omega)] at ht
            exact HBal.out.1 t (List.mem_of_getElem? ht)
          · rcases List.mem_or_eq_of_mem_set ht with q | q
            · obtain ⟨k, hk, e⟩ := List.getElem_of_mem q
              have q1 := fit_len (bal_fit (HBal.out.1 t q))
              have q2 := HBal.out.2.2.2 k hk
              rw [e] at q2
              omega
            · rw [q]
              have := HDel.out.2.2.2
              omega
        go_wp2_with fail
        (with_reducible refine HFu.out.mono ?_)
        rintro e w4 ⟨rfl, hf4, ys, hbx4, hcp4, hce4, hak4⟩
        have HRc : Hid (Calls Try.prog 57 #[.pointer (some ⟨b, 0, none⟩)] w4 fun e w' => e = .returned (.tuple #[]) ∧ RetR key (d + 2) (.inr l) (.iface 91 (.pointer (some ⟨b, 0, none⟩))) (b :: g :: bss.flatten) w1 (.returned (.bool true)) w') := by
          refine HFN.out w4 _ ys rfl (HF2.out.trans (hf4.mono (fun z hz => ?_))) hbx4 hcp4 hce4 hak4
          simp only [List.mem_cons] at hz ⊢
          rcases hz with q | q | q
          · exact .inl q
          · exact .inr (.inl q)
          · exact .inr (.inr (HCS.out z q))
        clear hf4 hbx4 hcp4 hce4 hak4 HFN HFu
        go_wp2_with fail
        (with_reducible refine HRc.out.mono ?_)
        rintro e w5 ⟨rfl, hret⟩
        have HRet : Hid (RetR key (d + 2) (.inr l) (.iface 91 (.pointer (some ⟨b, 0, none⟩))) (b :: g :: bss.flatten) w1 (.returned (.bool true)) w5) := hret
        clear hret HRc
        go_wp2
        go_ret
        exact HRet.out
  · have HC : Hid (Calls Try.prog 126 #[.pointer (some ⟨kb, 0, none⟩), .string key] w1 (RetR key (d + 1) l[i] (.iface 91 (.pointer (some ⟨kb, 0, none⟩))) us w1)) := hcall
    clear hcall
    go_wp2_with fail
    (with_reducible refine HC.out.mono ?_)
    rintro e w2 (⟨hm, rfl, hb2⟩ | ⟨hm, rfl, hf2, y, kb', hkb', hdel, hnd⟩)
    · have HR : Hid (RetR key (d + 2) (.inr l) (.iface 91 (.pointer (some ⟨b, 0, none⟩))) (b :: g :: bss.flatten) w1 (.returned (.bool false)) w2) := .inl ⟨fun q => hm ((mem_kid HBal.out.2.1 HBal.out.2.2.1 HKI.out hi).1 q), rfl, hb2⟩
      clear hb2 hm HC
      go_wp2
      go_ret
      exact HR.out
    · have HM : Hid (key ∈ keysR (d + 2) (.inr l)) := (mem_kid HBal.out.2.1 HBal.out.2.2.1 HKI.out hi).2 hm
      have hli := HBal.out.1 _ (List.getElem_mem hi)
      have hasi := asc_kid HBal.out.2.1 i hi
      have HDel : Hid (DelR key (d + 1) l[i] y ∧ BalU (d + 1) y h' ∧ 1 ≤ sizD y ∧ (keysR (d + 1) y).length ≤ 20000) := by
        have q := DelR.bal hli hasi hdel
        have q2 := hli.siz
        exact ⟨hdel, q.1, by omega, DelR.keys hli hasi (HBal.out.2.2.2 i hi) hdel⟩
      have hkk : kb' = kb := hnd.box_eq (.inr rfl)
      have hhd : us.headD 0 = kb := HNd.out.box_eq (.inr rfl)
      subst hkk
      have HSz : Hid (Calls Try.prog 55 #[.pointer (some ⟨kb', 0, none⟩)] w2 fun e w' => e = .returned (.int .i64 (sizD y : Int)) ∧ w' = w2) := hnd.szi.inner
      have HNR : Hid (NR (fun z => (z ∈ bss.flatten ∧ z ∉ bss.map (fun us => us.headD 0)) ∨ w1.heap.size ≤ z) w2 d b g ln kc X (l.set i y) xs (bss.map (fun us => us.headD 0))) := NR.of HX.out HO.out HLn.out hl0 HBl.out HD.out HAll.out i hi _ us HEq.out.1 HEq.out.2.1 hf2 y (by rw [hhd]; exact hnd) HOlt.out
      have HCS : Hid (∀ z, z ∈ bss.map (fun us => us.headD 0) → z ∈ bss.flatten) := fun z hz => by
        obtain ⟨vs, hv, rfl⟩ := List.mem_map.1 hz
        obtain ⟨k, hk, e⟩ := List.getElem_of_mem hv
        obtain ⟨u', us', e1, e2, e3⟩ := HAll.out k (by rw [← HBl.out]; exact hk)
        rw [List.getElem?_eq_getElem hk, e] at e2
        injection e2 with e2
        subst e2
        have q := (e3.nd ((List.pairwise_flatten.1 HD.out.2.2).1 vs hv)).1
        refine List.mem_flatten.2 ⟨vs, hv, ?_⟩
        cases vs with
        | nil => exact absurd rfl q
        | cons a ts => simp
      have HF2 : Hid (Frs (b :: g :: bss.flatten) w1 w2) := hf2.mono (fun z hz => by simp [List.mem_flatten.2 ⟨us, HEq.out.2.2, hz⟩])
      obtain ⟨cs, hcs⟩ : ∃ cs, cs = bss.map (fun us => us.headD 0) := ⟨_, rfl⟩
      rw [← hcs] at HNR HCS
      obtain ⟨sy, hsy⟩ : ∃ sy, sy = sizD y := ⟨_, rfl⟩
      have HSy : Hid (sy = sizD y) := hsy
      rw [← hsy] at HSz
      have hsy4 : sy ≤ 4 := by rw [hsy]; exact HDel.out.2.1.le
      have HFN : Hid (∀ (w3 : World) (M : List (Ro (d + 1))) (ys : List Value), M = fixD (l.set i y) i → Frs (b :: g :: bss.flatten) w1 w3 → Bx w3 b 96 #[.int .i64 X, .slice (some ⟨g, 0, none⟩) M.length kc] → M.length ≤ kc → (∀ j u, ys[j]? = some u → w3.cell? ⟨g, j, none⟩ = some u) → AllK (fun z => ((z ∈ bss.flatten ∧ z ∉ cs) ∨ w1.heap.size ≤ z) ∨ z ∈ cs ∨ w2.heap.size ≤ z) w3 (d + 1) M ys → Calls Try.prog 57 #[.pointer (some ⟨b, 0, none⟩)] w3 fun e w' => e = .returned (.tuple #[]) ∧ RetR key (d + 2) (.inr l) (.iface 91 (.pointer (some ⟨b, 0, none⟩))) (b :: g :: bss.flatten) w1 (.returned (.bool true)) w') := by
        intro w3 M ys hM hfr hbx hcp hce hak
        have hnb : ∀ z, z ∈ bss.flatten → z ∈ b :: g :: bss.flatten ∧ z ≠ b := fun z hz => ⟨by simp [hz], fun e => HD.out.1 (List.mem_cons_of_mem _ (e ▸ hz))⟩
        have hz2 := HF2.out.2.2.2.1
        have hz3 := hfr.2.2.2.1
        refine rem_fin (cs := cs) (w2 := w2) HBR.out.1 HBR.out.2.1 HBR.out.2.2 ⟨i, HKI.out, hi, y, HDel.out.1, by rw [hM]⟩ HM.out hbx ⟨hcp, hcap.2⟩ hce hak (fun z hz => ?_) (fun z hz => hnb z (HCS.out z hz)) hz2 hfr (by simp) (HOlt.out b (by simp)).2 (by simp) (fun e => HD.out.1 (by rw [e]; simp)) (by have := (HOlt.out g (by simp)).2; omega)
        rcases hz with q | q
        · exact .inl (hnb z q.1)
        · exact .inr q
      have c1 := HNR.out.box.cell 1
      simp at c1
      have cz := HNR.out.box.lt
      have c2 : w2.cell? ⟨g, i, none⟩ = some (.iface 91 (.pointer (some ⟨kb', 0, none⟩))) := HNR.out.row i _ HEq.out.1
      clear hnd hf2 hkb' hm hdel HC cgi p1 hli hasi hcs hsy
      go_wp2_with fail
      (with_reducible refine HSz.out.mono ?_)
      rintro e w3 ⟨rfl, hw3⟩
      subst w3
      by_cases hful : 2 ≤ sy
      · have hd2 : decide ((sy : Int) < 2) = false := decide_eq_false (by omega)
        have hi2 : ¬ (sy : Int) < 2 := by omega
        have HRc : Hid (Calls Try.prog 57 #[.pointer (some ⟨b, 0, none⟩)] w2 fun e w' => e = .returned (.tuple #[]) ∧ RetR key (d + 2) (.inr l) (.iface 91 (.pointer (some ⟨b, 0, none⟩))) (b :: g :: bss.flatten) w1 (.returned (.bool true)) w') := by
          refine HFN.out w2 (l.set i y) xs (fixD_full (y := y) (by simp [hi]) (by rw [← HSy.out]; exact hful)).symm HF2.out ?_ ?_ HNR.out.row HNR.out.all
          · rw [HNR.out.ml]
            exact HNR.out.box
          · rw [HNR.out.ml]
            exact hcap.1
        clear HFN
        go_wp2_with fail
        (with_reducible refine HRc.out.mono ?_)
        rintro e w4 ⟨rfl, hret⟩
        have HRet : Hid (RetR key (d + 2) (.inr l) (.iface 91 (.pointer (some ⟨b, 0, none⟩))) (b :: g :: bss.flatten) w1 (.returned (.bool true)) w4) := hret
        clear hret HRc
        go_wp2
        go_ret
        exact HRet.out
      · have hd2 : decide ((sy : Int) < 2) = true := decide_eq_true (by omega)
        have hi2 : (sy : Int) < 2 := by omega
        have HFu : Hid (Calls Try.prog 131 #[.pointer (some ⟨b, 0, none⟩), .int .i64 (i : Int)] w2 (RetF (fun z => (z ∈ bss.flatten ∧ z ∉ cs) ∨ w1.heap.size ≤ z) w2 d b g kc X (fixD (l.set i y) i) cs)) := by
          refine fillUp_any HNR.out b4 b2 i hiln h' y (by simp [hi]) HDel.out.2.1 HDel.out.2.2.1 (by rw [← HSy.out]; exact hful) (fun j t ht hj => ?_) (fun t ht => ?_)
          · rw [List.getElem?_set_ne (by omega)] at ht
            exact HBal.out.1 t (List.mem_of_getElem? ht)
          · rcases List.mem_or_eq_of_mem_set ht with q | q
            · obtain ⟨k, hk, e⟩ := List.getElem_of_mem q
              have q1 := fit_len (bal_fit (HBal.out.1 t q))
              have q2 := HBal.out.2.2.2 k hk
              rw [e] at q2
              omega
            · rw [q]
              have := HDel.out.2.2.2
              omega
        go_wp2_with fail
        (with_reducible refine HFu.out.mono ?_)
        rintro e w4 ⟨rfl, hf4, ys, hbx4, hcp4, hce4, hak4⟩
        have HRc : Hid (Calls Try.prog 57 #[.pointer (some ⟨b, 0, none⟩)] w4 fun e w' => e = .returned (.tuple #[]) ∧ RetR key (d + 2) (.inr l) (.iface 91 (.pointer (some ⟨b, 0, none⟩))) (b :: g :: bss.flatten) w1 (.returned (.bool true)) w') := by
          refine HFN.out w4 _ ys rfl (HF2.out.trans (hf4.mono (fun z hz => ?_))) hbx4 hcp4 hce4 hak4
          simp only [List.mem_cons] at hz ⊢
          rcases hz with q | q | q
          · exact .inl q
          · exact .inr (.inl q)
          · exact .inr (.inr (HCS.out z q))
        clear hf4 hbx4 hcp4 hce4 hak4 HFN HFu
        go_wp2_with fail
        (with_reducible refine HRc.out.mono ?_)
        rintro e w5 ⟨rfl, hret⟩
        have HRet : Hid (RetR key (d + 2) (.inr l) (.iface 91 (.pointer (some ⟨b, 0, none⟩))) (b :: g :: bss.flatten) w1 (.returned (.bool true)) w5) := hret
        clear hret HRc
        go_wp2
        go_ret
        exact HRet.out

theorem remO (key : ByteArray) : ∀ (d : Nat) (t : Ro d) (v : Value) (bs : List Nat) (root : Bool) (h B : Nat) (w : World), TOw B w d t v bs → bs.Nodup → BalR d root t h → Asc (keysR d t) → nodesR d t ≤ 5000 → CallR v key w (RetR key d t v bs w)
  | 0, t, v, bs, root, h, B, w, hO, hd, hbal, ha, hnod => t.elim
  | d + 1, .inl L, v, bs, root, h, B, w, hO, hd, hbal, ha, hnod => remLeafO key d B L v bs w hO hbal.2.1 ha
  | 1, .inr l, v, bs, root, h, B, w, hO, hd, hbal, ha, hnod => by
    obtain ⟨b2, _⟩ := hbal
    cases l with
    | nil => simp at b2
    | cons t ts => exact t.elim
  | d + 2, .inr l, v, bs, root, h, B, w, hO, hd, hbal, ha, hnod => by
    have hbal' := hbal
    obtain ⟨b2, b4, h', rfl, hall⟩ := hbal
    refine remInnerO key d B l v bs w root _ hO hd hbal' ha hnod (fun i hi u us hu hus => ?_)
    exact remO key (d + 1) l[i] u us false h' B w hu hus (hall _ (List.getElem_mem hi)) (asc_kid (show Asc (l.flatMap (keysR (d + 1))) from ha) i hi) (by have := kid_le (d + 1) l i hi; have q : nodesR (d + 1 + 1) (.inr l) ≤ 5000 := hnod; omega)
end Go.Proofs.Ytakemeccigpbaaa
