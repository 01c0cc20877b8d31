import Derived.Test.YtakemeccigpbaaaMu1Q
import Derived.Test.YtakemeccigpbaaaMv1Q
namespace Go.Proofs.Ytakemeccigpbaaa
open Go.RowKit Go.Deep
set_option linter.unusedVariables false
set_option maxRecDepth 100000

/-- The cells of nested trees that can be read. -/
def RdK (w : World) (a : Option Addr) (p : Nat) (xs : List Value) : Prop :=
  xs.length = p * 3 ∧ (∀ u ∈ xs, u.oneCell' = true) ∧ (p = 0 ∨ ∃ b o, a = some ⟨b, o, none⟩ ∧ b < w.heap.size ∧ ∀ j u, xs[j]? = some u → w.cell? ⟨b, o + j, none⟩ = some u)
theorem RdK.below {w w' : World} {a : Option Addr} {p : Nat} {xs : List Value} (h : RdK w a p xs) (hb : Below w.heap.size w w') : RdK w' a p xs := by
  refine ⟨h.1, h.2.1, ?_⟩
  rcases h.2.2 with h | ⟨b, o, e, hl, hc⟩
  · exact Or.inl h
  · exact Or.inr ⟨b, o, e, by have := hb.size; omega, fun j u hj => (hb.cell (p := ⟨b, o + j, none⟩) hl).trans (hc j u hj)⟩
theorem RdK.nil (w : World) (a : Option Addr) : RdK w a 0 [] := ⟨rfl, (by intro u hu; cases hu), Or.inl rfl⟩
theorem own_mono' {w : World} {B B' : Nat} {e : TypeId} {size : Nat} {v : Value} {n : Nat} {xs : List Value} (h : w.ownsRow B e size v n xs) (hB : B' ≤ B) : w.ownsRow B' e size v n xs := by
  refine ⟨h.1, ?_⟩
  rcases h.2 with q | ⟨g, cap, cur, q1, q2, q3⟩
  · exact .inl q
  · exact .inr ⟨g, cap, cur, q1, by omega, q3⟩

theorem step_app_kids {w : World} {ops : Array Oper} {o : Oper} {act : Act} {K : Act → World → Prop} {Q : Exit → Act → World → Prop} {E : Prop} (hgd : o.guard = none) (s x : Operand)
    (ho : o.op = .call { callee := .builtin .append, args := #[s, x], argTypes := #[65, 65] })
    (B : Nat) (v : Value) (n : Nat) (xs : List Value) (hs : act.eval s = v) (hown : w.ownsRow B 67 3 v n xs)
    (a : Option Addr) (m c : Nat) (ys : List Value) (hx : act.eval x = .slice a m c) (hrd : RdK w a m ys) (hnm : n + m ≤ 1048576) (hB : B ≤ w.heap.size)
    (h : ∀ v' w', w'.ownsRow B 67 3 v' (n + m) (xs ++ ys) → w.grownBy w' v.ownBlock → K (act.put o.dst v') w') :
    if Region.wanted o (yielded ops act.tmps) = true then Oper.wp Try.prog o act w K Q else E := by
  have hw : Region.wanted o (yielded ops act.tmps) = true := by simp [Region.wanted, hgd]
  rw [if_pos hw]
  obtain ⟨i0, hi, hz0, hz1, hz2⟩ := info_parts Try.info67
  obtain ⟨hm, hone, hrd⟩ := hrd
  by_cases hm0 : m = 0
  · subst hm0
    have hL : ys = [] := List.length_eq_zero_iff.1 (by omega)
    subst hL
    have hsrc : Src Try.prog i0.size 65 (.slice a 0 c) 0 [] w := by
      cases a with
      | none => exact Src.ofNil w Try.underlying65 c
      | some ad => exact Src.ofSlice w Try.underlying65 ad 0 c [] (by simp) (by simp) (by simp)
    have hsh : ∃ b l cap, v = .slice b l cap ∧ l ≤ cap := by
      rcases hown.2 with ⟨rfl, rfl⟩ | ⟨g, cap, cur, rfl, _, _, h1, _⟩
      · exact ⟨none, 0, 0, rfl, Nat.le_refl _⟩
      · exact ⟨_, n, cap, rfl, h1⟩
    obtain ⟨b, l, cap, hvv, hlc⟩ := hsh
    have hrun := run_append_nothing (P := Try.prog) w 65 65 o.type 67 i0 Try.underlying65 hi b l cap hlc (.slice a 0 c) hsrc
    rw [← hvv] at hrun
    unfold Oper.wp
    simp [execOp, ho, resolve, invoke, builtin, hs, hx, hrun, Result.andThen]
    exact h v w (by simpa using hown) ⟨rfl, rfl, rfl, Nat.le_refl _, fun _ _ _ => rfl⟩
  · rcases hrd with h0 | ⟨b, off, rfl, hl, hc⟩
    · exact absurd h0 hm0
    · exact wp_append_own w s x 65 ho B 67 i0 _ 3 56 Try.underlying65 hi hz0 hz1 hz2 rfl (by decide) v n xs hs hown ⟨b, off, none⟩ m c ys hx hm (fun j u hj => by rw [addr_add]; exact hc j u hj) hone (by unfold maxLen; omega) (by omega) hB (fun v' w' h1 h2 _ => h v' w' h1 h2)

/-- What hands back keys and children laid one behind the other. -/
def RetJ (w : World) (lf : Bool) (n : Nat) (L : List ByteArray) (p : Nat) (xs : List Value) (e : Ending) (w' : World) : Prop :=
  Below w.heap.size w w' ∧ ∃ a1 c1 a2 c2, e = .returned (.agg #[.bool lf, .slice a1 n c1, .slice a2 p c2]) ∧ w'.ownsRow (w.heap.size + 3) 9 1 (.slice a1 n c1) n (strL L) ∧ w'.ownsRow (w.heap.size + 3) 67 3 (.slice a2 p c2) p xs

set_option maxHeartbeats 8000000 in
theorem join_raw (lf lg : Bool) (ka ca kb cb : Option Addr) (n kc p cc m kd q cd : Nat) (La Lb : List ByteArray) (xa xb : List Value) (w : World) (h1 : RdS w ka n (gt La)) (hn : n = La.length) (h2 : RdS w kb m (gt Lb)) (hm : m = Lb.length) (h3 : RdK w ca p xa) (h4 : RdK w cb q xb) (hA : n ≤ 1000 ∧ m ≤ 1000) (hB : p ≤ 1000 ∧ q ≤ 1000) :
    Calls Try.prog 69 #[.agg #[.bool lf, .slice ka n kc, .slice ca p cc], .agg #[.bool lg, .slice kb m kd, .slice cb q cd]] w (RetJ w lf (n + m) (La ++ Lb) (p + q) (xa ++ xb)) := by
  obtain ⟨hA1, hA2⟩ := hA
  obtain ⟨hB1, hB2⟩ := hB
  have HR0 : Hid ((RdS w ka n (gt La) ∧ n = La.length) ∧ (RdS w kb m (gt Lb) ∧ m = Lb.length) ∧ RdK w ca p xa ∧ RdK w cb q xb) := ⟨⟨h1, hn⟩, ⟨h2, hm⟩, h3, h4⟩
  clear h1 h2 h3 h4 hn hm
  go_enter Try.func69, Try.ntmps69
  go_wp2_with fail
  have hbel : Below w.heap.size w (((w.alloc (.cells #[.bool lf, .slice ka n kc, .slice ca p cc] 67)).alloc (.cells #[.bool lg, .slice kb m kd, .slice cb q cd] 67)).alloc (.cells #[.bool false, .slice none 0 0, .slice none 0 0] 67)) := ((below_alloc _ _).alloc (by simp) _).alloc (by simp; omega) _
  have hsz : (((w.alloc (.cells #[.bool lf, .slice ka n kc, .slice ca p cc] 67)).alloc (.cells #[.bool lg, .slice kb m kd, .slice cb q cd] 67)).alloc (.cells #[.bool false, .slice none 0 0, .slice none 0 0] 67)).heap.size = w.heap.size + 3 := by simp
  have b0 := ((Bx.new w #[.bool lf, .slice ka n kc, .slice ca p cc] 67).alloc (.cells #[.bool lg, .slice kb m kd, .slice cb q cd] 67)).alloc (.cells #[.bool false, .slice none 0 0, .slice none 0 0] 67)
  have b1 := (Bx.new (w.alloc (.cells #[.bool lf, .slice ka n kc, .slice ca p cc] 67)) #[.bool lg, .slice kb m kd, .slice cb q cd] 67).alloc (.cells #[.bool false, .slice none 0 0, .slice none 0 0] 67)
  have b2 := Bx.new ((w.alloc (.cells #[.bool lf, .slice ka n kc, .slice ca p cc] 67)).alloc (.cells #[.bool lg, .slice kb m kd, .slice cb q cd] 67)) #[.bool false, .slice none 0 0, .slice none 0 0] 67
  simp only [World.size_alloc] at b1 b2
  generalize ((w.alloc (.cells #[.bool lf, .slice ka n kc, .slice ca p cc] 67)).alloc (.cells #[.bool lg, .slice kb m kd, .slice cb q cd] 67)).alloc (.cells #[.bool false, .slice none 0 0, .slice none 0 0] 67) = W1 at hbel hsz b0 b1 b2 ⊢
  have HBel : Hid (Below w.heap.size w W1.drew) := hbel.drew
  have HSz : Hid (W1.drew.heap.size = w.heap.size + 3) := hsz
  have HBx : Hid (Bx W1.drew (w.heap.size + 2) 67 #[.bool false, .slice none 0 0, .slice none 0 0]) := b2.drew
  have HR : Hid ((RdS W1.drew ka n (gt La) ∧ n = La.length) ∧ (RdS W1.drew kb m (gt Lb) ∧ m = Lb.length) ∧ RdK W1.drew ca p xa ∧ RdK W1.drew cb q xb) := ⟨⟨HR0.out.1.1.below HBel.out, HR0.out.1.2⟩, ⟨HR0.out.2.1.1.below HBel.out, HR0.out.2.1.2⟩, HR0.out.2.2.1.below HBel.out, HR0.out.2.2.2.below HBel.out⟩
  have HKeep : Hid (∀ W', Below W1.drew.heap.size W1.drew W' → W'.cell? ⟨w.heap.size, 0, none⟩ = some (.bool lf) ∧ W'.cell? ⟨w.heap.size, 1, none⟩ = some (.slice ka n kc) ∧ W'.cell? ⟨w.heap.size, 2, none⟩ = some (.slice ca p cc) ∧ W'.cell? ⟨w.heap.size + 1, 1, none⟩ = some (.slice kb m kd) ∧ W'.cell? ⟨w.heap.size + 1, 2, none⟩ = some (.slice cb q cd)) := by
    intro W' hW'
    have q0 := b0.drew.below hW'
    have q1 := b1.drew.below hW'
    exact ⟨by simpa using q0.cell 0, by simpa using q0.cell 1, by simpa using q0.cell 2, by simpa using q1.cell 1, by simpa using q1.cell 2⟩
  clear hbel hsz b0 b1 b2 HR0
  generalize hR : W1.drew = R at HBel HSz HBx HR HKeep
  refine wp_region_late (S := (fun w' => w'.cell? ⟨w.heap.size, 0, none⟩ = some (.bool lf) ∧ w'.cell? ⟨w.heap.size, 1, none⟩ = some (.slice ka n kc) ∧ w'.cell? ⟨w.heap.size, 2, none⟩ = some (.slice ca p cc) ∧ w'.cell? ⟨w.heap.size + 1, 1, none⟩ = some (.slice kb m kd) ∧ w'.cell? ⟨w.heap.size + 1, 2, none⟩ = some (.slice cb q cd))) 17 (by kernel_rfl) ?_ (fun hHeld => ?_)
  · (rw [hR]; exact HKeep.out _ (Below.refl _ _))
  rw [hR] at hHeld ⊢
  clear hR
  refine late_take 0 .zero (v := ?_) (by kernel_rfl) (by kernel_rfl) (by kernel_rfl) (by kernel_rfl) (fun _ _ _ h => h) (by rfl) ?_ (by assumption) ?_
  rotate_left
  · (intro w hSw; (try dsimp only at hSw); go_simp) <;> with_reducible rfl
  simp only [Act.put, List.setIfInBounds_toArray, List.set_cons_zero, List.set_cons_succ]
  refine late_take 1 (.succ .zero) (v := ?_) (by kernel_rfl) (by kernel_rfl) (by kernel_rfl) (by kernel_rfl) (fun _ _ _ h => h) (by rfl) ?_ (by assumption) ?_
  rotate_left
  · (intro w hSw; (try dsimp only at hSw); go_simp) <;> with_reducible rfl
  simp only [Act.put, List.setIfInBounds_toArray, List.set_cons_zero, List.set_cons_succ]
  refine late_take 3 (.succ (.succ (.succ .zero))) (v := ?_) (by kernel_rfl) (by kernel_rfl) (by kernel_rfl) (by kernel_rfl) (fun _ _ _ h => h) (by rfl) ?_ (by assumption) ?_
  rotate_left
  · (intro w hSw; (try dsimp only at hSw); go_simp) <;> with_reducible rfl
  simp only [Act.put, List.setIfInBounds_toArray, List.set_cons_zero, List.set_cons_succ]
  refine late_take 4 (.succ (.succ (.succ (.succ .zero)))) (v := ?_) (by kernel_rfl) (by kernel_rfl) (by kernel_rfl) (by kernel_rfl) (fun _ _ _ h => h) (by rfl) ?_ (by assumption) ?_
  rotate_left
  · (intro w hSw; (try dsimp only at hSw); go_simp) <;> with_reducible rfl
  simp only [Act.put, List.setIfInBounds_toArray, List.set_cons_zero, List.set_cons_succ]
  refine late_take 6 (.succ (.succ (.succ (.succ (.succ (.succ .zero)))))) (v := ?_) (by kernel_rfl) (by kernel_rfl) (by kernel_rfl) (by kernel_rfl) (fun _ _ _ h => h) (by rfl) ?_ (by assumption) ?_
  rotate_left
  · (intro w hSw; (try dsimp only at hSw); go_simp) <;> with_reducible rfl
  simp only [Act.put, List.setIfInBounds_toArray, List.set_cons_zero, List.set_cons_succ]
  refine late_take 7 (.succ (.succ (.succ (.succ (.succ (.succ (.succ .zero))))))) (v := ?_) (by kernel_rfl) (by kernel_rfl) (by kernel_rfl) (by kernel_rfl) (fun _ _ _ h => h) (by rfl) ?_ (by assumption) ?_
  rotate_left
  · (intro w hSw; (try dsimp only at hSw); go_simp) <;> with_reducible rfl
  simp only [Act.put, List.setIfInBounds_toArray, List.set_cons_zero, List.set_cons_succ]
  refine late_take 10 (.succ (.succ (.succ (.succ (.succ (.succ (.succ (.succ (.succ (.succ .zero)))))))))) (v := ?_) (by kernel_rfl) (by kernel_rfl) (by kernel_rfl) (by kernel_rfl) (fun _ _ _ h => h) (by rfl) ?_ (by assumption) ?_
  rotate_left
  · (intro w hSw; (try dsimp only at hSw); go_simp) <;> with_reducible rfl
  simp only [Act.put, List.setIfInBounds_toArray, List.set_cons_zero, List.set_cons_succ]
  refine late_take 11 (.succ (.succ (.succ (.succ (.succ (.succ (.succ (.succ (.succ (.succ (.succ .zero))))))))))) (v := ?_) (by kernel_rfl) (by kernel_rfl) (by kernel_rfl) (by kernel_rfl) (fun _ _ _ h => h) (by rfl) ?_ (by assumption) ?_
  rotate_left
  · (intro w hSw; (try dsimp only at hSw); go_simp) <;> with_reducible rfl
  simp only [Act.put, List.setIfInBounds_toArray, List.set_cons_zero, List.set_cons_succ]
  refine late_take 13 (.succ (.succ (.succ (.succ (.succ (.succ (.succ (.succ (.succ (.succ (.succ (.succ (.succ .zero))))))))))))) (v := ?_) (by kernel_rfl) (by kernel_rfl) (by kernel_rfl) (by kernel_rfl) (fun _ _ _ h => h) (by rfl) ?_ (by assumption) ?_
  rotate_left
  · (intro w hSw; (try dsimp only at hSw); go_simp) <;> with_reducible rfl
  simp only [Act.put, List.setIfInBounds_toArray, List.set_cons_zero, List.set_cons_succ]
  refine late_take 14 (.succ (.succ (.succ (.succ (.succ (.succ (.succ (.succ (.succ (.succ (.succ (.succ (.succ (.succ .zero)))))))))))))) (v := ?_) (by kernel_rfl) (by kernel_rfl) (by kernel_rfl) (by kernel_rfl) (fun _ _ _ h => h) (by rfl) ?_ (by assumption) ?_
  rotate_left
  · (intro w hSw; (try dsimp only at hSw); go_simp) <;> with_reducible rfl
  simp only [Act.put, List.setIfInBounds_toArray, List.set_cons_zero, List.set_cons_succ]
  refine late_two 2 9 (.succ (.succ .zero)) (.succ (.succ (.succ (.succ (.succ (.succ (.succ (.succ (.succ .zero))))))))) (by kernel_rfl) (fun K hK => ?_) (fun K hK => ?_)
  · skip
    go_simp
    have bel_2 : Below R.heap.size R (R.alloc (.cells #[] 9)) := (Below.refl R.heap.size R).alloc (Below.refl R.heap.size R).size _
    have ownA_2 : (R.alloc (.cells #[] 9)).ownsRow R.heap.size 9 1 (.slice (some ⟨R.heap.size, 0, none⟩) 0 0) 0 [] := by simpa using own_empty R 9 R.heap.size 1 (Below.refl R.heap.size R).size
    refine hK.out _ _ ?_ (fun hHeld2 => ?_)
    · (intro _; exact HKeep.out _ bel_2)
    clear hK K
    replace hHeld := hHeld2 (by decide)
    clear hHeld2
    try simp only [Act.put, List.setIfInBounds_toArray, List.set_cons_zero, List.set_cons_succ]
    refine late_two 5 9 (.succ (.succ (.succ (.succ (.succ .zero))))) (.succ (.succ (.succ (.succ (.succ (.succ (.succ (.succ (.succ .zero))))))))) (by kernel_rfl) (fun K hK => ?_) (fun K hK => ?_)
    · skip
      refine step_app_strs (by rfl) (.tmp 7) (.tmp 9) (by rfl) R.heap.size (.slice (some ⟨R.heap.size, 0, none⟩) 0 0) 0 [] (by rfl) ownA_2 ka n kc La (by rfl) HR.out.1.2 (HR.out.1.1.below (bel_2)) (by omega) bel_2.size ?_
      intro v5_2_5 w5_2_5 ho_2_5 hg_2_5
      rw [Nat.zero_add, List.nil_append] at ho_2_5
      have bel_2_5 : Below R.heap.size R w5_2_5 := bel_2.grown hg_2_5 bel_2.size (fun g e => (own_lt ownA_2 g e).1)
      refine hK.out _ _ ?_ (fun hHeld2 => ?_)
      · (intro _; exact HKeep.out _ bel_2_5)
      clear hK K
      replace hHeld := hHeld2 (by decide)
      clear hHeld2
      try simp only [Act.put, List.setIfInBounds_toArray, List.set_cons_zero, List.set_cons_succ]
      refine late_two 8 9 (.succ (.succ (.succ (.succ (.succ (.succ (.succ (.succ .zero)))))))) (.succ (.succ (.succ (.succ (.succ (.succ (.succ (.succ (.succ .zero))))))))) (by kernel_rfl) (fun K hK => ?_) (fun K hK => ?_)
      · skip
        refine step_app_strs (by rfl) (.tmp 10) (.tmp 12) (by rfl) R.heap.size v5_2_5 n (strL La) (by rfl) ho_2_5 kb m kd Lb (by rfl) HR.out.2.1.2 (HR.out.2.1.1.below (bel_2_5)) (by omega) bel_2_5.size ?_
        intro v8_2_5_8 w8_2_5_8 ho_2_5_8 hg_2_5_8
        have bel_2_5_8 : Below R.heap.size R w8_2_5_8 := bel_2_5.grown hg_2_5_8 bel_2_5.size (fun g e => (own_lt ho_2_5 g e).1)
        refine hK.out _ _ ?_ (fun hHeld2 => ?_)
        · (intro _; exact HKeep.out _ bel_2_5_8)
        clear hK K
        replace hHeld := hHeld2 (by decide)
        clear hHeld2
        try simp only [Act.put, List.setIfInBounds_toArray, List.set_cons_zero, List.set_cons_succ]
        refine late_one 9 (.succ (.succ (.succ (.succ (.succ (.succ (.succ (.succ (.succ .zero))))))))) (by kernel_rfl) (fun K hK => ?_)
        go_simp
        have bel_2_5_8_9 : Below R.heap.size R (w8_2_5_8.alloc (.cells #[] 67)) := bel_2_5_8.alloc bel_2_5_8.size _
        have ownB_2_5_8_9 : (w8_2_5_8.alloc (.cells #[] 67)).ownsRow R.heap.size 67 3 (.slice (some ⟨w8_2_5_8.heap.size, 0, none⟩) 0 0) 0 [] := by simpa using own_empty w8_2_5_8 67 R.heap.size 3 bel_2_5_8.size
        have ownA_2_5_8_9 := own_below ho_2_5_8 (below_alloc w8_2_5_8 (.cells #[] 67))
        refine hK.out _ _ ?_ (fun hHeld2 => ?_)
        · (intro _; exact HKeep.out _ bel_2_5_8_9)
        clear hK K
        replace hHeld := hHeld2 (by decide)
        clear hHeld2
        try simp only [Act.put, List.setIfInBounds_toArray, List.set_cons_zero, List.set_cons_succ]
        refine late_one 12 (.succ (.succ (.succ (.succ (.succ (.succ (.succ (.succ (.succ (.succ (.succ (.succ .zero)))))))))))) (by kernel_rfl) (fun K hK => ?_)
        refine step_app_kids (by rfl) (.tmp 14) (.tmp 16) (by rfl) R.heap.size (.slice (some ⟨w8_2_5_8.heap.size, 0, none⟩) 0 0) 0 [] (by rfl) ownB_2_5_8_9 ca p cc xa (by rfl) (HR.out.2.2.1.below (bel_2_5_8_9)) (by omega) bel_2_5_8_9.size ?_
        intro v12_2_5_8_9_12 w12_2_5_8_9_12 ho_2_5_8_9_12 hg_2_5_8_9_12
        rw [Nat.zero_add, List.nil_append] at ho_2_5_8_9_12
        have bel_2_5_8_9_12 : Below R.heap.size R w12_2_5_8_9_12 := bel_2_5_8_9.grown hg_2_5_8_9_12 bel_2_5_8_9.size (fun g e => (own_lt ownB_2_5_8_9 g e).1)
        have ownA_2_5_8_9_12 := own_other ownA_2_5_8_9 ownB_2_5_8_9 (by decide) hg_2_5_8_9_12
        refine hK.out _ _ ?_ (fun hHeld2 => ?_)
        · (intro _; exact HKeep.out _ bel_2_5_8_9_12)
        clear hK K
        replace hHeld := hHeld2 (by decide)
        clear hHeld2
        try simp only [Act.put, List.setIfInBounds_toArray, List.set_cons_zero, List.set_cons_succ]
        refine late_one 15 (.succ (.succ (.succ (.succ (.succ (.succ (.succ (.succ (.succ (.succ (.succ (.succ (.succ (.succ (.succ .zero))))))))))))))) (by kernel_rfl) (fun K hK => ?_)
        refine step_app_kids (by rfl) (.tmp 17) (.tmp 19) (by rfl) R.heap.size v12_2_5_8_9_12 p xa (by rfl) ho_2_5_8_9_12 cb q cd xb (by rfl) (HR.out.2.2.2.below (bel_2_5_8_9_12)) (by omega) bel_2_5_8_9_12.size ?_
        intro v15_2_5_8_9_12_15 w15_2_5_8_9_12_15 ho_2_5_8_9_12_15 hg_2_5_8_9_12_15
        have bel_2_5_8_9_12_15 : Below R.heap.size R w15_2_5_8_9_12_15 := bel_2_5_8_9_12.grown hg_2_5_8_9_12_15 bel_2_5_8_9_12.size (fun g e => (own_lt ho_2_5_8_9_12 g e).1)
        have ownA_2_5_8_9_12_15 := own_other ownA_2_5_8_9_12 ho_2_5_8_9_12 (by decide) hg_2_5_8_9_12_15
        refine hK.out _ _ ?_ (fun hHeld2 => ?_)
        · (intro _; exact HKeep.out _ bel_2_5_8_9_12_15)
        clear hK K
        replace hHeld := hHeld2 (by decide)
        clear hHeld2
        try simp only [Act.put, List.setIfInBounds_toArray, List.set_cons_zero, List.set_cons_succ]
        obtain ⟨aA, cA, eA, _⟩ := own_form ownA_2_5_8_9_12_15
        obtain ⟨aB, cB, eB, _⟩ := own_form ho_2_5_8_9_12_15
        subst eA eB
        have HE : Hid (w15_2_5_8_9_12_15.ownsRow R.heap.size 9 1 (.slice aA (n + m) cA) (n + m) (strL La ++ strL Lb) ∧ w15_2_5_8_9_12_15.ownsRow R.heap.size 67 3 (.slice aB (p + q) cB) (p + q) (xa ++ xb) ∧ Below R.heap.size R w15_2_5_8_9_12_15) := ⟨ownA_2_5_8_9_12_15, ho_2_5_8_9_12_15, bel_2_5_8_9_12_15⟩
        have hbx := HBx.out.below bel_2_5_8_9_12_15
        have r0 := hbx.cell 0
        have r1 := hbx.cell 1
        have r2 := hbx.cell 2
        simp at r0 r1 r2
        have hf := fun i => hbx.frozen i
        refine late_one 16 (.succ (.succ (.succ (.succ (.succ (.succ (.succ (.succ (.succ (.succ (.succ (.succ (.succ (.succ (.succ (.succ .zero)))))))))))))))) (by kernel_rfl) (fun K hK => ?_)
        go_simp
        refine hK.out _ _ ?_ (fun hHeld2 => ?_)
        · (intro _; exact HKeep.out _ bel_2_5_8_9_12_15)
        clear hK K
        replace hHeld := hHeld2 (by decide)
        clear hHeld2
        try simp only [Act.put, List.setIfInBounds_toArray, List.set_cons_zero, List.set_cons_succ]
        refine late_one 17 (.succ (.succ (.succ (.succ (.succ (.succ (.succ (.succ (.succ (.succ (.succ (.succ (.succ (.succ (.succ (.succ (.succ .zero))))))))))))))))) (by kernel_rfl) (fun K hK => ?_)
        go_simp
        refine hK.out _ _ ?_ (fun hHeld2 => ?_)
        · (intro hne; exact absurd rfl hne)
        clear hK K hHeld2
        refine wpLate_done (by kernel_rfl) ?_ _
        clear hHeld hbx
        go_wp2
        refine bodyPost_ret (v := .agg #[.bool lf, .slice aA (n + m) cA, .slice aB (p + q) cB]) (by simp [results, Try.results69, go_sem, r0, r1, r2]) rfl ?_
        have hz := HSz.out
        exact ⟨set3_below (HBel.out.trans (HE.out.2.2.mono HBel.out.size)) _ (by omega) _ _ _, aA, cA, aB, cB, rfl, by rw [strL_app]; exact own_set (own_set (own_set (own_mono' HE.out.1 (by omega)) _ _ (by simp)) _ _ (by simp)) _ _ (by simp), own_set (own_set (own_set (own_mono' HE.out.2.1 (by omega)) _ _ (by simp)) _ _ (by simp)) _ _ (by simp)⟩
      · skip
        go_simp
        have bel_2_5_9 : Below R.heap.size R (w5_2_5.alloc (.cells #[] 67)) := bel_2_5.alloc bel_2_5.size _
        have ownB_2_5_9 : (w5_2_5.alloc (.cells #[] 67)).ownsRow R.heap.size 67 3 (.slice (some ⟨w5_2_5.heap.size, 0, none⟩) 0 0) 0 [] := by simpa using own_empty w5_2_5 67 R.heap.size 3 bel_2_5.size
        have ownA_2_5_9 := own_below ho_2_5 (below_alloc w5_2_5 (.cells #[] 67))
        refine hK.out _ _ ?_ (fun hHeld2 => ?_)
        · (intro _; exact HKeep.out _ bel_2_5_9)
        clear hK K
        replace hHeld := hHeld2 (by decide)
        clear hHeld2
        try simp only [Act.put, List.setIfInBounds_toArray, List.set_cons_zero, List.set_cons_succ]
        refine late_one 8 (.succ (.succ (.succ (.succ (.succ (.succ (.succ (.succ .zero)))))))) (by kernel_rfl) (fun K hK => ?_)
        refine step_app_strs (by rfl) (.tmp 10) (.tmp 12) (by rfl) R.heap.size v5_2_5 n (strL La) (by rfl) ownA_2_5_9 kb m kd Lb (by rfl) HR.out.2.1.2 (HR.out.2.1.1.below (bel_2_5_9)) (by omega) bel_2_5_9.size ?_
        intro v8_2_5_9_8 w8_2_5_9_8 ho_2_5_9_8 hg_2_5_9_8
        have bel_2_5_9_8 : Below R.heap.size R w8_2_5_9_8 := bel_2_5_9.grown hg_2_5_9_8 bel_2_5_9.size (fun g e => (own_lt ownA_2_5_9 g e).1)
        have ownB_2_5_9_8 := own_other ownB_2_5_9 ownA_2_5_9 (by decide) hg_2_5_9_8
        refine hK.out _ _ ?_ (fun hHeld2 => ?_)
        · (intro _; exact HKeep.out _ bel_2_5_9_8)
        clear hK K
        replace hHeld := hHeld2 (by decide)
        clear hHeld2
        try simp only [Act.put, List.setIfInBounds_toArray, List.set_cons_zero, List.set_cons_succ]
        refine late_one 12 (.succ (.succ (.succ (.succ (.succ (.succ (.succ (.succ (.succ (.succ (.succ (.succ .zero)))))))))))) (by kernel_rfl) (fun K hK => ?_)
        refine step_app_kids (by rfl) (.tmp 14) (.tmp 16) (by rfl) R.heap.size (.slice (some ⟨w5_2_5.heap.size, 0, none⟩) 0 0) 0 [] (by rfl) ownB_2_5_9_8 ca p cc xa (by rfl) (HR.out.2.2.1.below (bel_2_5_9_8)) (by omega) bel_2_5_9_8.size ?_
        intro v12_2_5_9_8_12 w12_2_5_9_8_12 ho_2_5_9_8_12 hg_2_5_9_8_12
        rw [Nat.zero_add, List.nil_append] at ho_2_5_9_8_12
        have bel_2_5_9_8_12 : Below R.heap.size R w12_2_5_9_8_12 := bel_2_5_9_8.grown hg_2_5_9_8_12 bel_2_5_9_8.size (fun g e => (own_lt ownB_2_5_9_8 g e).1)
        have ownA_2_5_9_8_12 := own_other ho_2_5_9_8 ownB_2_5_9_8 (by decide) hg_2_5_9_8_12
        refine hK.out _ _ ?_ (fun hHeld2 => ?_)
        · (intro _; exact HKeep.out _ bel_2_5_9_8_12)
        clear hK K
        replace hHeld := hHeld2 (by decide)
        clear hHeld2
        try simp only [Act.put, List.setIfInBounds_toArray, List.set_cons_zero, List.set_cons_succ]
        refine late_one 15 (.succ (.succ (.succ (.succ (.succ (.succ (.succ (.succ (.succ (.succ (.succ (.succ (.succ (.succ (.succ .zero))))))))))))))) (by kernel_rfl) (fun K hK => ?_)
        refine step_app_kids (by rfl) (.tmp 17) (.tmp 19) (by rfl) R.heap.size v12_2_5_9_8_12 p xa (by rfl) ho_2_5_9_8_12 cb q cd xb (by rfl) (HR.out.2.2.2.below (bel_2_5_9_8_12)) (by omega) bel_2_5_9_8_12.size ?_
        intro v15_2_5_9_8_12_15 w15_2_5_9_8_12_15 ho_2_5_9_8_12_15 hg_2_5_9_8_12_15
        have bel_2_5_9_8_12_15 : Below R.heap.size R w15_2_5_9_8_12_15 := bel_2_5_9_8_12.grown hg_2_5_9_8_12_15 bel_2_5_9_8_12.size (fun g e => (own_lt ho_2_5_9_8_12 g e).1)
        have ownA_2_5_9_8_12_15 := own_other ownA_2_5_9_8_12 ho_2_5_9_8_12 (by decide) hg_2_5_9_8_12_15
        refine hK.out _ _ ?_ (fun hHeld2 => ?_)
        · (intro _; exact HKeep.out _ bel_2_5_9_8_12_15)
        clear hK K
        replace hHeld := hHeld2 (by decide)
        clear hHeld2
        try simp only [Act.put, List.setIfInBounds_toArray, List.set_cons_zero, List.set_cons_succ]
        obtain ⟨aA, cA, eA, _⟩ := own_form ownA_2_5_9_8_12_15
        obtain ⟨aB, cB, eB, _⟩ := own_form ho_2_5_9_8_12_15
        subst eA eB
        have HE : Hid (w15_2_5_9_8_12_15.ownsRow R.heap.size 9 1 (.slice aA (n + m) cA) (n + m) (strL La ++ strL Lb) ∧ w15_2_5_9_8_12_15.ownsRow R.heap.size 67 3 (.slice aB (p + q) cB) (p + q) (xa ++ xb) ∧ Below R.heap.size R w15_2_5_9_8_12_15) := ⟨ownA_2_5_9_8_12_15, ho_2_5_9_8_12_15, bel_2_5_9_8_12_15⟩
        have hbx := HBx.out.below bel_2_5_9_8_12_15
        have r0 := hbx.cell 0
        have r1 := hbx.cell 1
        have r2 := hbx.cell 2
        simp at r0 r1 r2
        have hf := fun i => hbx.frozen i
        refine late_one 16 (.succ (.succ (.succ (.succ (.succ (.succ (.succ (.succ (.succ (.succ (.succ (.succ (.succ (.succ (.succ (.succ .zero)))))))))))))))) (by kernel_rfl) (fun K hK => ?_)
        go_simp
        refine hK.out _ _ ?_ (fun hHeld2 => ?_)
        · (intro _; exact HKeep.out _ bel_2_5_9_8_12_15)
        clear hK K
        replace hHeld := hHeld2 (by decide)
        clear hHeld2
        try simp only [Act.put, List.setIfInBounds_toArray, List.set_cons_zero, List.set_cons_succ]
        refine late_one 17 (.succ (.succ (.succ (.succ (.succ (.succ (.succ (.succ (.succ (.succ (.succ (.succ (.succ (.succ (.succ (.succ (.succ .zero))))))))))))))))) (by kernel_rfl) (fun K hK => ?_)
        go_simp
        refine hK.out _ _ ?_ (fun hHeld2 => ?_)
        · (intro hne; exact absurd rfl hne)
        clear hK K hHeld2
        refine wpLate_done (by kernel_rfl) ?_ _
        clear hHeld hbx
        go_wp2
        refine bodyPost_ret (v := .agg #[.bool lf, .slice aA (n + m) cA, .slice aB (p + q) cB]) (by simp [results, Try.results69, go_sem, r0, r1, r2]) rfl ?_
        have hz := HSz.out
        exact ⟨set3_below (HBel.out.trans (HE.out.2.2.mono HBel.out.size)) _ (by omega) _ _ _, aA, cA, aB, cB, rfl, by rw [strL_app]; exact own_set (own_set (own_set (own_mono' HE.out.1 (by omega)) _ _ (by simp)) _ _ (by simp)) _ _ (by simp), own_set (own_set (own_set (own_mono' HE.out.2.1 (by omega)) _ _ (by simp)) _ _ (by simp)) _ _ (by simp)⟩
    · skip
      go_simp
      have bel_2_9 : Below R.heap.size R ((R.alloc (.cells #[] 9)).alloc (.cells #[] 67)) := bel_2.alloc bel_2.size _
      have ownB_2_9 : ((R.alloc (.cells #[] 9)).alloc (.cells #[] 67)).ownsRow R.heap.size 67 3 (.slice (some ⟨R.heap.size + 1, 0, none⟩) 0 0) 0 [] := by simpa using own_empty (R.alloc (.cells #[] 9)) 67 R.heap.size 3 bel_2.size
      have ownA_2_9 := own_below ownA_2 (below_alloc (R.alloc (.cells #[] 9)) (.cells #[] 67))
      refine hK.out _ _ ?_ (fun hHeld2 => ?_)
      · (intro _; exact HKeep.out _ bel_2_9)
      clear hK K
      replace hHeld := hHeld2 (by decide)
      clear hHeld2
      try simp only [Act.put, List.setIfInBounds_toArray, List.set_cons_zero, List.set_cons_succ]
      refine late_one 5 (.succ (.succ (.succ (.succ (.succ .zero))))) (by kernel_rfl) (fun K hK => ?_)
      refine step_app_strs (by rfl) (.tmp 7) (.tmp 9) (by rfl) R.heap.size (.slice (some ⟨R.heap.size, 0, none⟩) 0 0) 0 [] (by rfl) ownA_2_9 ka n kc La (by rfl) HR.out.1.2 (HR.out.1.1.below (bel_2_9)) (by omega) bel_2_9.size ?_
      intro v5_2_9_5 w5_2_9_5 ho_2_9_5 hg_2_9_5
      rw [Nat.zero_add, List.nil_append] at ho_2_9_5
      have bel_2_9_5 : Below R.heap.size R w5_2_9_5 := bel_2_9.grown hg_2_9_5 bel_2_9.size (fun g e => (own_lt ownA_2_9 g e).1)
      have ownB_2_9_5 := own_other ownB_2_9 ownA_2_9 (by decide) hg_2_9_5
      refine hK.out _ _ ?_ (fun hHeld2 => ?_)
      · (intro _; exact HKeep.out _ bel_2_9_5)
      clear hK K
      replace hHeld := hHeld2 (by decide)
      clear hHeld2
      try simp only [Act.put, List.setIfInBounds_toArray, List.set_cons_zero, List.set_cons_succ]
      refine late_one 8 (.succ (.succ (.succ (.succ (.succ (.succ (.succ (.succ .zero)))))))) (by kernel_rfl) (fun K hK => ?_)
      refine step_app_strs (by rfl) (.tmp 10) (.tmp 12) (by rfl) R.heap.size v5_2_9_5 n (strL La) (by rfl) ho_2_9_5 kb m kd Lb (by rfl) HR.out.2.1.2 (HR.out.2.1.1.below (bel_2_9_5)) (by omega) bel_2_9_5.size ?_
      intro v8_2_9_5_8 w8_2_9_5_8 ho_2_9_5_8 hg_2_9_5_8
      have bel_2_9_5_8 : Below R.heap.size R w8_2_9_5_8 := bel_2_9_5.grown hg_2_9_5_8 bel_2_9_5.size (fun g e => (own_lt ho_2_9_5 g e).1)
      have ownB_2_9_5_8 := own_other ownB_2_9_5 ho_2_9_5 (by decide) hg_2_9_5_8
      refine hK.out _ _ ?_ (fun hHeld2 => ?_)
      · (intro _; exact HKeep.out _ bel_2_9_5_8)
      clear hK K
      replace hHeld := hHeld2 (by decide)
      clear hHeld2
      try simp only [Act.put, List.setIfInBounds_toArray, List.set_cons_zero, List.set_cons_succ]
      refine late_one 12 (.succ (.succ (.succ (.succ (.succ (.succ (.succ (.succ (.succ (.succ (.succ (.succ .zero)))))))))))) (by kernel_rfl) (fun K hK => ?_)
      refine step_app_kids (by rfl) (.tmp 14) (.tmp 16) (by rfl) R.heap.size (.slice (some ⟨R.heap.size + 1, 0, none⟩) 0 0) 0 [] (by rfl) ownB_2_9_5_8 ca p cc xa (by rfl) (HR.out.2.2.1.below (bel_2_9_5_8)) (by omega) bel_2_9_5_8.size ?_
      intro v12_2_9_5_8_12 w12_2_9_5_8_12 ho_2_9_5_8_12 hg_2_9_5_8_12
      rw [Nat.zero_add, List.nil_append] at ho_2_9_5_8_12
      have bel_2_9_5_8_12 : Below R.heap.size R w12_2_9_5_8_12 := bel_2_9_5_8.grown hg_2_9_5_8_12 bel_2_9_5_8.size (fun g e => (own_lt ownB_2_9_5_8 g e).1)
      have ownA_2_9_5_8_12 := own_other ho_2_9_5_8 ownB_2_9_5_8 (by decide) hg_2_9_5_8_12
      refine hK.out _ _ ?_ (fun hHeld2 => ?_)
      · (intro _; exact HKeep.out _ bel_2_9_5_8_12)
      clear hK K
      replace hHeld := hHeld2 (by decide)
      clear hHeld2
      try simp only [Act.put, List.setIfInBounds_toArray, List.set_cons_zero, List.set_cons_succ]
      refine late_one 15 (.succ (.succ (.succ (.succ (.succ (.succ (.succ (.succ (.succ (.succ (.succ (.succ (.succ (.succ (.succ .zero))))))))))))))) (by kernel_rfl) (fun K hK => ?_)
      refine step_app_kids (by rfl) (.tmp 17) (.tmp 19) (by rfl) R.heap.size v12_2_9_5_8_12 p xa (by rfl) ho_2_9_5_8_12 cb q cd xb (by rfl) (HR.out.2.2.2.below (bel_2_9_5_8_12)) (by omega) bel_2_9_5_8_12.size ?_
      intro v15_2_9_5_8_12_15 w15_2_9_5_8_12_15 ho_2_9_5_8_12_15 hg_2_9_5_8_12_15
      have bel_2_9_5_8_12_15 : Below R.heap.size R w15_2_9_5_8_12_15 := bel_2_9_5_8_12.grown hg_2_9_5_8_12_15 bel_2_9_5_8_12.size (fun g e => (own_lt ho_2_9_5_8_12 g e).1)
      have ownA_2_9_5_8_12_15 := own_other ownA_2_9_5_8_12 ho_2_9_5_8_12 (by decide) hg_2_9_5_8_12_15
      refine hK.out _ _ ?_ (fun hHeld2 => ?_)
      · (intro _; exact HKeep.out _ bel_2_9_5_8_12_15)
      clear hK K
      replace hHeld := hHeld2 (by decide)
      clear hHeld2
      try simp only [Act.put, List.setIfInBounds_toArray, List.set_cons_zero, List.set_cons_succ]
      obtain ⟨aA, cA, eA, _⟩ := own_form ownA_2_9_5_8_12_15
      obtain ⟨aB, cB, eB, _⟩ := own_form ho_2_9_5_8_12_15
      subst eA eB
      have HE : Hid (w15_2_9_5_8_12_15.ownsRow R.heap.size 9 1 (.slice aA (n + m) cA) (n + m) (strL La ++ strL Lb) ∧ w15_2_9_5_8_12_15.ownsRow R.heap.size 67 3 (.slice aB (p + q) cB) (p + q) (xa ++ xb) ∧ Below R.heap.size R w15_2_9_5_8_12_15) := ⟨ownA_2_9_5_8_12_15, ho_2_9_5_8_12_15, bel_2_9_5_8_12_15⟩
      have hbx := HBx.out.below bel_2_9_5_8_12_15
      have r0 := hbx.cell 0
      have r1 := hbx.cell 1
      have r2 := hbx.cell 2
      simp at r0 r1 r2
      have hf := fun i => hbx.frozen i
      refine late_one 16 (.succ (.succ (.succ (.succ (.succ (.succ (.succ (.succ (.succ (.succ (.succ (.succ (.succ (.succ (.succ (.succ .zero)))))))))))))))) (by kernel_rfl) (fun K hK => ?_)
      go_simp
      refine hK.out _ _ ?_ (fun hHeld2 => ?_)
      · (intro _; exact HKeep.out _ bel_2_9_5_8_12_15)
      clear hK K
      replace hHeld := hHeld2 (by decide)
      clear hHeld2
      try simp only [Act.put, List.setIfInBounds_toArray, List.set_cons_zero, List.set_cons_succ]
      refine late_one 17 (.succ (.succ (.succ (.succ (.succ (.succ (.succ (.succ (.succ (.succ (.succ (.succ (.succ (.succ (.succ (.succ (.succ .zero))))))))))))))))) (by kernel_rfl) (fun K hK => ?_)
      go_simp
      refine hK.out _ _ ?_ (fun hHeld2 => ?_)
      · (intro hne; exact absurd rfl hne)
      clear hK K hHeld2
      refine wpLate_done (by kernel_rfl) ?_ _
      clear hHeld hbx
      go_wp2
      refine bodyPost_ret (v := .agg #[.bool lf, .slice aA (n + m) cA, .slice aB (p + q) cB]) (by simp [results, Try.results69, go_sem, r0, r1, r2]) rfl ?_
      have hz := HSz.out
      exact ⟨set3_below (HBel.out.trans (HE.out.2.2.mono HBel.out.size)) _ (by omega) _ _ _, aA, cA, aB, cB, rfl, by rw [strL_app]; exact own_set (own_set (own_set (own_mono' HE.out.1 (by omega)) _ _ (by simp)) _ _ (by simp)) _ _ (by simp), own_set (own_set (own_set (own_mono' HE.out.2.1 (by omega)) _ _ (by simp)) _ _ (by simp)) _ _ (by simp)⟩
  · skip
    go_simp
    have bel_9 : Below R.heap.size R (R.alloc (.cells #[] 67)) := (Below.refl R.heap.size R).alloc (Below.refl R.heap.size R).size _
    have ownB_9 : (R.alloc (.cells #[] 67)).ownsRow R.heap.size 67 3 (.slice (some ⟨R.heap.size, 0, none⟩) 0 0) 0 [] := by simpa using own_empty R 67 R.heap.size 3 (Below.refl R.heap.size R).size
    refine hK.out _ _ ?_ (fun hHeld2 => ?_)
    · (intro _; exact HKeep.out _ bel_9)
    clear hK K
    replace hHeld := hHeld2 (by decide)
    clear hHeld2
    try simp only [Act.put, List.setIfInBounds_toArray, List.set_cons_zero, List.set_cons_succ]
    refine late_one 2 (.succ (.succ .zero)) (by kernel_rfl) (fun K hK => ?_)
    go_simp
    have bel_9_2 : Below R.heap.size R ((R.alloc (.cells #[] 67)).alloc (.cells #[] 9)) := bel_9.alloc bel_9.size _
    have ownA_9_2 : ((R.alloc (.cells #[] 67)).alloc (.cells #[] 9)).ownsRow R.heap.size 9 1 (.slice (some ⟨R.heap.size + 1, 0, none⟩) 0 0) 0 [] := by simpa using own_empty (R.alloc (.cells #[] 67)) 9 R.heap.size 1 bel_9.size
    have ownB_9_2 := own_below ownB_9 (below_alloc (R.alloc (.cells #[] 67)) (.cells #[] 9))
    refine hK.out _ _ ?_ (fun hHeld2 => ?_)
    · (intro _; exact HKeep.out _ bel_9_2)
    clear hK K
    replace hHeld := hHeld2 (by decide)
    clear hHeld2
    try simp only [Act.put, List.setIfInBounds_toArray, List.set_cons_zero, List.set_cons_succ]
    refine late_one 5 (.succ (.succ (.succ (.succ (.succ .zero))))) (by kernel_rfl) (fun K hK => ?_)
    refine step_app_strs (by rfl) (.tmp 7) (.tmp 9) (by rfl) R.heap.size (.slice (some ⟨R.heap.size + 1, 0, none⟩) 0 0) 0 [] (by rfl) ownA_9_2 ka n kc La (by rfl) HR.out.1.2 (HR.out.1.1.below (bel_9_2)) (by omega) bel_9_2.size ?_
    intro v5_9_2_5 w5_9_2_5 ho_9_2_5 hg_9_2_5
    rw [Nat.zero_add, List.nil_append] at ho_9_2_5
    have bel_9_2_5 : Below R.heap.size R w5_9_2_5 := bel_9_2.grown hg_9_2_5 bel_9_2.size (fun g e => (own_lt ownA_9_2 g e).1)
    have ownB_9_2_5 := own_other ownB_9_2 ownA_9_2 (by decide) hg_9_2_5
    refine hK.out _ _ ?_ (fun hHeld2 => ?_)
    · (intro _; exact HKeep.out _ bel_9_2_5)
    clear hK K
    replace hHeld := hHeld2 (by decide)
    clear hHeld2
    try simp only [Act.put, List.setIfInBounds_toArray, List.set_cons_zero, List.set_cons_succ]
    refine late_one 8 (.succ (.succ (.succ (.succ (.succ (.succ (.succ (.succ .zero)))))))) (by kernel_rfl) (fun K hK => ?_)
    refine step_app_strs (by rfl) (.tmp 10) (.tmp 12) (by rfl) R.heap.size v5_9_2_5 n (strL La) (by rfl) ho_9_2_5 kb m kd Lb (by rfl) HR.out.2.1.2 (HR.out.2.1.1.below (bel_9_2_5)) (by omega) bel_9_2_5.size ?_
    intro v8_9_2_5_8 w8_9_2_5_8 ho_9_2_5_8 hg_9_2_5_8
    have bel_9_2_5_8 : Below R.heap.size R w8_9_2_5_8 := bel_9_2_5.grown hg_9_2_5_8 bel_9_2_5.size (fun g e => (own_lt ho_9_2_5 g e).1)
    have ownB_9_2_5_8 := own_other ownB_9_2_5 ho_9_2_5 (by decide) hg_9_2_5_8
    refine hK.out _ _ ?_ (fun hHeld2 => ?_)
    · (intro _; exact HKeep.out _ bel_9_2_5_8)
    clear hK K
    replace hHeld := hHeld2 (by decide)
    clear hHeld2
    try simp only [Act.put, List.setIfInBounds_toArray, List.set_cons_zero, List.set_cons_succ]
    refine late_one 12 (.succ (.succ (.succ (.succ (.succ (.succ (.succ (.succ (.succ (.succ (.succ (.succ .zero)))))))))))) (by kernel_rfl) (fun K hK => ?_)
    refine step_app_kids (by rfl) (.tmp 14) (.tmp 16) (by rfl) R.heap.size (.slice (some ⟨R.heap.size, 0, none⟩) 0 0) 0 [] (by rfl) ownB_9_2_5_8 ca p cc xa (by rfl) (HR.out.2.2.1.below (bel_9_2_5_8)) (by omega) bel_9_2_5_8.size ?_
    intro v12_9_2_5_8_12 w12_9_2_5_8_12 ho_9_2_5_8_12 hg_9_2_5_8_12
    rw [Nat.zero_add, List.nil_append] at ho_9_2_5_8_12
    have bel_9_2_5_8_12 : Below R.heap.size R w12_9_2_5_8_12 := bel_9_2_5_8.grown hg_9_2_5_8_12 bel_9_2_5_8.size (fun g e => (own_lt ownB_9_2_5_8 g e).1)
    have ownA_9_2_5_8_12 := own_other ho_9_2_5_8 ownB_9_2_5_8 (by decide) hg_9_2_5_8_12
    refine hK.out _ _ ?_ (fun hHeld2 => ?_)
    · (intro _; exact HKeep.out _ bel_9_2_5_8_12)
    clear hK K
    replace hHeld := hHeld2 (by decide)
    clear hHeld2
    try simp only [Act.put, List.setIfInBounds_toArray, List.set_cons_zero, List.set_cons_succ]
    refine late_one 15 (.succ (.succ (.succ (.succ (.succ (.succ (.succ (.succ (.succ (.succ (.succ (.succ (.succ (.succ (.succ .zero))))))))))))))) (by kernel_rfl) (fun K hK => ?_)
    refine step_app_kids (by rfl) (.tmp 17) (.tmp 19) (by rfl) R.heap.size v12_9_2_5_8_12 p xa (by rfl) ho_9_2_5_8_12 cb q cd xb (by rfl) (HR.out.2.2.2.below (bel_9_2_5_8_12)) (by omega) bel_9_2_5_8_12.size ?_
    intro v15_9_2_5_8_12_15 w15_9_2_5_8_12_15 ho_9_2_5_8_12_15 hg_9_2_5_8_12_15
    have bel_9_2_5_8_12_15 : Below R.heap.size R w15_9_2_5_8_12_15 := bel_9_2_5_8_12.grown hg_9_2_5_8_12_15 bel_9_2_5_8_12.size (fun g e => (own_lt ho_9_2_5_8_12 g e).1)
    have ownA_9_2_5_8_12_15 := own_other ownA_9_2_5_8_12 ho_9_2_5_8_12 (by decide) hg_9_2_5_8_12_15
    refine hK.out _ _ ?_ (fun hHeld2 => ?_)
    · (intro _; exact HKeep.out _ bel_9_2_5_8_12_15)
    clear hK K
    replace hHeld := hHeld2 (by decide)
    clear hHeld2
    try simp only [Act.put, List.setIfInBounds_toArray, List.set_cons_zero, List.set_cons_succ]
    obtain ⟨aA, cA, eA, _⟩ := own_form ownA_9_2_5_8_12_15
    obtain ⟨aB, cB, eB, _⟩ := own_form ho_9_2_5_8_12_15
    subst eA eB
    have HE : Hid (w15_9_2_5_8_12_15.ownsRow R.heap.size 9 1 (.slice aA (n + m) cA) (n + m) (strL La ++ strL Lb) ∧ w15_9_2_5_8_12_15.ownsRow R.heap.size 67 3 (.slice aB (p + q) cB) (p + q) (xa ++ xb) ∧ Below R.heap.size R w15_9_2_5_8_12_15) := ⟨ownA_9_2_5_8_12_15, ho_9_2_5_8_12_15, bel_9_2_5_8_12_15⟩
    have hbx := HBx.out.below bel_9_2_5_8_12_15
    have r0 := hbx.cell 0
    have r1 := hbx.cell 1
    have r2 := hbx.cell 2
    simp at r0 r1 r2
    have hf := fun i => hbx.frozen i
    refine late_one 16 (.succ (.succ (.succ (.succ (.succ (.succ (.succ (.succ (.succ (.succ (.succ (.succ (.succ (.succ (.succ (.succ .zero)))))))))))))))) (by kernel_rfl) (fun K hK => ?_)
    go_simp
    refine hK.out _ _ ?_ (fun hHeld2 => ?_)
    · (intro _; exact HKeep.out _ bel_9_2_5_8_12_15)
    clear hK K
    replace hHeld := hHeld2 (by decide)
    clear hHeld2
    try simp only [Act.put, List.setIfInBounds_toArray, List.set_cons_zero, List.set_cons_succ]
    refine late_one 17 (.succ (.succ (.succ (.succ (.succ (.succ (.succ (.succ (.succ (.succ (.succ (.succ (.succ (.succ (.succ (.succ (.succ .zero))))))))))))))))) (by kernel_rfl) (fun K hK => ?_)
    go_simp
    refine hK.out _ _ ?_ (fun hHeld2 => ?_)
    · (intro hne; exact absurd rfl hne)
    clear hK K hHeld2
    refine wpLate_done (by kernel_rfl) ?_ _
    clear hHeld hbx
    go_wp2
    refine bodyPost_ret (v := .agg #[.bool lf, .slice aA (n + m) cA, .slice aB (p + q) cB]) (by simp [results, Try.results69, go_sem, r0, r1, r2]) rfl ?_
    have hz := HSz.out
    exact ⟨set3_below (HBel.out.trans (HE.out.2.2.mono HBel.out.size)) _ (by omega) _ _ _, aA, cA, aB, cB, rfl, by rw [strL_app]; exact own_set (own_set (own_set (own_mono' HE.out.1 (by omega)) _ _ (by simp)) _ _ (by simp)) _ _ (by simp), own_set (own_set (own_set (own_mono' HE.out.2.1 (by omega)) _ _ (by simp)) _ _ (by simp)) _ _ (by simp)⟩

theorem ks_ownL {S : Nat → Prop} {w : World} {B c n : Nat} {a : Option Addr} {L : List ByteArray} (h : w.ownsRow B 9 1 (.slice a n c) n (strL L)) (hn : n = L.length) (hS : ∀ b, B ≤ b → S b) : KS S w a n c (gt L) := by
  obtain ⟨a', c', e, h1, h2, h3⟩ := ownS_strL h hn
  injection e with e1 _ e2
  subst e1 e2
  subst hn
  exact ks_own h1 ⟨h2, h3⟩ hS

/-- Two neighbours as one. -/
def joinR {d : Nat} : Ro (d + 1) → Ro (d + 1) → Ro (d + 1)
  | .inl L, .inl M => .inl (L ++ M)
  | .inr l, .inr m => .inr (l ++ m)
  | x, _ => x

theorem join_leaf (d : Nat) (La Lb : List ByteArray) (va vb : Value) (S : Nat → Prop) (w : World) (ha : NG S w (d + 1) (.inl La) va) (hb : NG S w (d + 1) (.inl Lb) vb) (hA : La.length ≤ 1000) (hB : Lb.length ≤ 1000) :
    Calls Try.prog 69 #[va, vb] w (RetG3 S w (d + 1) (.inl (La ++ Lb))) := by
  obtain ⟨ka, kc, ca, cc, rfl, hrd, hcap, hblk⟩ := ha
  obtain ⟨kb, kd, cb, cd, rfl, hrdb, hcapb, hblkb⟩ := hb
  refine (join_raw true true ka ca kb cb La.length kc 0 cc Lb.length kd 0 cd La Lb [] [] w hrd rfl hrdb rfl (RdK.nil _ _) (RdK.nil _ _) ⟨hA, hB⟩ ⟨by omega, by omega⟩).mono ?_
  rintro e w' ⟨h1, a1, c1, a2, c2, rfl, h2, h3⟩
  exact ⟨h1, _, _, _, _, _, _, _, rfl, a1, c1, a2, c2, by rw [List.length_append], by
    rw [← List.length_append] at h2
    exact ks_ownL h2 rfl (fun b hb => Or.inr (by omega))⟩

theorem kid_rdK {S : Nat → Prop} {w : World} {d : Nat} {l : List (Ro d)} {b : Nat} {xs : List Value} (hl : b < w.heap.size) (hx : ∀ j u, xs[j]? = some u → w.cell? ⟨b, j, none⟩ = some u) (hk : KidL (fun t v => NG S w d t v) l xs) : RdK w (some ⟨b, 0, none⟩) l.length xs :=
  ⟨hk.len, hk.cells NG.one, Or.inr ⟨b, 0, rfl, hl, fun j u hj => by rw [Nat.zero_add]; exact hx j u hj⟩⟩

theorem join_inner (d : Nat) (la lb : List (Ro d)) (va vb : Value) (S : Nat → Prop) (w : World) (ha : NG S w (d + 1) (.inr la) va) (hb : NG S w (d + 1) (.inr lb) vb) (hA : la.length ≤ 1000) (hB : lb.length ≤ 1000) :
    Calls Try.prog 69 #[va, vb] w (RetG3 S w (d + 1) (.inr (la ++ lb))) := by
  obtain ⟨ka, kc, b, cc, xs, rfl, ⟨hs, hcap⟩, hbl, hl, hx, hk⟩ := ha
  obtain ⟨kb, kd, b2, cd, ys, rfl, ⟨hs2, hcap2⟩, hbl2, hl2, hx2, hk2⟩ := hb
  refine (join_raw false false ka (some ⟨b, 0, none⟩) kb (some ⟨b2, 0, none⟩) 0 kc la.length cc 0 kd lb.length cd [] [] xs ys w (Or.inl rfl) rfl (Or.inl rfl) rfl (kid_rdK hbl hx hk) (kid_rdK hbl2 hx2 hk2) ⟨by omega, by omega⟩ ⟨hA, hB⟩).mono ?_
  rintro e w' ⟨h1, a1, c1, a2, c2, rfl, h2, h3⟩
  have hcap3 := own_cap h3
  obtain ⟨a3, c3, e3, h4⟩ := own_form h3
  injection e3 with e3 _ e4
  subst e3 e4
  obtain ⟨g, rfl, hg1, hg2, hg3⟩ := h4 (by omega)
  have hz := h1.size
  refine ⟨h1, _, _, _, _, _, _, _, rfl, a1, c1, g, c2, xs ++ ys, by rw [List.length_append], ⟨Or.inr (by omega), by rw [List.length_append]; exact hcap3⟩, hg2, by rw [List.length_append]; omega, hg3, ?_⟩
  exact KidL.cat (hk2.mono (fun t v q => NG.wide (NG.below q h1) (fun b hs _ => Or.inl hs))) (hk.mono (fun t v q => NG.wide (NG.below q h1) (fun b hs _ => Or.inl hs)))
end Go.Proofs.Ytakemeccigpbaaa

namespace Go.Proofs.Ytakemeccigpbaaa
open Go.RowKit Go.Deep
set_option linter.unusedVariables false
set_option maxRecDepth 100000

/-- The keys without one. -/
def delK (key : ByteArray) (L : List ByteArray) : List ByteArray := L.filter (fun k => !(k.toList == key.toList))
theorem delK_length (key : ByteArray) (L : List ByteArray) : (delK key L).length ≤ L.length := List.length_filter_le _ _
theorem delK_keep {key : ByteArray} {L : List ByteArray} {k : Nat} (h : k < L.length) (hq : ((gt L k).toList == key.toList) = false) : delK key (L.take (k + 1)) = delK key (L.take k) ++ [gt L k] := by
  rw [List.take_add_one, List.getElem?_eq_getElem h]
  have e : gt L k = L[k] := by unfold gt; rw [List.getD_eq_getElem?_getD, List.getElem?_eq_getElem h]; rfl
  rw [e] at hq ⊢
  unfold delK
  rw [List.filter_append]
  simp [hq]
theorem delK_drop {key : ByteArray} {L : List ByteArray} {k : Nat} (h : k < L.length) (hq : ((gt L k).toList == key.toList) = true) : delK key (L.take (k + 1)) = delK key (L.take k) := by
  rw [List.take_add_one, List.getElem?_eq_getElem h]
  have e : gt L k = L[k] := by unfold gt; rw [List.getD_eq_getElem?_getD, List.getElem?_eq_getElem h]; rfl
  rw [e] at hq
  unfold delK
  rw [List.filter_append]
  simp [hq]

set_option maxHeartbeats 4000000 in
theorem del_leaf (d : Nat) (L : List ByteArray) (v : Value) (key : ByteArray) (S : Nat → Prop) (w : World) (hv : NG S w (d + 1) (.inl L) v) (hL : L.length ≤ 1000) :
    Calls Try.prog 51 #[v, .string key] w (RetG3 S w (d + 1) (.inl (delK key L))) := by
  obtain ⟨ka, kc, ca, cc, rfl, hrd, ⟨hcap1, hcap2⟩, hblk⟩ := hv
  obtain ⟨n, hn⟩ : ∃ n, n = L.length := ⟨_, rfl⟩
  rw [← hn] at hrd hcap1 hL ⊢
  have HRD : Hid (RdS w ka n (gt L)) := hrd
  have HLn : Hid (n = L.length) := hn
  obtain ⟨i9, hi9, hz0, hz1, hz2⟩ := info_parts Try.info9
  have HI : Hid (Try.prog.info? 9 = some i9 ∧ i9.zero = some (.string { data := #[] }) ∧ i9.size = 1 ∧ i9.bytes = 16) := ⟨hi9, hz0, hz1, hz2⟩
  clear hrd hn hblk hi9 hz0 hz1 hz2
  go_enter Try.func51, Try.ntmps51
  go_wp2
  have S0 : Hid ((((w.alloc (.cells #[.bool true, .slice ka n kc, .slice ca 0 cc] 67)).alloc (.cells #[.bool false, .slice none 0 0, .slice none 0 0] 67)).alloc (.cells #[] 9)).ownsRow (w.heap.size + 2) 9 1 (.slice (some ⟨w.heap.size + 1 + 1, 0, none⟩) 0 0) 0 (strL (delK key (L.take 0))) ∧ Bx (((w.alloc (.cells #[.bool true, .slice ka n kc, .slice ca 0 cc] 67)).alloc (.cells #[.bool false, .slice none 0 0, .slice none 0 0] 67)).alloc (.cells #[] 9)) w.heap.size 67 #[.bool true, .slice ka n kc, .slice ca 0 cc] ∧ Bx (((w.alloc (.cells #[.bool true, .slice ka n kc, .slice ca 0 cc] 67)).alloc (.cells #[.bool false, .slice none 0 0, .slice none 0 0] 67)).alloc (.cells #[] 9)) (w.heap.size + 1) 67 #[.bool false, .slice none 0 0, .slice none 0 0] ∧ Below w.heap.size w (((w.alloc (.cells #[.bool true, .slice ka n kc, .slice ca 0 cc] 67)).alloc (.cells #[.bool false, .slice none 0 0, .slice none 0 0] 67)).alloc (.cells #[] 9))) := by
    refine ⟨by simpa [strL, delK] using own_empty ((w.alloc (.cells #[.bool true, .slice ka n kc, .slice ca 0 cc] 67)).alloc (.cells #[.bool false, .slice none 0 0, .slice none 0 0] 67)) 9 (w.heap.size + 2) 1 (by simp), ((Bx.new w _ _).alloc _).alloc _, ?_, ((below_alloc _ _).alloc (by simp) _).alloc (by simp; omega) _⟩
    have := (Bx.new (w.alloc (.cells #[.bool true, .slice ka n kc, .slice ca 0 cc] 67)) #[.bool false, .slice none 0 0, .slice none 0 0] 67).alloc (.cells #[] 9)
    rw [World.size_alloc] at this
    exact this
  generalize ((w.alloc (.cells #[.bool true, .slice ka n kc, .slice ca 0 cc] 67)).alloc (.cells #[.bool false, .slice none 0 0, .slice none 0 0] 67)).alloc (.cells #[] 9) = W0 at S0 ⊢
  go_loopw [5, 6] (fun q i wr => ∃ (k m : Nat) (a : Option Addr) (c : Nat), k ≤ n ∧ m ≤ k ∧ i = .int .i64 k ∧ q = .slice a m c ∧ m = (delK key (L.take k)).length ∧ wr.ownsRow (w.heap.size + 2) 9 1 (.slice a m c) m (strL (delK key (L.take k))) ∧ Bx wr w.heap.size 67 #[.bool true, .slice ka n kc, .slice ca 0 cc] ∧ Bx wr (w.heap.size + 1) 67 #[.bool false, .slice none 0 0, .slice none 0 0] ∧ Below w.heap.size w wr) (fun _ i _ => n - (intOf i).toNat)
  case atStart => exact ⟨0, 0, _, 0, Nat.zero_le _, Nat.zero_le _, rfl, rfl, by simp [delK], S0.out⟩
  case round =>
    obtain ⟨k, m, a, c, hk, hmk, rfl, rfl, h0, h1, h2, h3, h4⟩ := hrel
    have HST : Hid (m = (delK key (L.take k)).length ∧ wr.ownsRow (w.heap.size + 2) 9 1 (.slice a m c) m (strL (delK key (L.take k))) ∧ Bx wr w.heap.size 67 #[.bool true, .slice ka n kc, .slice ca 0 cc] ∧ Bx wr (w.heap.size + 1) 67 #[.bool false, .slice none 0 0, .slice none 0 0] ∧ Below w.heap.size w wr) := ⟨h0, h1, h2, h3, h4⟩
    have x1 := h2.cell 1
    simp at x1
    have xz := h2.lt
    have yz := h3.lt
    clear h0 h1 h2 h3 h4 S0
    by_cases hlt : k < n
    · obtain ⟨b, o, rfl, hc⟩ := (HRD.out.below HST.out.2.2.2.2 : RdS wr ka n (gt L)).resolve_left (by omega)
      have s0 := hc k hlt
      have i0 : (0 : Int) ≤ (k : Int) := by omega
      have i1 : (k : Int) < (n : Int) := by omega
      have hkl : k < L.length := by rw [← HLn.out]; exact hlt
      have HKL : Hid (k < L.length) := hkl
      clear hc hkl
      cases hq : ((gt L k).toList == key.toList) with
      | false =>
        have HO : Hid ((wr.alloc (.cells #[.string (gt L k)] 9)).ownsRow (w.heap.size + 2) 9 1 (.slice a m c) m (strL (delK key (L.take k)))) := own_below HST.out.2.1 (below_alloc _ _)
        go_wp2_with (at_builtin; refine wpList_append_own_at _ rfl _ _ 27 rfl (w.heap.size + 2) 9 i9 _ 1 16 Try.underlying27 HI.out.1 HI.out.2.1 HI.out.2.2.1 HI.out.2.2.2 rfl (by decide) (.slice a m c) m _ rfl HO.out ⟨wr.heap.size, 0, none⟩ 1 1 [.string (gt L k)] rfl rfl (cell_one_new _ _ _) (by intro u hu; simp at hu; subst hu; rfl) (by unfold maxLen; omega) (by omega) (by simp; omega) ?_)
        intro v2 w2 ho2 hg2 _ hat2
        obtain ⟨a2, c2, rfl, _⟩ := own_form ho2
        have HX : Hid (m + 1 = (delK key (L.take (k + 1))).length ∧ w2.ownsRow (w.heap.size + 2) 9 1 (.slice a2 (m + 1) c2) (m + 1) (strL (delK key (L.take (k + 1)))) ∧ Bx w2 w.heap.size 67 #[.bool true, .slice (some ⟨b, o, none⟩) n kc, .slice ca 0 cc] ∧ Bx w2 (w.heap.size + 1) 67 #[.bool false, .slice none 0 0, .slice none 0 0] ∧ Below w.heap.size w w2) := by
          have hst := HST.out
          have hne : ∀ g, (Value.slice a m c).ownBlock = some g → w.heap.size + 2 ≤ g := fun g e => (own_lt hst.2.1 g e).1
          have hbA : Below w.heap.size w (wr.alloc (.cells #[.string (gt L k)] 9)) := hst.2.2.2.2.alloc hst.2.2.2.2.size _
          rw [delK_keep HKL.out hq]
          refine ⟨by rw [List.length_append, ← hst.1]; rfl, by rw [strL_app]; exact ho2, (hst.2.2.1.alloc _).grown hg2 (fun e => by have := hne _ e; omega), (hst.2.2.2.1.alloc _).grown hg2 (fun e => by have := hne _ e; omega), hbA.grown hg2 (by simp; omega) (fun g e => by have := hne g e; omega)⟩
        clear ho2 hg2 hat2 HO s0 x1
        go_wp2
        go_roundw
        case rel => exact ⟨k + 1, m + 1, a2, c2, by omega, by omega, by go_num, rfl, HX.out⟩
        case measure => simp [intOf]; omega
      | true =>
        have HX : Hid (m = (delK key (L.take (k + 1))).length ∧ wr.ownsRow (w.heap.size + 2) 9 1 (.slice a m c) m (strL (delK key (L.take (k + 1)))) ∧ Bx wr w.heap.size 67 #[.bool true, .slice (some ⟨b, o, none⟩) n kc, .slice ca 0 cc] ∧ Bx wr (w.heap.size + 1) 67 #[.bool false, .slice none 0 0, .slice none 0 0] ∧ Below w.heap.size w wr) := by
          rw [Hid, delK_drop HKL.out hq]
          exact HST.out
        go_wp2
        go_roundw
        case rel => exact ⟨k + 1, m, a, c, by omega, by omega, by go_num, rfl, HX.out⟩
        case measure => simp [intOf]; omega
    · have i1 : ¬ (k : Int) < (n : Int) := by omega
      have i1d : decide ((k : Int) < (n : Int)) = false := decide_eq_false i1
      have HF : Hid (m = (delK key L).length ∧ wr.ownsRow (w.heap.size + 2) 9 1 (.slice a m c) m (strL (delK key L)) ∧ Below w.heap.size w wr) := by
        have hst := HST.out
        have e : L.take k = L := List.take_of_length_le (by rw [← HLn.out]; omega)
        rw [e] at hst
        exact ⟨hst.1, hst.2.1, hst.2.2.2.2⟩
      have hbx := HST.out.2.2.2.1
      have r0 := hbx.cell 0
      have r1 := hbx.cell 1
      have r2 := hbx.cell 2
      simp at r0 r1 r2
      have hf := fun i => hbx.frozen i
      clear hbx
      go_wp2
      refine bodyPost_ret (v := .agg #[.bool true, .slice a m c, .slice none 0 0]) (by simp [results, Try.results51, go_sem, r0, r1, r2]) rfl ⟨set3_below HF.out.2.2 _ (by omega) _ _ _, _, _, _, _, _, _, _, rfl, a, c, none, 0, by rw [HF.out.1], ?_⟩
      rw [← HF.out.1]
      refine (ks_ownL (S := fun b => w.heap.size + 2 ≤ b) HF.out.2.1 HF.out.1 (fun b hb => hb)).keep (by rw [set3_size]; exact Nat.le_refl _) (fun b hb _ => ⟨Or.inr (by omega), set3_block _ _ _ _ _ _ (by omega)⟩)
end Go.Proofs.Ytakemeccigpbaaa

namespace Go.Proofs.Ytakemeccigpbaaa
set_option linter.unusedVariables false

/-- The same at any depth. -/
def sizD : {d : Nat} → Ro d → Nat
  | 0, t => t.elim
  | d + 1, t => sizR t
def cutD (lo hi : Nat) : {d : Nat} → Ro d → Ro d
  | 0, t => t.elim
  | d + 1, t => cutR lo hi t
def joinD : {d : Nat} → Ro d → Ro d → Ro d
  | 0, t, _ => t.elim
  | d + 1, t, u => joinR t u
/-- Balanced, but what it holds itself may be too little. -/
def BalU : (d : Nat) → Ro d → Nat → Prop
  | 0, t, _ => t.elim
  | d + 1, .inl L, h => h = 0 ∧ L.length ≤ 4
  | d + 1, .inr l, h => 1 ≤ l.length ∧ l.length ≤ 4 ∧ ∃ h', h = h' + 1 ∧ ∀ t, t ∈ l → BalR d false t h'

theorem BalU.of : ∀ {d : Nat} {t : Ro d} {root : Bool} {h : Nat}, BalR d root t h → BalU d t h
  | 0, t, _, _, _ => t.elim
  | d + 1, .inl L, root, h, hb => ⟨hb.1, hb.2.1⟩
  | d + 1, .inr l, root, h, hb => ⟨by have := hb.1; omega, hb.2.1, hb.2.2⟩
theorem BalU.full : ∀ {d : Nat} {t : Ro d} {h : Nat} (root : Bool), BalU d t h → 2 ≤ sizD t → BalR d root t h
  | 0, t, _, _, _, _ => t.elim
  | d + 1, .inl L, h, root, hb, h2 => ⟨hb.1, hb.2, Or.inr h2⟩
  | d + 1, .inr l, h, root, hb, h2 => ⟨h2, hb.2.1, hb.2.2⟩
theorem BalR.siz : ∀ {d : Nat} {t : Ro d} {h : Nat}, BalR d false t h → 2 ≤ sizD t
  | 0, t, _, _ => t.elim
  | d + 1, .inl L, h, hb => by
    obtain ⟨_, _, q⟩ := hb
    rcases q with q | q
    · cases q
    · exact q
  | d + 1, .inr l, h, hb => hb.1
theorem BalU.le : ∀ {d : Nat} {t : Ro d} {h : Nat}, BalU d t h → sizD t ≤ 4
  | 0, t, _, _ => t.elim
  | d + 1, .inl L, h, hb => hb.2
  | d + 1, .inr l, h, hb => hb.2.1
theorem BalU.join : ∀ {d : Nat} {t u : Ro d} {h : Nat}, BalU d t h → BalU d u h → sizD t + sizD u ≤ 4 → BalU d (joinD t u) h ∧ sizD (joinD t u) = sizD t + sizD u
  | 0, t, _, _, _, _, _ => t.elim
  | d + 1, .inl L, .inl M, h, hb, hc, hs => by
    have e : sizD (d := d + 1) (joinD (d := d + 1) (.inl L) (.inl M)) = L.length + M.length := List.length_append
    exact ⟨⟨hb.1, by have : L.length + M.length ≤ 4 := hs; rw [List.length_append]; exact this⟩, e⟩
  | d + 1, .inr l, .inr m, h, hb, hc, hs => by
    have e : sizD (d := d + 1) (joinD (d := d + 1) (.inr l) (.inr m)) = l.length + m.length := List.length_append
    have hs' : l.length + m.length ≤ 4 := hs
    obtain ⟨b1, b2, h1, rfl, b3⟩ := hb
    obtain ⟨c1, c2, h2, e2, c3⟩ := hc
    obtain rfl : h1 = h2 := by omega
    refine ⟨⟨by rw [List.length_append]; omega, by rw [List.length_append]; exact hs', h1, rfl, fun t ht => ?_⟩, e⟩
    rcases List.mem_append.1 ht with ht | ht
    · exact b3 t ht
    · exact c3 t ht
  | d + 1, .inl L, .inr m, h, hb, hc, hs => by
    obtain ⟨_, _, h2, e2, _⟩ := hc
    have := hb.1
    omega
  | d + 1, .inr l, .inl M, h, hb, hc, hs => by
    obtain ⟨_, _, h2, e2, _⟩ := hb
    have := hc.1
    omega
theorem BalU.cut : ∀ {d : Nat} {t : Ro d} {h lo hi : Nat}, BalU d t h → lo < hi → hi ≤ sizD t → BalU d (cutD lo hi t) h ∧ sizD (cutD lo hi t) = hi - lo
  | 0, t, _, _, _, _, _, _ => t.elim
  | d + 1, .inl L, h, lo, hi, hb, h0, h1 => by
    have h1' : hi ≤ L.length := h1
    have hl := hb.2
    have e : ((L.take hi).drop lo).length = hi - lo := by rw [List.length_drop, List.length_take]; omega
    exact ⟨⟨hb.1, by rw [e]; omega⟩, e⟩
  | d + 1, .inr l, h, lo, hi, hb, h0, h1 => by
    have h1' : hi ≤ l.length := h1
    obtain ⟨b1, b2, h', rfl, b3⟩ := hb
    have e : ((l.take hi).drop lo).length = hi - lo := by rw [List.length_drop, List.length_take]; omega
    exact ⟨⟨by rw [e]; omega, by rw [e]; omega, h', rfl, fun t ht => b3 t (List.mem_of_mem_take (List.mem_of_mem_drop ht))⟩, e⟩

/-- How many the neighbour has. -/
def sizO {d : Nat} : Option (Ro d) → Nat
  | none => 0
  | some t => sizD t
/-- Children of which one may be too small, put right. -/
def fixD {d : Nat} (l : List (Ro d)) (i : Nat) : List (Ro d) :=
  match l[i]? with
  | none => l
  | some y => if 2 ≤ sizD y then l
    else if 0 < i ∧ 2 < sizO l[i - 1]? then
      match l[i - 1]? with
      | none => l
      | some z => (l.set i (joinD (cutD (sizD z - 1) (sizD z) z) y)).set (i - 1) (cutD 0 (sizD z - 1) z)
    else if 2 < sizO l[i + 1]? then
      match l[i + 1]? with
      | none => l
      | some z => (l.set i (joinD y (cutD 0 1 z))).set (i + 1) (cutD 1 (sizD z) z)
    else
      match l[(max i 1) - 1]?, l[max i 1]? with
      | some u, some v => l.take ((max i 1) - 1) ++ joinD u v :: l.drop ((max i 1) + 1)
      | _, _ => l

theorem fixD_full {d : Nat} {l : List (Ro d)} {i : Nat} {y : Ro d} (h : l[i]? = some y) (h2 : 2 ≤ sizD y) : fixD l i = l := by
  unfold fixD
  rw [h]
  simp only [if_pos h2]
theorem fixD_left {d : Nat} {l : List (Ro d)} {i : Nat} {y z : Ro d} (h : l[i]? = some y) (h2 : ¬ 2 ≤ sizD y) (hi : 0 < i) (hz : l[i - 1]? = some z) (h3 : 2 < sizD z) : fixD l i = (l.set i (joinD (cutD (sizD z - 1) (sizD z) z) y)).set (i - 1) (cutD 0 (sizD z - 1) z) := by
  unfold fixD
  rw [h, hz]
  simp only [if_neg h2, sizO]
  exact if_pos ⟨hi, h3⟩
theorem fixD_right {d : Nat} {l : List (Ro d)} {i : Nat} {y z : Ro d} (h : l[i]? = some y) (h2 : ¬ 2 ≤ sizD y) (hn : ¬ (0 < i ∧ 2 < sizO l[i - 1]?)) (hz : l[i + 1]? = some z) (h3 : 2 < sizD z) : fixD l i = (l.set i (joinD y (cutD 0 1 z))).set (i + 1) (cutD 1 (sizD z) z) := by
  unfold fixD
  rw [h]
  simp only [if_neg h2, if_neg hn]
  rw [hz]
  simp only [sizO]
  exact if_pos h3
theorem fixD_join {d : Nat} {l : List (Ro d)} {i : Nat} {y u v : Ro d} (h : l[i]? = some y) (h2 : ¬ 2 ≤ sizD y) (hn : ¬ (0 < i ∧ 2 < sizO l[i - 1]?)) (hm : ¬ 2 < sizO l[i + 1]?) (hu : l[(max i 1) - 1]? = some u) (hv : l[max i 1]? = some v) : fixD l i = l.take ((max i 1) - 1) ++ joinD u v :: l.drop ((max i 1) + 1) := by
  unfold fixD
  rw [h]
  simp only [if_neg h2, if_neg hn, if_neg hm]
  rw [hu, hv]

/-- What comes of a tree when a key is taken out. -/
def DelR (key : ByteArray) : (d : Nat) → Ro d → Ro d → Prop
  | 0, t, _ => t.elim
  | d + 1, .inl ks, r => r = .inl (delK key ks)
  | d + 1, .inr l, r => ∃ i, KidIs l key i ∧ ∃ (h : i < l.length) (y : Ro d), DelR key d l[i] y ∧ r = .inr (fixD (l.set i y) i)
theorem DelR_inl (key : ByteArray) (d : Nat) (ks : List ByteArray) (r : Ro (d + 1)) : DelR key (d + 1) (.inl ks) r = (r = .inl (delK key ks)) := rfl
theorem DelR_inr (key : ByteArray) (d : Nat) (l : List (Ro d)) (r : Ro (d + 1)) : DelR key (d + 1) (.inr l) r = ∃ i, KidIs l key i ∧ ∃ (h : i < l.length) (y : Ro d), DelR key d l[i] y ∧ r = .inr (fixD (l.set i y) i) := rfl

/-- What comes of it is told by the tree and the key. -/
theorem DelR.fn {key : ByteArray} : ∀ {d : Nat} {t : Ro d} {root : Bool} {h : Nat} {r r' : Ro d}, BalR d root t h → Asc (keysR d t) → DelR key d t r → DelR key d t r' → r = r'
  | 0, t, _, _, _, _, _, _, _, _ => t.elim
  | d + 1, .inl ks, root, h, r, r', hb, ha, h1, h2 => by
    rw [DelR_inl] at h1 h2
    rw [h1, h2]
  | d + 1, .inr l, root, h, r, r', hb, ha, h1, h2 => by
    obtain ⟨_, _, h', _, hall⟩ := hb
    rw [DelR_inr] at h1 h2
    obtain ⟨i, k1, hi, s, e1, rfl⟩ := h1
    obtain ⟨j, k2, hj, s', e2, rfl⟩ := h2
    have ha' : Asc (l.flatMap (keysR d)) := ha
    have e : i = j := KidIs.fn ha' (fun k hk => bal_keys (hall _ (List.getElem_mem hk))) k1 k2
    subst e
    rw [DelR.fn (hall _ (List.getElem_mem hi)) (asc_kid ha' i hi) e1 e2]

theorem fixD_bal {d : Nat} {l : List (Ro d)} {i h : Nat} {y : Ro d} (hi : i < l.length) (hy : l[i]? = some y) (hU : BalU d y h) (h1 : 1 ≤ sizD y) (hall : ∀ j t, l[j]? = some t → j ≠ i → BalR d false t h) (h2 : 2 ≤ l.length) :
    (∀ t, t ∈ fixD l i → BalR d false t h) ∧ (fixD l i).length ≤ l.length ∧ l.length ≤ (fixD l i).length + 1 := by
  by_cases hf : 2 ≤ sizD y
  · rw [fixD_full hy hf]
    refine ⟨fun t ht => ?_, Nat.le_refl _, by omega⟩
    obtain ⟨j, hj, e⟩ := List.getElem_of_mem ht
    by_cases ej : j = i
    · subst ej
      rw [List.getElem?_eq_getElem hj, e] at hy
      injection hy with hy
      subst hy
      exact hU.full false hf
    · exact hall j t (by rw [List.getElem?_eq_getElem hj, e]) ej
  · by_cases hl : 0 < i ∧ 2 < sizO l[i - 1]?
    · obtain ⟨hi0, hz3⟩ := hl
      have hz : l[i - 1]? = some (l[i - 1]'(by omega)) := List.getElem?_eq_getElem (by omega)
      generalize l[i - 1]'(by omega) = z at hz
      rw [hz] at hz3
      have hz3' : 2 < sizD z := hz3
      rw [fixD_left hy hf hi0 hz hz3']
      have hzB := hall (i - 1) z hz (by omega)
      have hzU := BalU.of hzB
      have c1 := hzU.cut (lo := sizD z - 1) (hi := sizD z) (by omega) (Nat.le_refl _)
      have c2 := hzU.cut (lo := 0) (hi := sizD z - 1) (by omega) (by omega)
      have c3 := c1.1.join hU (by rw [c1.2]; omega)
      refine ⟨fun t ht => ?_, by simp, by simp⟩
      obtain ⟨j, hj, e⟩ := List.getElem_of_mem ht
      rw [List.getElem_set, List.getElem_set] at e
      split at e
      · subst e
        exact c2.1.full false (by rw [c2.2]; omega)
      · split at e
        · subst e
          exact c3.1.full false (by rw [c3.2, c1.2]; omega)
        · have hj' : j < l.length := by simpa using hj
          exact hall j t (by rw [List.getElem?_eq_getElem hj', e]) (fun e => by omega)
    · by_cases hr : 2 < sizO l[i + 1]?
      · have hlt : i + 1 < l.length := by
          by_cases q : i + 1 < l.length
          · exact q
          · rw [List.getElem?_eq_none (by omega)] at hr
            exact absurd hr (by simp [sizO])
        have hz : l[i + 1]? = some l[i + 1] := List.getElem?_eq_getElem hlt
        generalize l[i + 1] = z at hz
        rw [hz] at hr
        have hz3' : 2 < sizD z := hr
        rw [fixD_right hy hf hl hz hz3']
        have hzB := hall (i + 1) z hz (by omega)
        have hzU := BalU.of hzB
        have c1 := hzU.cut (lo := 0) (hi := 1) (by omega) (by omega)
        have c2 := hzU.cut (lo := 1) (hi := sizD z) (by omega) (Nat.le_refl _)
        have c3 := hU.join c1.1 (by rw [c1.2]; omega)
        refine ⟨fun t ht => ?_, by simp, by simp⟩
        obtain ⟨j, hj, e⟩ := List.getElem_of_mem ht
        rw [List.getElem_set, List.getElem_set] at e
        split at e
        · subst e
          exact c2.1.full false (by rw [c2.2]; omega)
        · split at e
          · subst e
            exact c3.1.full false (by rw [c3.2, c1.2]; omega)
          · have hj' : j < l.length := by simpa using hj
            exact hall j t (by rw [List.getElem?_eq_getElem hj', e]) (fun e => by omega)
      · obtain ⟨m, hm⟩ : ∃ m, m = max i 1 := ⟨_, rfl⟩
        have hm1 : 1 ≤ m ∧ m < l.length ∧ (m = i ∨ (i = 0 ∧ m = 1)) := by omega
        have hu : l[m - 1]? = some (l[m - 1]'(by omega)) := List.getElem?_eq_getElem (by omega)
        have hv : l[m]? = some (l[m]'(by omega)) := List.getElem?_eq_getElem (by omega)
        generalize l[m - 1]'(by omega) = u at hu
        generalize l[m]'(by omega) = v at hv
        rw [fixD_join hy hf hl hr (u := u) (v := v) (by rw [← hm]; exact hu) (by rw [← hm]; exact hv), ← hm]
        have huv : BalU d u h ∧ BalU d v h ∧ sizD u + sizD v = 3 := by
          rcases hm1.2.2 with e | ⟨e1, e2⟩
          · subst e
            rw [hv] at hy
            injection hy with hy
            subst hy
            have q := hall (m - 1) u hu (by omega)
            have q1 := q.siz
            have q2 : ¬ 2 < sizD u := fun q => hl ⟨by omega, by rw [hu]; exact q⟩
            exact ⟨BalU.of q, hU, by omega⟩
          · subst e1 e2
            rw [hu] at hy
            injection hy with hy
            subst hy
            have q := hall 1 v hv (by omega)
            have q1 := q.siz
            have q2 : ¬ 2 < sizD v := fun q => hr (by rw [hv]; exact q)
            exact ⟨hU, BalU.of q, by omega⟩
        have c := huv.1.join huv.2.1 (by omega)
        refine ⟨fun t ht => ?_, by simp; omega, by simp; omega⟩
        rw [List.mem_append, List.mem_cons] at ht
        rcases ht with ht | rfl | ht
        · obtain ⟨j, hj, e⟩ := List.getElem_of_mem ht
          rw [List.length_take] at hj
          rw [List.getElem_take] at e
          exact hall j t (by rw [List.getElem?_eq_getElem (by omega), e]) (by omega)
        · exact c.1.full false (by rw [c.2]; omega)
        · obtain ⟨j, hj, e⟩ := List.getElem_of_mem ht
          rw [List.length_drop] at hj
          rw [List.getElem_drop] at e
          exact hall (m + 1 + j) t (by rw [List.getElem?_eq_getElem (by omega), e]) (by omega)

theorem delK_ge {key : ByteArray} : ∀ {L : List ByteArray}, Asc L → L.length ≤ (delK key L).length + 1
  | [], _ => by simp
  | x :: xs, h => by
    have h' := List.pairwise_cons.1 h
    unfold delK
    rw [List.filter_cons]
    split
    · have := delK_ge (key := key) (show Asc xs from h'.2)
      unfold delK at this
      simp only [List.length_cons]
      omega
    · rename_i q
      have q' : (x.toList == key.toList) = true := by simpa using q
      have q2 : x.toList = key.toList := by simpa using q'
      have e : xs.filter (fun k => !(k.toList == key.toList)) = xs := by
        rw [List.filter_eq_self]
        intro b hb
        have hlt := h'.1 b hb
        have : b.toList ≠ key.toList := fun e => by
          rw [q2, e] at hlt
          rw [less_irrefl] at hlt
          cases hlt
        simpa using this
      rw [e]
      simp

/-- It stays balanced, but the root may hold one fewer. -/
theorem DelR.bal {key : ByteArray} : ∀ {d : Nat} {t : Ro d} {root : Bool} {h : Nat} {r : Ro d}, BalR d root t h → Asc (keysR d t) → DelR key d t r → BalU d r h ∧ sizD r ≤ sizD t ∧ sizD t ≤ sizD r + 1
  | 0, t, _, _, _, _, _, _ => t.elim
  | d + 1, .inl ks, root, h, r, hb, ha, h1 => by
    rw [DelR_inl] at h1
    subst h1
    have a1 := delK_length key ks
    have a2 := delK_ge (key := key) (show Asc ks from ha)
    exact ⟨⟨hb.1, by have := hb.2.1; omega⟩, a1, a2⟩
  | d + 1, .inr l, root, h, r, hb, ha, h1 => by
    obtain ⟨h2, h4, h', rfl, hall⟩ := hb
    rw [DelR_inr] at h1
    obtain ⟨i, k1, hi, y, e1, rfl⟩ := h1
    have ha' : Asc (l.flatMap (keysR d)) := ha
    have hli := hall _ (List.getElem_mem hi)
    have q := DelR.bal hli (asc_kid ha' i hi) e1
    have q2 := hli.siz
    have f := fixD_bal (l := l.set i y) (i := i) (h := h') (y := y) (by simpa using hi) (by simp [hi]) q.1 (by omega) (fun j t ht hj => by
      rw [List.getElem?_set_ne (by omega)] at ht
      exact hall t (List.mem_of_getElem? ht)) (by simpa using h2)
    rw [List.length_set] at f
    exact ⟨⟨by omega, by omega, h', rfl, f.1⟩, f.2.1, f.2.2⟩
end Go.Proofs.Ytakemeccigpbaaa

namespace Go.Proofs.Ytakemeccigpbaaa
set_option linter.unusedVariables false

theorem joinD_nodes : ∀ {d : Nat} {t u : Ro d} {h : Nat}, BalU d t h → BalU d u h → nodesR d (joinD t u) + 1 = nodesR d t + nodesR d u
  | 0, t, _, _, _, _ => t.elim
  | d + 1, .inl L, .inl M, h, _, _ => rfl
  | d + 1, .inr l, .inr m, h, _, _ => by
    show (1 + ((l ++ m).map (nodesR d)).sum) + 1 = (1 + (l.map (nodesR d)).sum) + (1 + (m.map (nodesR d)).sum)
    rw [List.map_append, List.sum_append]
    omega
  | d + 1, .inl L, .inr m, h, hb, hc => by
    obtain ⟨_, _, h2, e2, _⟩ := hc
    have := hb.1
    omega
  | d + 1, .inr l, .inl M, h, hb, hc => by
    obtain ⟨_, _, h2, e2, _⟩ := hb
    have := hc.1
    omega
theorem cutD_nodes : ∀ {d : Nat} {t : Ro d} (k : Nat), k ≤ sizD t → nodesR d (cutD 0 k t) + nodesR d (cutD k (sizD t) t) = nodesR d t + 1
  | 0, t, _, _ => t.elim
  | d + 1, .inl L, k, _ => rfl
  | d + 1, .inr l, k, hk => by
    have hk' : k ≤ l.length := hk
    show (1 + (((l.take k).drop 0).map (nodesR d)).sum) + (1 + (((l.take l.length).drop k).map (nodesR d)).sum) = (1 + (l.map (nodesR d)).sum) + 1
    have e : (l.map (nodesR d)).sum = ((l.take k).map (nodesR d)).sum + ((l.drop k).map (nodesR d)).sum := by
      rw [← List.sum_append, ← List.map_append, List.take_append_drop]
    rw [List.drop_zero, List.take_length, e]
    omega
theorem sum_set {d : Nat} (f : Ro d → Nat) : ∀ (l : List (Ro d)) (i : Nat) (a b : Ro d), l[i]? = some b → ((l.set i a).map f).sum + f b = (l.map f).sum + f a
  | [], i, a, b, h => by simp at h
  | x :: xs, 0, a, b, h => by
    simp at h
    subst h
    simp
    omega
  | x :: xs, i + 1, a, b, h => by
    have := sum_set f xs i a b (by simpa using h)
    simp only [List.set_cons_succ, List.map_cons, List.sum_cons]
    omega
theorem sum_two {d : Nat} (f : Ro d → Nat) (l : List (Ro d)) (m : Nat) (u v : Ro d) (hm : 1 ≤ m) (hu : l[m - 1]? = some u) (hv : l[m]? = some v) : (l.map f).sum = ((l.take (m - 1)).map f).sum + (f u + f v + ((l.drop (m + 1)).map f).sum) := by
  have hl := (List.getElem?_eq_some_iff.1 hv).1
  have e : l = l.take (m - 1) ++ u :: v :: l.drop (m + 1) := by
    have e1 : l.drop m = v :: l.drop (m + 1) := by
      rw [List.drop_eq_getElem_cons hl]
      have := (List.getElem?_eq_some_iff.1 hv).2
      rw [this]
    have e2 : l.drop (m - 1) = u :: l.drop m := by
      rw [List.drop_eq_getElem_cons (show m - 1 < l.length by omega)]
      have := (List.getElem?_eq_some_iff.1 hu).2
      rw [this, show m - 1 + 1 = m by omega]
    rw [← e1, ← e2, List.take_append_drop]
  conv => lhs; rw [e]
  simp
  omega

theorem fixD_nodes {d : Nat} {l : List (Ro d)} {i h : Nat} {y : Ro d} (hi : i < l.length) (hy : l[i]? = some y) (hU : BalU d y h) (h1 : 1 ≤ sizD y) (hall : ∀ j t, l[j]? = some t → j ≠ i → BalR d false t h) (h2 : 2 ≤ l.length) :
    ((fixD l i).map (nodesR d)).sum ≤ (l.map (nodesR d)).sum := by
  by_cases hf : 2 ≤ sizD y
  · rw [fixD_full hy hf]
    exact Nat.le_refl _
  · by_cases hl : 0 < i ∧ 2 < sizO l[i - 1]?
    · obtain ⟨hi0, hz3⟩ := hl
      have hz : l[i - 1]? = some (l[i - 1]'(by omega)) := List.getElem?_eq_getElem (by omega)
      generalize l[i - 1]'(by omega) = z at hz
      rw [hz] at hz3
      have hz3' : 2 < sizD z := hz3
      rw [fixD_left hy hf hi0 hz hz3']
      have hzU := BalU.of (hall (i - 1) z hz (by omega))
      have c1 := hzU.cut (lo := sizD z - 1) (hi := sizD z) (by omega) (Nat.le_refl _)
      have n1 := joinD_nodes c1.1 hU
      have n2 := cutD_nodes (t := z) (sizD z - 1) (by omega)
      have s1 := sum_set (nodesR d) l i (joinD (cutD (sizD z - 1) (sizD z) z) y) y hy
      have s2 := sum_set (nodesR d) (l.set i (joinD (cutD (sizD z - 1) (sizD z) z) y)) (i - 1) (cutD 0 (sizD z - 1) z) z (by rw [List.getElem?_set_ne (by omega)]; exact hz)
      omega
    · by_cases hr : 2 < sizO l[i + 1]?
      · have hlt : i + 1 < l.length := by
          by_cases q : i + 1 < l.length
          · exact q
          · rw [List.getElem?_eq_none (by omega)] at hr
            exact absurd hr (by simp [sizO])
        have hz : l[i + 1]? = some l[i + 1] := List.getElem?_eq_getElem hlt
        generalize l[i + 1] = z at hz
        rw [hz] at hr
        have hz3' : 2 < sizD z := hr
        rw [fixD_right hy hf hl hz hz3']
        have hzU := BalU.of (hall (i + 1) z hz (by omega))
        have c1 := hzU.cut (lo := 0) (hi := 1) (by omega) (by omega)
        have n1 := joinD_nodes hU c1.1
        have n2 := cutD_nodes (t := z) 1 (by omega)
        have s1 := sum_set (nodesR d) l i (joinD y (cutD 0 1 z)) y hy
        have s2 := sum_set (nodesR d) (l.set i (joinD y (cutD 0 1 z))) (i + 1) (cutD 1 (sizD z) z) z (by rw [List.getElem?_set_ne (by omega)]; exact hz)
        omega
      · obtain ⟨m, hm⟩ : ∃ m, m = max i 1 := ⟨_, rfl⟩
        have hm1 : 1 ≤ m ∧ m < l.length ∧ (m = i ∨ (i = 0 ∧ m = 1)) := by omega
        have hu : l[m - 1]? = some (l[m - 1]'(by omega)) := List.getElem?_eq_getElem (by omega)
        have hv : l[m]? = some (l[m]'(by omega)) := List.getElem?_eq_getElem (by omega)
        generalize l[m - 1]'(by omega) = u at hu
        generalize l[m]'(by omega) = v at hv
        rw [fixD_join hy hf hl hr (u := u) (v := v) (by rw [← hm]; exact hu) (by rw [← hm]; exact hv), ← hm]
        have huv : BalU d u h ∧ BalU d v h := by
          rcases hm1.2.2 with e | ⟨e1, e2⟩
          · subst e
            rw [hv] at hy
            injection hy with hy
            subst hy
            exact ⟨BalU.of (hall (m - 1) u hu (by omega)), hU⟩
          · subst e1 e2
            rw [hu] at hy
            injection hy with hy
            subst hy
            exact ⟨hU, BalU.of (hall 1 v hv (by omega))⟩
        have n1 := joinD_nodes huv.1 huv.2
        have s := sum_two (nodesR d) l m u v hm1.1 hu hv
        rw [s, List.map_append, List.sum_append, List.map_cons, List.sum_cons]
        omega

/-- It has no more nodes than before. -/
theorem DelR.nodes {key : ByteArray} : ∀ {d : Nat} {t : Ro d} {root : Bool} {h : Nat} {r : Ro d}, BalR d root t h → Asc (keysR d t) → DelR key d t r → nodesR d r ≤ nodesR d t
  | 0, t, _, _, _, _, _, _ => t.elim
  | d + 1, .inl ks, root, h, r, hb, ha, h1 => by
    rw [DelR_inl] at h1
    subst h1
    exact Nat.le_refl _
  | d + 1, .inr l, root, h, r, hb, ha, h1 => by
    obtain ⟨h2, h4, h', rfl, hall⟩ := hb
    rw [DelR_inr] at h1
    obtain ⟨i, k1, hi, y, e1, rfl⟩ := h1
    have ha' : Asc (l.flatMap (keysR d)) := ha
    have hli := hall _ (List.getElem_mem hi)
    have q := DelR.bal hli (asc_kid ha' i hi) e1
    have q2 := hli.siz
    have q3 := DelR.nodes hli (asc_kid ha' i hi) e1
    have f := fixD_nodes (l := l.set i y) (i := i) (h := h') (y := y) (by simpa using hi) (by simp [hi]) q.1 (by omega) (fun j t ht hj => by
      rw [List.getElem?_set_ne (by omega)] at ht
      exact hall t (List.mem_of_getElem? ht)) (by simpa using h2)
    have s := sum_set (nodesR d) l i y l[i] (List.getElem?_eq_getElem hi)
    show 1 + _ ≤ 1 + _
    omega
end Go.Proofs.Ytakemeccigpbaaa

namespace Go.Proofs.Ytakemeccigpbaaa
open Go.RowKit Go.Deep
set_option linter.unusedVariables false
set_option maxRecDepth 100000

theorem own_setIn' {w : World} {B : Nat} {e : TypeId} {sz n c g j : Nat} {xs : List Value} (h : w.ownsRow B e sz (.slice (some ⟨g, 0, none⟩) n c) n xs) (hj : j < n * sz) (u : Value) : (w.setCell ⟨g, j, none⟩ u).ownsRow B e sz (.slice (some ⟨g, 0, none⟩) n c) n (xs.set j u) := by
  refine ⟨by rw [List.length_set]; exact h.1, ?_⟩
  rcases h.2 with ⟨q, _⟩ | ⟨g', cap, cur, q1, q2, q3, q4, q5, q6, q7⟩
  · cases q
  · injection q1 with q1 _ q8
    injection q1 with q1
    injection q1 with q1
    subst q1 q8
    refine .inr ⟨g, c, cur.setIfInBounds j u, rfl, q2, ?_, q4, q5, by simp [q6], ?_⟩
    · simp [World.setCell, Array.getElem?_modify, q3]
    · rw [Array.toList_setIfInBounds, List.take_set, q7]
theorem own_frozen {w : World} {B : Nat} {e : TypeId} {sz n c g : Nat} {xs : List Value} (h : w.ownsRow B e sz (.slice (some ⟨g, 0, none⟩) n c) n xs) (j : Nat) : w.frozen? ⟨g, j, none⟩ = false := by
  rcases h.2 with ⟨q, _⟩ | ⟨g', cap, cur, q1, q2, q3, q4⟩
  · cases q
  · injection q1 with q1 _ q8
    injection q1 with q1
    injection q1 with q1
    subst q1
    simp [World.frozen?, q3]

theorem KidL.set {T : Type} {P : T → Value → Prop} {y : T} {x0 x1 x2 : Value} (hy : P y (.agg #[x0, x1, x2])) : ∀ {ts : List T} {xs : List Value} (i : Nat), KidL P ts xs → KidL P (ts.set i y) (((xs.set (i * 3) x0).set (i * 3 + 1) x1).set (i * 3 + 2) x2)
  | [], [], _, _ => by simp [KidL]
  | t :: ts, a0 :: a1 :: a2 :: xs, 0, h => by
    show KidL P (y :: ts) (x0 :: x1 :: x2 :: xs)
    exact ⟨hy, h.2⟩
  | t :: ts, a0 :: a1 :: a2 :: xs, i + 1, h => by
    have := KidL.set hy i h.2
    rw [show (i + 1) * 3 = i * 3 + 1 + 1 + 1 by omega]
    show KidL P (t :: ts.set i y) (a0 :: a1 :: a2 :: ((xs.set (i * 3) x0).set (i * 3 + 1) x1).set (i * 3 + 2) x2)
    exact ⟨h.1, this⟩
  | [], x :: xs, _, h => h.elim
  | t :: ts, [], _, h => h.elim
  | t :: ts, [x0], _, h => h.elim
  | t :: ts, [x0, x1], _, h => h.elim

/-- A row of children of the call's own that can be changed: all that they reach lies elsewhere, in blocks of which T holds. -/
def KW (T : Nat → Prop) (w : World) (B d g n c : Nat) (l : List (Ro d)) : Prop :=
  ∃ xs, w.ownsRow B 67 3 (.slice (some ⟨g, 0, none⟩) n c) n xs ∧ KidL (fun t v => NG (fun b => T b ∧ b ≠ g) w d t v) l xs
theorem KW.below {T : Nat → Prop} {w w' : World} {B d g n c : Nat} {l : List (Ro d)} (h : KW T w B d g n c l) (hb : Below w.heap.size w w') : KW T w' B d g n c l := by
  obtain ⟨xs, h1, h2⟩ := h
  exact ⟨xs, own_below h1 hb, h2.mono (fun t v q => NG.below q hb)⟩
theorem KW.frozen {T : Nat → Prop} {w : World} {B d g n c : Nat} {l : List (Ro d)} (h : KW T w B d g n c l) (j : Nat) : w.frozen? ⟨g, j, none⟩ = false := by
  obtain ⟨xs, h1, h2⟩ := h
  exact own_frozen h1 j
theorem KW.len {T : Nat → Prop} {w : World} {B d g n c : Nat} {l : List (Ro d)} (h : KW T w B d g n c l) : l.length = n := by
  obtain ⟨xs, h1, h2⟩ := h
  have a := h1.1
  have b := h2.len
  omega
theorem KW.lt {T : Nat → Prop} {w : World} {B d g n c : Nat} {l : List (Ro d)} (h : KW T w B d g n c l) : B ≤ g ∧ g < w.heap.size := by
  obtain ⟨xs, h1, h2⟩ := h
  exact own_lt h1 g rfl
theorem KW.get {T : Nat → Prop} {w : World} {B d g n c : Nat} {l : List (Ro d)} (h : KW T w B d g n c l) (i : Nat) (hi : i < l.length) :
    ∃ lf ka kn kc ca cn cc, w.cell? ⟨g, i * 3, none⟩ = some (.bool lf) ∧ w.cell? ⟨g, i * 3 + 1, none⟩ = some (.slice ka kn kc) ∧ w.cell? ⟨g, i * 3 + 2, none⟩ = some (.slice ca cn cc) ∧ NG (fun b => T b ∧ b ≠ g) w d l[i] (.agg #[.bool lf, .slice ka kn kc, .slice ca cn cc]) := by
  have hn := h.len
  obtain ⟨xs, h1, h2⟩ := h
  obtain ⟨a, c', e, hf⟩ := own_form h1
  injection e with e
  subst e
  obtain ⟨g', e, _, _, hx⟩ := hf (by omega)
  injection e with e
  injection e with e
  subst e
  exact kid_at hx h2 i hi
theorem KW.put {T : Nat → Prop} {w : World} {B d g n c : Nat} {l : List (Ro d)} (h : KW T w B d g n c l) (i : Nat) (hi : i < l.length) {y : Ro d} {x0 x1 x2 : Value} (hy : NG (fun b => T b ∧ b ≠ g) w d y (.agg #[x0, x1, x2])) :
    KW T (((w.setCell ⟨g, i * 3, none⟩ x0).setCell ⟨g, i * 3 + 1, none⟩ x1).setCell ⟨g, i * 3 + 2, none⟩ x2) B d g n c (l.set i y) := by
  have hn := h.len
  obtain ⟨xs, h1, h2⟩ := h
  have row := own_setIn' (own_setIn' (own_setIn' h1 (j := i * 3) (by omega) x0) (j := i * 3 + 1) (by omega) x1) (j := i * 3 + 2) (by omega) x2
  refine ⟨_, row, KidL.set ?_ i (h2.mono (fun t v q => ?_))⟩
  · refine hy.keep (by simp [World.setCell]) (fun b hs hl => ⟨hs, ?_⟩)
    rw [Below.heap_setCell _ _ _ _ (show b ≠ g from hs.2), Below.heap_setCell _ _ _ _ (show b ≠ g from hs.2), Below.heap_setCell _ _ _ _ (show b ≠ g from hs.2)]
  · refine NG.keep q (by simp [World.setCell]) (fun b hs hl => ⟨hs, ?_⟩)
    rw [Below.heap_setCell _ _ _ _ (show b ≠ g from hs.2), Below.heap_setCell _ _ _ _ (show b ≠ g from hs.2), Below.heap_setCell _ _ _ _ (show b ≠ g from hs.2)]
theorem KW.ng {T S : Nat → Prop} {w w' : World} {B d g n c : Nat} {l : List (Ro d)} {ka : Option Addr} {kc : Nat} (h : KW T w B d g n c l) (hl0 : 0 < n) (hz : w.heap.size ≤ w'.heap.size) (hb : ∀ b, T b → b < w.heap.size → S b ∧ w'.heap[b]? = w.heap[b]?) (hTg : T g) : NG S w' (d + 1) (.inr l) (.agg #[.bool false, .slice ka 0 kc, .slice (some ⟨g, 0, none⟩) n c]) := by
  have hn := h.len
  have hlt := h.lt
  obtain ⟨xs, h1, h2⟩ := h
  have hcap := own_cap h1
  obtain ⟨a, c', e, hf⟩ := own_form h1
  injection e with e
  subst e
  obtain ⟨g', e, _, _, hx⟩ := hf (by omega)
  injection e with e
  injection e with e
  subst e
  refine ⟨ka, kc, g, c, xs, by rw [hn], ⟨(hb g hTg hlt.2).1, by rw [hn]; exact hcap⟩, by omega, by omega, fun j u hj => (World.cell?_of_block (a := ⟨g, j, none⟩) (hb g hTg hlt.2).2).trans (hx j u hj), h2.mono (fun t v q => NG.keep q hz (fun b hs hl => hb b hs.1 hl))⟩
end Go.Proofs.Ytakemeccigpbaaa

namespace Go.Proofs.Ytakemeccigpbaaa
open Go.RowKit Go.Deep
set_option linter.unusedVariables false
set_option maxRecDepth 100000

theorem sizeD_any {S : Nat → Prop} {w0 : World} {d : Nat} {t : Ro d} {v : Value} (hv : NG S w0 d t v) (W : World) : Calls Try.prog 68 #[v] W fun e w' => e = .returned (.int .i64 (sizD t : Int)) ∧ Below W.heap.size W w' := by
  match d, t, hv with
  | 0, t, _ => exact t.elim
  | d + 1, t, hv =>
    obtain ⟨lf, ka, kn, kc, ca, cn, cc, rfl⟩ := NestAt.form hv
    have hsz := hv.size
    exact (size_any lf ka ca kn kc cn cc W).mono (fun e w' h => ⟨by
      rw [h.1, show sizD (d := d + 1) t = sizR t from rfl, ← hsz]
      cases lf <;> rfl, h.2⟩)
theorem partD_any {S : Nat → Prop} {w : World} {d : Nat} {t : Ro d} {v : Value} (hv : NG S w d t v) (lo hi : Nat) (h0 : lo < hi) (h1 : hi ≤ sizD t) (hL : sizD t ≤ 1000) : Calls Try.prog 70 #[v, .int .i64 (lo : Int), .int .i64 (hi : Int)] w (RetG3 S w d (cutD lo hi t)) := by
  match d, t, hv, h1, hL with
  | 0, t, _, _, _ => exact t.elim
  | d + 1, t, hv, h1, hL => exact part_any d t v lo hi S w hv h0 h1 hL
theorem joinD_any {S : Nat → Prop} {w : World} {d h : Nat} {t u : Ro d} {v x : Value} (hv : NG S w d t v) (hx : NG S w d u x) (ht : BalU d t h) (hu : BalU d u h) : Calls Try.prog 69 #[v, x] w (RetG3 S w d (joinD t u)) := by
  match d, t, u, hv, hx, ht, hu with
  | 0, t, _, _, _, _, _ => exact t.elim
  | d + 1, .inl L, .inl M, hv, hx, ht, hu => exact join_leaf d L M v x S w hv hx (by have := ht.2; omega) (by have := hu.2; omega)
  | d + 1, .inr l, .inr m, hv, hx, ht, hu => exact join_inner d l m v x S w hv hx (by have := ht.2.1; omega) (by have := hu.2.1; omega)
  | d + 1, .inl L, .inr m, hv, hx, ht, hu => exact absurd hu.2.2 (by rintro ⟨q, e, _⟩; have := ht.1; omega)
  | d + 1, .inr l, .inl M, hv, hx, ht, hu => exact absurd ht.2.2 (by rintro ⟨q, e, _⟩; have := hu.1; omega)

/-- The state of l3Del once the children are its own. -/
structure DS (S : Nat → Prop) (w W : World) (B d g n c : Nat) (l : List (Ro d)) : Prop where
  kw : KW (fun b => (S b ∧ b < w.heap.size) ∨ w.heap.size + 2 ≤ b) W B d g n c l
  bel : Below w.heap.size w W
  box : Bx W (w.heap.size + 1) 67 #[.bool false, .slice none 0 0, .slice none 0 0]
  sz : w.heap.size + 2 ≤ B
theorem DS.below {S : Nat → Prop} {w W W' : World} {B d g n c : Nat} {l : List (Ro d)} (h : DS S w W B d g n c l) (hb : Below W.heap.size W W') : DS S w W' B d g n c l :=
  ⟨h.kw.below hb, h.bel.trans (hb.mono h.bel.size), h.box.below hb, h.sz⟩
theorem DS.put {S : Nat → Prop} {w W : World} {B d g n c : Nat} {l : List (Ro d)} (h : DS S w W B d g n c l) (i : Nat) (hi : i < l.length) {y : Ro d} {x0 x1 x2 : Value} (hy : NG (fun b => ((S b ∧ b < w.heap.size) ∨ w.heap.size + 2 ≤ b) ∧ b ≠ g) W d y (.agg #[x0, x1, x2])) :
    DS S w (((W.setCell ⟨g, i * 3, none⟩ x0).setCell ⟨g, i * 3 + 1, none⟩ x1).setCell ⟨g, i * 3 + 2, none⟩ x2) B d g n c (l.set i y) := by
  have hlt := h.kw.lt
  have hs := h.sz
  refine ⟨h.kw.put i hi hy, ((h.bel.setCell (by show w.heap.size ≤ g; omega) _).setCell (by show w.heap.size ≤ g; omega) _).setCell (by show w.heap.size ≤ g; omega) _, ?_, hs⟩
  refine h.box.of_block ?_
  rw [Below.heap_setCell _ _ _ _ (show w.heap.size + 1 ≠ g by omega), Below.heap_setCell _ _ _ _ (show w.heap.size + 1 ≠ g by omega), Below.heap_setCell _ _ _ _ (show w.heap.size + 1 ≠ g by omega)]
theorem DS.new {S : Nat → Prop} {w W W' : World} {B d g n c : Nat} {l : List (Ro d)} {e : Nat} {y : Ro e} {v : Value} (h : DS S w W B d g n c l) (hb : Below W.heap.size W W') (hy : NG (fun b => (((S b ∧ b < w.heap.size) ∨ w.heap.size + 2 ≤ b) ∧ b ≠ g) ∨ W.heap.size ≤ b) W' e y v) : NG (fun b => ((S b ∧ b < w.heap.size) ∨ w.heap.size + 2 ≤ b) ∧ b ≠ g) W' e y v := by
  have hlt := h.kw.lt
  have hz := h.sz
  refine hy.wide (fun b hs _ => ?_)
  rcases hs with hs | hs
  · exact hs
  · exact ⟨Or.inr (by omega), by omega⟩
theorem DS.ret {S : Nat → Prop} {w W : World} {B d g n c : Nat} {l : List (Ro d)} (h : DS S w W B d g n c l) (hn : 0 < n) : RetG3 S w (d + 1) (.inr l) (.returned (.agg #[.bool false, .slice none 0 0, .slice (some ⟨g, 0, none⟩) n c])) (((W.setCell ⟨w.heap.size + 1, 0, none⟩ (.bool false)).setCell ⟨w.heap.size + 1, 1, none⟩ (.slice none 0 0)).setCell ⟨w.heap.size + 1, 2, none⟩ (.slice (some ⟨g, 0, none⟩) n c)) := by
  have hlt := h.kw.lt
  have hs := h.sz
  refine ⟨set3_below h.bel _ (by omega) _ _ _, _, _, _, _, _, _, _, rfl, ?_⟩
  refine h.kw.ng hn (by rw [set3_size]; exact Nat.le_refl _) (fun b hb _ => ⟨?_, set3_block _ _ _ _ _ _ (by rcases hb with hb | hb <;> omega)⟩) (Or.inr (by omega))
  rcases hb with hb | hb
  · exact Or.inl hb.1
  · exact Or.inr (by omega)

theorem step_tcc {ops : Array Oper} {o : Oper} {a : Act} {w : World} {K : Act → World → Prop} {Q : Exit → Act → World → Prop} {E : Prop} (hgd : o.guard = none) (k : Nat) (i : Nat) (v x : Value) (tys : Array TypeId)
    (ho : o.op = .call { callee := .value (.func k), args := #[.tmp i, .const v, .const x], argTypes := tys }) (u : Value) (hx : a.tmps[i]?.getD undef = u) (heg : ∀ args w, (callFunc k args).run Try.prog w = .ok (.enter k args) w)
    (h : Calls Try.prog k #[u, v, x] w fun e w' => ∃ r, e = .returned r ∧ K (a.put o.dst r) w') :
    if Region.wanted o (yielded ops a.tmps) = true then Oper.wp Try.prog o a w K Q else E := by
  have hw : Region.wanted o (yielded ops a.tmps) = true := by simp [Region.wanted, hgd]
  rw [if_pos hw]
  unfold Oper.wp
  simp [execOp, ho, resolve, invoke, hx, go_sem, heg]
  refine h.mono ?_
  rintro e w' ⟨u, rfl, hk⟩
  exact hk

theorem KW.cells {T : Nat → Prop} {w : World} {B d g n c : Nat} {l : List (Ro d)} (h : KW T w B d g n c l) (hn : 0 < n) : ∃ xs : List Value, Hid (xs.length = n * 3 ∧ (∀ j u, xs[j]? = some u → w.cell? ⟨g, j, none⟩ = some u) ∧ KidL (fun t v => NG (fun b => T b ∧ b ≠ g) w d t v) l xs) := by
  have hl := h.len
  obtain ⟨xs5, q1, q2⟩ := h
  obtain ⟨a, c', e, hf⟩ := own_form q1
  injection e with e
  subst e
  obtain ⟨g', e, _, _, hx⟩ := hf (by omega)
  injection e with e
  injection e with e
  subst e
  exact ⟨xs5, by have := q2.len; rw [this, hl], hx, q2⟩
theorem cut_len {i n : Nat} (h : i < n) : i + (n - (i + 1)) = n - 1 := by omega
theorem cut_ne {n : Nat} (h : 2 ≤ n) : n - 1 ≠ 0 := by omega
theorem wrap_pred (i : Nat) (h : 0 < i) (h2 : i ≤ 1000) : IntKind.i64.wrap ((i : Int) - 1) = ((i - 1 : Nat) : Int) := by rw [IntKind.wrap_i64]; omega
theorem step_app_kid1 {w : World} {ops : Array Oper} {o : Oper} {act : Act} {K : Act → World → Prop} {Q : Exit → Act → World → Prop} {E : Prop} (hgd : o.guard = none) (s x : Operand)
    (ho : o.op = .call { callee := .builtin .append, args := #[s, x], argTypes := #[65, 65] })
    (B : Nat) (v : Value) (n : Nat) (xs : List Value) (hs : act.eval s = v) (hown : w.ownsRow B 67 3 v n xs)
    (g c : Nat) (v0 v1 v2 : Value) (hx : act.eval x = .slice (some ⟨g, 0, none⟩) 1 c) (hc : ∀ j u, [v0, v1, v2][j]? = some u → w.cell? ⟨g, j, none⟩ = some u) (h1 : ∀ u ∈ [v0, v1, v2], u.oneCell' = true) (hnm : n ≤ 1048576) (hB : B ≤ w.heap.size)
    (h : ∀ v' w', w'.ownsRow B 67 3 v' (n + 1) (xs ++ [v0, v1, v2]) → w.grownBy w' v.ownBlock → (v'.ownBlock = v.ownBlock ∨ v'.ownBlock = some w.heap.size) → K (act.put o.dst v') w') :
    if Region.wanted o (yielded ops act.tmps) = true then Oper.wp Try.prog o act w K Q else E := by
  have hw : Region.wanted o (yielded ops act.tmps) = true := by simp [Region.wanted, hgd]
  rw [if_pos hw]
  obtain ⟨i0, hi, hz0, hz1, hz2⟩ := info_parts Try.info67
  obtain ⟨v', w', hr, h2, h3, h4, h5⟩ := run_append_own_at (P := Try.prog) w B 65 o.type 67 i0 _ 3 56 Try.underlying65 hi hz0 hz1 hz2 rfl (by decide) v n xs hown ⟨g, 0, none⟩ 1 c [v0, v1, v2] rfl (fun j u hj => by rw [addr_add, Nat.zero_add]; exact hc j u hj) h1 (by unfold maxLen; omega) (by omega) hB
  unfold Oper.wp execOp
  simp only [ho, resolve, invoke, builtin, Sem.run_bind, Sem.run_pure, Result.andThen_ok, List.map_toArray, List.map_cons, List.map_nil, hs, hx, hr]
  exact h v' w' h2 h3 h5

set_option maxHeartbeats 8000000 in
theorem del_any (key : ByteArray) : ∀ (d : Nat) (t : Ro d) (v : Value) (root : Bool) (h : Nat) (S : Nat → Prop) (w : World), NG S w d t v → BalR d root t h → Asc (keysR d t) → nodesR d t ≤ 5000 → (keysR d t).length ≤ 1099511627776 →
    Calls Try.prog 51 #[v, .string key] w (fun e w' => ∃ r, DelR key d t r ∧ RetG3 S w d r e w') := by
  intro d
  induction d with
  | zero => intro t; exact t.elim
  | succ d ih =>
    intro t v root h S w hv hbal hasc hnod hlen
    rcases t with L | l
    · refine (del_leaf d L v key S w hv (by obtain ⟨_, q, _⟩ := hbal; omega)).mono (fun e w' hr => ⟨_, rfl, hr⟩)
    · obtain ⟨b2, b4, h', rfl, hall⟩ := hbal
      have hasc' : Asc (l.flatMap (keysR d)) := hasc
      have HBal : Hid ((∀ t, t ∈ l → BalR d false t h') ∧ Asc (l.flatMap (keysR d))) := ⟨hall, hasc'⟩
      have HIH : Hid (∀ (i : Nat) (hi : i < l.length) (v : Value) (S : Nat → Prop) (w : World), NG S w d l[i] v → Calls Try.prog 51 #[v, .string key] w (fun e w' => ∃ y, DelR key d l[i] y ∧ RetG3 S w d y e w')) := by
        intro i hi v S w hv
        refine ih l[i] v false h' S w hv (hall _ (List.getElem_mem hi)) (asc_kid hasc' i hi) (by have := kid_le d l i hi; omega) ?_
        have : (keysR d l[i]).length ≤ (l.flatMap (keysR d)).length := kid_keys_le d l i hi
        have h3 : (l.flatMap (keysR d)).length ≤ 1099511627776 := hlen
        omega
      have HCh : Hid (∀ W, Below w.heap.size w W → Calls Try.prog 66 #[v, .string key] W fun e w' => ∃ i : Nat, e = .returned (.int .i64 (i : Int)) ∧ KidIs l key i ∧ Below W.heap.size W w') := fun W hW => child_any d l v key W (hv.below hW).na (fun k hk => bal_keys (hall _ (List.getElem_mem hk))) hnod (fun k hk => by
        have : (keysR d l[k]).length ≤ (l.flatMap (keysR d)).length := kid_keys_le d l k hk
        have h3 : (l.flatMap (keysR d)).length ≤ 1099511627776 := hlen
        omega)
      obtain ⟨ka, kc, b, cc, xs, rfl, ⟨hs, hcap⟩, hb, hl, hx, hk⟩ := hv
      obtain ⟨n, hn⟩ : ∃ n, n = l.length := ⟨_, rfl⟩
      have HLn : Hid (n = l.length) := hn
      have HXK : Hid ((∀ j u, xs[j]? = some u → w.cell? ⟨b, j, none⟩ = some u) ∧ KidL (fun t v => NG S w d t v) l xs ∧ b < w.heap.size) := ⟨hx, hk, hb⟩
      have HXl : Hid (xs.length = n * 3) := by have := hk.len; rw [← hn] at this; exact this
      rw [← hn] at hcap hl b2 b4 HCh ⊢
      obtain ⟨i0, hi0, hz0, hz1, hz2⟩ := info_parts Try.info67
      have HI : Hid (Try.prog.info? 67 = some i0 ∧ i0.zero = some (.agg #[.bool false, .slice none 0 0, .slice none 0 0]) ∧ i0.size = 3 ∧ i0.bytes = 56) := ⟨hi0, hz0, hz1, hz2⟩
      clear ih hasc hasc' hnod hlen hall hn hx hk hs hi0 hz0 hz1 hz2 hb
      go_enter Try.func51, Try.ntmps51
      go_wp2_with fail
      (with_reducible refine (HCh.out _ ((below_alloc _ _).alloc (by simp) _)).mono ?_)
      rintro e w2 ⟨i, rfl, hkid, hb2⟩
      have HK : Hid (KidIs l key i) := hkid
      have hin : i < n := by rw [HLn.out]; exact hkid.1
      have hbx := ((Bx.new w #[.bool false, .slice ka 0 kc, .slice (some ⟨b, 0, none⟩) n cc] 67).alloc (.cells #[.bool false, .slice none 0 0, .slice none 0 0] 67)).below hb2
      have hby := Bx.new (w.alloc (.cells #[.bool false, .slice ka 0 kc, .slice (some ⟨b, 0, none⟩) n cc] 67)) #[.bool false, .slice none 0 0, .slice none 0 0] 67
      rw [World.size_alloc] at hby
      have HB2 : Hid (Below w.heap.size w w2 ∧ w.heap.size + 2 ≤ w2.heap.size) := ⟨((below_alloc _ _).alloc (by simp) _).trans (hb2.mono (by simp; omega)), by have := hb2.size; simpa using this⟩
      have HBX2 : Hid (Bx w2 w.heap.size 67 #[.bool false, .slice ka 0 kc, .slice (some ⟨b, 0, none⟩) n cc] ∧ Bx w2 (w.heap.size + 1) 67 #[.bool false, .slice none 0 0, .slice none 0 0]) := ⟨hbx, hby.below hb2⟩
      have x2 := hbx.cell 2
      simp at x2
      have xz := hbx.lt
      have HO : Hid ((w2.alloc (.cells #[] 67)).ownsRow w2.heap.size 67 3 (.slice (some ⟨w2.heap.size, 0, none⟩) 0 0) 0 []) := own_empty w2 67 w2.heap.size 3 (Nat.le_refl _)
      have HY1 : Hid (∀ j u, xs[j]? = some u → (w2.alloc (.cells #[] 67)).cell? ⟨b, j, none⟩ = some u) := fun j u hj => ((HB2.out.1.alloc HB2.out.1.size _).cell (p := ⟨b, j, none⟩) HXK.out.2.2).trans (HXK.out.1 j u hj)
      clear hbx hby hb2 hkid HCh
      go_wp2_with (at_builtin; refine wpList_append_own_at _ rfl _ _ 65 rfl w2.heap.size 67 i0 _ 3 56 Try.underlying65 HI.out.1 HI.out.2.1 HI.out.2.2.1 HI.out.2.2.2 rfl (by decide) (.slice (some ⟨w2.heap.size, 0, none⟩) 0 0) 0 [] rfl HO.out ⟨b, 0, none⟩ n cc _ rfl HXl.out (fun j u hj => by rw [addr_add, Nat.zero_add]; exact HY1.out j u hj) (HXK.out.2.1.cells NG.one) (by unfold maxLen; omega) (by omega) (by simp) ?_)
      intro v3 w3 ho3 hg3 _ hat3
      obtain ⟨a3, c3, rfl, hf3⟩ := own_form ho3
      obtain ⟨g, rfl, hg1, hg2, _⟩ := hf3 (by omega)
      have HB3 : Hid (Below w.heap.size w w3 ∧ w2.heap.size + 1 ≤ w3.heap.size ∧ Bx w3 (w.heap.size + 1) 67 #[.bool false, .slice none 0 0, .slice none 0 0]) := by
        have q : Below w2.heap.size w2 w3 := (below_alloc _ _).grown hg3 (by simp) (fun g e => by simp [Value.ownBlock] at e; omega)
        exact ⟨HB2.out.1.trans (q.mono HB2.out.1.size), by have := hg3.size; simpa using this, HBX2.out.2.below q⟩
      have HKW : Hid (KW (fun b => (S b ∧ b < w.heap.size) ∨ w.heap.size + 2 ≤ b) w3 w2.heap.size d g n c3 l) := by
        refine ⟨xs, ho3, HXK.out.2.1.mono (fun t v q => NG.keep q HB3.out.1.size (fun b hs hl => ⟨⟨Or.inl ⟨hs, hl⟩, ?_⟩, HB3.out.1.block b hl⟩))⟩
        have := HB2.out.2
        omega
      have hcap3 := own_cap ho3
      clear ho3 hg3 hat3 HO x2 hf3
      have hil : i < l.length := by rw [← HLn.out]; exact hin
      obtain ⟨lf1, ka1, kn1, kc1, ca1, cn1, cc1, z0, z1, z2, hng⟩ := HKW.out.get i hil
      have HCall : Hid (Calls Try.prog 51 #[.agg #[.bool lf1, .slice ka1 kn1 kc1, .slice ca1 cn1 cc1], .string key] w3 (fun e w' => ∃ y, DelR key d l[i] y ∧ RetG3 (fun b => ((S b ∧ b < w.heap.size) ∨ w.heap.size + 2 ≤ b) ∧ b ≠ g) w3 d y e w')) := HIH.out i hil _ _ w3 hng
      have i0' : (0 : Int) ≤ (i : Int) := by omega
      have i1' : (i : Int) < (n : Int) := by omega
      clear hng HIH
      go_wp2_with fail
      (with_reducible refine HCall.out.mono ?_)
      rintro e w4 ⟨y, hdel, hb4, lfy, kay, kny, kcy, cay, cny, ccy, rfl, hgy⟩
      have hz2 := HB2.out.2
      have HD4 : Hid (DS S w w4 w2.heap.size d g n c3 l) := ⟨HKW.out.below hb4, HB3.out.1.trans (hb4.mono HB3.out.1.size), HB3.out.2.2.below hb4, hz2⟩
      have HDel : Hid (DelR key d l[i] y) := hdel
      have HY4 : Hid (NG (fun b => ((S b ∧ b < w.heap.size) ∨ w.heap.size + 2 ≤ b) ∧ b ≠ g) w4 d y (.agg #[.bool lfy, .slice kay kny kcy, .slice cay cny ccy])) := by
        refine hgy.wide (fun b hs _ => ?_)
        rcases hs with hs | hs
        · exact hs
        · have := HB3.out.2.1
          exact ⟨Or.inr (by omega), by omega⟩
      have gf := fun j => HD4.out.kw.frozen j
      clear hgy hb4 hdel HCall z0 z1 z2
      obtain ⟨lf5, ka5, kn5, kc5, ca5, cn5, cc5, z0, z1, z2, _⟩ := HD4.out.kw.get i hil
      have hgl := HD4.out.kw.lt
      have HD5 : Hid (DS S w (((w4.setCell ⟨g, i * 3, none⟩ (.bool lfy)).setCell ⟨g, i * 3 + 1, none⟩ (.slice kay kny kcy)).setCell ⟨g, i * 3 + 2, none⟩ (.slice cay cny ccy)) w2.heap.size d g n c3 (l.set i y)) := HD4.out.put i hil HY4.out
      have HSy : Hid (∀ W : World, Calls Try.prog 68 #[.agg #[.bool lfy, .slice kay kny kcy, .slice cay cny ccy]] W fun e w' => e = .returned (.int .i64 (sizD y : Int)) ∧ Below W.heap.size W w') := fun W => sizeD_any HY4.out W
      have HBy : Hid (BalU d y h' ∧ 1 ≤ sizD y ∧ sizD y ≤ 4) := by
        have hli := HBal.out.1 _ (List.getElem_mem hil)
        have q := DelR.bal hli (asc_kid HBal.out.2 i hil) HDel.out
        have q2 := hli.siz
        exact ⟨q.1, by omega, q.1.le⟩
      obtain ⟨sy, hsy⟩ : ∃ sy, sy = sizD y := ⟨_, rfl⟩
      have HSyE : Hid (sy = sizD y) := hsy
      have hsy4 : sy ≤ 4 := by rw [hsy]; exact HBy.out.2.2
      rw [← hsy] at HSy
      clear hsy
      go_wp2_with fail
      (with_reducible refine (HSy.out _).mono ?_)
      rintro e w6 ⟨rfl, hb6⟩
      have HD6 : Hid (DS S w w6 w2.heap.size d g n c3 (l.set i y)) := HD5.out.below hb6
      clear hb6 z0 z1 z2 gf HD4 HY4 HD5 hgl
      have r0 := HD6.out.box.cell 0
      have r1 := HD6.out.box.cell 1
      have r2 := HD6.out.box.cell 2
      simp at r0 r1 r2
      have hf := fun i => HD6.out.box.frozen i
      have hbl := HD6.out.box.lt
      by_cases hfull : 2 ≤ sy
      · have hfd : decide ((2 : Int) ≤ (sy : Int)) = true := decide_eq_true (by omega)
        have hfi : (2 : Int) ≤ (sy : Int) := by omega
        have hfi2 : (sy : Int) ≥ 2 := by omega
        go_wp2
        refine bodyPost_ret (v := .agg #[.bool false, .slice none 0 0, .slice (some ⟨g, 0, none⟩) n c3]) (by simp [results, Try.results51, go_sem, r0, r1, r2]) rfl ⟨.inr (l.set i y), ⟨i, HK.out, hil, y, HDel.out, ?_⟩, HD6.out.ret (by omega)⟩
        rw [fixD_full (y := y) (by simp [hil]) (by rw [← HSyE.out]; exact hfull)]
      · have hfd : decide ((2 : Int) ≤ (sy : Int)) = false := decide_eq_false (by omega)
        have hfi : ¬ (2 : Int) ≤ (sy : Int) := by omega
        obtain ⟨l5, hl5⟩ : ∃ l5, l5 = l.set i y := ⟨_, rfl⟩
        have HL5 : Hid (l5 = l.set i y ∧ l5[i]? = some y ∧ ∀ j t, l5[j]? = some t → j ≠ i → BalR d false t h') := by
          refine ⟨hl5, by rw [hl5]; simp [hil], fun j t ht hj => ?_⟩
          rw [hl5, List.getElem?_set_ne (by omega)] at ht
          exact HBal.out.1 t (List.mem_of_getElem? ht)
        have hn5 : l5.length = n := by rw [hl5, List.length_set, HLn.out]
        rw [← hl5] at HD6
        have HFin : Hid (∀ r, r = fixD l5 i → DelR key (d + 1) (.inr l) (.inr r)) := fun r hr => ⟨i, HK.out, hil, y, HDel.out, by rw [← HL5.out.1, hr]⟩
        have HNy : Hid (¬ 2 ≤ sizD y) := by rw [← HSyE.out]; exact hfull
        clear hl5
        have hsy1 : sy = 1 := by have := HBy.out.2.1; rw [← HSyE.out] at this; omega
        by_cases hi0 : 0 < i
        · skip
          have hi0d : decide ((0 : Int) < (i : Int)) = true := decide_eq_true (by omega)
          have hi0i : (0 : Int) < (i : Int) := by omega
          obtain ⟨lfz, kaz, knz, kcz, caz, cnz, ccz, z0, z1, z2, hngz⟩ := HD6.out.kw.get (i - 1) (by omega)
          have hgz : l5[i - 1]? = some (l5[i - 1]'(by omega)) := List.getElem?_eq_getElem (by omega)
          generalize l5[i - 1]'(by omega) = z at hngz hgz
          have HZ : Hid (l5[i - 1]? = some z ∧ BalR d false z h') := ⟨hgz, HL5.out.2.2 (i - 1) z hgz (by omega)⟩
          have HNGz : Hid (NG (fun b => ((S b ∧ b < w.heap.size) ∨ w.heap.size + 2 ≤ b) ∧ b ≠ g) w6 d z (.agg #[.bool lfz, .slice kaz knz kcz, .slice caz cnz ccz])) := hngz
          have HSz : Hid (∀ W : World, Calls Try.prog 68 #[.agg #[.bool lfz, .slice kaz knz kcz, .slice caz cnz ccz]] W fun e w' => e = .returned (.int .i64 (sizD z : Int)) ∧ Below W.heap.size W w') := fun W => sizeD_any HNGz.out W
          obtain ⟨sz, hsz⟩ : ∃ sz, sz = sizD z := ⟨_, rfl⟩
          have HSzE : Hid (sz = sizD z) := hsz
          have hsz4 : sz ≤ 4 ∧ 2 ≤ sz := by rw [hsz]; exact ⟨(BalU.of HZ.out.2).le, HZ.out.2.siz⟩
          rw [← hsz] at HSz
          clear hsz hngz hgz
          go_wp2_with fail
          (with_reducible refine (HSz.out _).mono ?_)
          rintro e w7 ⟨rfl, hb7⟩
          have HD7 : Hid (DS S w w7 w2.heap.size d g n c3 l5) := HD6.out.below hb7
          have HZ7 : Hid (NG (fun b => ((S b ∧ b < w.heap.size) ∨ w.heap.size + 2 ≤ b) ∧ b ≠ g) w7 d z (.agg #[.bool lfz, .slice kaz knz kcz, .slice caz cnz ccz]) ∧ w7.cell? ⟨g, (i - 1) * 3, none⟩ = some (.bool lfz) ∧ w7.cell? ⟨g, (i - 1) * 3 + 1, none⟩ = some (.slice kaz knz kcz) ∧ w7.cell? ⟨g, (i - 1) * 3 + 2, none⟩ = some (.slice caz cnz ccz)) := by
            have hgl := HD6.out.kw.lt
            exact ⟨HNGz.out.below hb7, (hb7.cell (p := ⟨g, _, none⟩) hgl.2).trans z0, (hb7.cell (p := ⟨g, _, none⟩) hgl.2).trans z1, (hb7.cell (p := ⟨g, _, none⟩) hgl.2).trans z2⟩
          clear z0 z1 z2 hb7 HNGz r0 r1 r2 hf hbl
          by_cases h3 : 2 < sz
          · have h3d : decide ((2 : Int) < (sz : Int)) = true := decide_eq_true (by omega)
            have h3i : (2 : Int) < (sz : Int) := by omega
            obtain ⟨_, z0, z1, z2⟩ := HZ7.out
            go_wp2_with fail
            (with_reducible refine (HSz.out _).mono ?_)
            rintro e w8 ⟨rfl, hb8⟩
            have hgl7 := HD7.out.kw.lt
            have HD8 : Hid (DS S w w8 w2.heap.size d g n c3 l5) := HD7.out.below hb8
            have HZ8 : Hid (NG (fun b => ((S b ∧ b < w.heap.size) ∨ w.heap.size + 2 ≤ b) ∧ b ≠ g) w8 d z (.agg #[.bool lfz, .slice kaz knz kcz, .slice caz cnz ccz]) ∧ w8.cell? ⟨g, (i - 1) * 3, none⟩ = some (.bool lfz) ∧ w8.cell? ⟨g, (i - 1) * 3 + 1, none⟩ = some (.slice kaz knz kcz) ∧ w8.cell? ⟨g, (i - 1) * 3 + 2, none⟩ = some (.slice caz cnz ccz)) := ⟨HZ7.out.1.below hb8, (hb8.cell (p := ⟨g, _, none⟩) hgl7.2).trans z0, (hb8.cell (p := ⟨g, _, none⟩) hgl7.2).trans z1, (hb8.cell (p := ⟨g, _, none⟩) hgl7.2).trans z2⟩
            clear z0 z1 z2 hb8 hgl7 HZ7 HD7
            obtain ⟨lfq, kaq, knq, kcq, caq, cnq, ccq, y0, y1, y2, hngy⟩ := HD8.out.kw.get i (by omega)
            have hgy' : l5[i]'(by omega) = y := by
              have q := HL5.out.2.1
              rw [List.getElem?_eq_getElem (by omega)] at q
              injection q
            rw [hgy'] at hngy
            have hgl8 := HD8.out.kw.lt
            have HNG8 : Hid (NG (fun b => ((S b ∧ b < w.heap.size) ∨ w.heap.size + 2 ≤ b) ∧ b ≠ g) w8.drew d z (.agg #[.bool lfz, .slice kaz knz kcz, .slice caz cnz ccz]) ∧ NG (fun b => ((S b ∧ b < w.heap.size) ∨ w.heap.size + 2 ≤ b) ∧ b ≠ g) w8.drew d y (.agg #[.bool lfq, .slice kaq knq kcq, .slice caq cnq ccq]) ∧ DS S w w8.drew w2.heap.size d g n c3 l5) := ⟨HZ8.out.1.below (Below.refl _ _).drew, NG.below hngy (Below.refl _ _).drew, HD8.out.below (Below.refl _ _).drew⟩
            have HKeep : Hid (∀ w', Below w8.drew.heap.size w8.drew w' → w'.cell? ⟨g, (i - 1) * 3, none⟩ = some (.bool lfz) ∧ w'.cell? ⟨g, (i - 1) * 3 + 1, none⟩ = some (.slice kaz knz kcz) ∧ w'.cell? ⟨g, (i - 1) * 3 + 2, none⟩ = some (.slice caz cnz ccz) ∧ w'.cell? ⟨g, i * 3, none⟩ = some (.bool lfq) ∧ w'.cell? ⟨g, i * 3 + 1, none⟩ = some (.slice kaq knq kcq) ∧ w'.cell? ⟨g, i * 3 + 2, none⟩ = some (.slice caq cnq ccq)) := by
              intro w' hb
              obtain ⟨_, z0, z1, z2⟩ := HZ8.out
              have hgl' : g < w8.drew.heap.size := hgl8.2
              exact ⟨(hb.cell (p := ⟨g, _, none⟩) hgl').trans z0, (hb.cell (p := ⟨g, _, none⟩) hgl').trans z1, (hb.cell (p := ⟨g, _, none⟩) hgl').trans z2, (hb.cell (p := ⟨g, _, none⟩) hgl').trans y0, (hb.cell (p := ⟨g, _, none⟩) hgl').trans y1, (hb.cell (p := ⟨g, _, none⟩) hgl').trans y2⟩
            have hwr : IntKind.i64.wrap ((sz : Int) - 1) = ((sz - 1 : Nat) : Int) := by rw [IntKind.wrap_i64]; omega
            have hwi : IntKind.i64.wrap ((i : Int) - 1) = ((i - 1 : Nat) : Int) := by rw [IntKind.wrap_i64]; omega
            have i0m : (0 : Int) ≤ ((i - 1 : Nat) : Int) := by omega
            have i1m : ((i - 1 : Nat) : Int) < (n : Int) := by omega
            have HP1 : Hid (Calls Try.prog 70 #[.agg #[.bool lfz, .slice kaz knz kcz, .slice caz cnz ccz], .int .i64 (IntKind.i64.wrap ((sz : Int) - 1)), .int .i64 (sz : Int)] w8.drew (RetG3 (fun b => ((S b ∧ b < w.heap.size) ∨ w.heap.size + 2 ≤ b) ∧ b ≠ g) w8.drew d (cutD (sz - 1) sz z))) := by
              rw [hwr]
              exact partD_any HNG8.out.1 (sz - 1) sz (by omega) (by rw [HSzE.out]; exact Nat.le_refl _) (by rw [← HSzE.out]; omega)
            obtain ⟨_, z0, z1, z2⟩ := HZ8.out
            clear hngy hwr
            go_wp2_with fail
            generalize hR : w8.drew = R at HNG8 HKeep HP1
            refine wp_region_late (S := fun w' => w'.cell? ⟨g, (i - 1) * 3, none⟩ = some (.bool lfz) ∧ w'.cell? ⟨g, (i - 1) * 3 + 1, none⟩ = some (.slice kaz knz kcz) ∧ w'.cell? ⟨g, (i - 1) * 3 + 2, none⟩ = some (.slice caz cnz ccz) ∧ w'.cell? ⟨g, i * 3, none⟩ = some (.bool lfq) ∧ w'.cell? ⟨g, i * 3 + 1, none⟩ = some (.slice kaq knq kcq) ∧ w'.cell? ⟨g, i * 3 + 2, none⟩ = some (.slice caq cnq ccq)) 17 (by kernel_rfl) ?_ (fun hHeld => ?_)
            · (rw [hR]; exact HKeep.out _ (Below.refl _ _))
            rw [hR] at hHeld ⊢
            clear hR z0 z1 z2 y0 y1 y2
            refine late_take 0 .zero (v := ?_) (by kernel_rfl) (by kernel_rfl) (by kernel_rfl) (by kernel_rfl) (fun _ _ _ h => h) (by rfl) ?_ (by assumption) ?_
            rotate_left
            · (intro w hSw; (try dsimp only at hSw); go_simp) <;> with_reducible rfl
            simp only [Act.put, List.setIfInBounds_toArray, List.set_cons_zero, List.set_cons_succ]
            refine late_take 1 (.succ .zero) (v := ?_) (by kernel_rfl) (by kernel_rfl) (by kernel_rfl) (by kernel_rfl) (fun _ _ _ h => h) (by rfl) ?_ (by assumption) ?_
            rotate_left
            · (intro w hSw; (try dsimp only at hSw); go_simp) <;> with_reducible rfl
            simp only [Act.put, List.setIfInBounds_toArray, List.set_cons_zero, List.set_cons_succ]
            refine late_take 2 (.succ (.succ .zero)) (v := ?_) (by kernel_rfl) (by kernel_rfl) (by kernel_rfl) (by kernel_rfl) (fun _ _ _ h => h) (by rfl) ?_ (by assumption) ?_
            rotate_left
            · (intro w hSw; (try dsimp only at hSw); go_simp) <;> with_reducible rfl
            simp only [Act.put, List.setIfInBounds_toArray, List.set_cons_zero, List.set_cons_succ]
            refine late_take 3 (.succ (.succ (.succ .zero))) (v := ?_) (by kernel_rfl) (by kernel_rfl) (by kernel_rfl) (by kernel_rfl) (fun _ _ _ h => h) (by rfl) ?_ (by assumption) ?_
            rotate_left
            · (intro w hSw; (try dsimp only at hSw); go_simp) <;> with_reducible rfl
            simp only [Act.put, List.setIfInBounds_toArray, List.set_cons_zero, List.set_cons_succ]
            refine late_take 4 (.succ (.succ (.succ (.succ .zero)))) (v := ?_) (by kernel_rfl) (by kernel_rfl) (by kernel_rfl) (by kernel_rfl) (fun _ _ _ h => h) (by rfl) ?_ (by assumption) ?_
            rotate_left
            · (intro w hSw; (try dsimp only at hSw); go_simp) <;> with_reducible rfl
            simp only [Act.put, List.setIfInBounds_toArray, List.set_cons_zero, List.set_cons_succ]
            refine late_take 5 (.succ (.succ (.succ (.succ (.succ .zero))))) (v := ?_) (by kernel_rfl) (by kernel_rfl) (by kernel_rfl) (by kernel_rfl) (fun _ _ _ h => h) (by rfl) ?_ (by assumption) ?_
            rotate_left
            · (intro w hSw; (try dsimp only at hSw); go_simp) <;> with_reducible rfl
            simp only [Act.put, List.setIfInBounds_toArray, List.set_cons_zero, List.set_cons_succ]
            refine late_take 6 (.succ (.succ (.succ (.succ (.succ (.succ .zero)))))) (v := ?_) (by kernel_rfl) (by kernel_rfl) (by kernel_rfl) (by kernel_rfl) (fun _ _ _ h => h) (by rfl) ?_ (by assumption) ?_
            rotate_left
            · (intro w hSw; (try dsimp only at hSw); go_simp) <;> with_reducible rfl
            simp only [Act.put, List.setIfInBounds_toArray, List.set_cons_zero, List.set_cons_succ]
            refine late_take 7 (.succ (.succ (.succ (.succ (.succ (.succ (.succ .zero))))))) (v := ?_) (by kernel_rfl) (by kernel_rfl) (by kernel_rfl) (by kernel_rfl) (fun _ _ _ h => h) (by rfl) ?_ (by assumption) ?_
            rotate_left
            · (intro w hSw; (try dsimp only at hSw); go_simp) <;> with_reducible rfl
            simp only [Act.put, List.setIfInBounds_toArray, List.set_cons_zero, List.set_cons_succ]
            refine late_take 8 (.succ (.succ (.succ (.succ (.succ (.succ (.succ (.succ .zero)))))))) (v := ?_) (by kernel_rfl) (by kernel_rfl) (by kernel_rfl) (by kernel_rfl) (fun _ _ _ h => h) (by rfl) ?_ (by assumption) ?_
            rotate_left
            · (intro w hSw; (try dsimp only at hSw); go_simp) <;> with_reducible rfl
            simp only [Act.put, List.setIfInBounds_toArray, List.set_cons_zero, List.set_cons_succ]
            refine late_take 9 (.succ (.succ (.succ (.succ (.succ (.succ (.succ (.succ (.succ .zero))))))))) (v := ?_) (by kernel_rfl) (by kernel_rfl) (by kernel_rfl) (by kernel_rfl) (fun _ _ _ h => h) (by rfl) ?_ (by assumption) ?_
            rotate_left
            · (intro w hSw; (try dsimp only at hSw); go_simp) <;> with_reducible rfl
            simp only [Act.put, List.setIfInBounds_toArray, List.set_cons_zero, List.set_cons_succ]
            refine late_take 11 (.succ (.succ (.succ (.succ (.succ (.succ (.succ (.succ (.succ (.succ (.succ .zero))))))))))) (v := ?_) (by kernel_rfl) (by kernel_rfl) (by kernel_rfl) (by kernel_rfl) (fun _ _ _ h => h) (by rfl) ?_ (by assumption) ?_
            rotate_left
            · (intro w hSw; (try dsimp only at hSw); go_simp) <;> with_reducible rfl
            simp only [Act.put, List.setIfInBounds_toArray, List.set_cons_zero, List.set_cons_succ]
            refine late_take 12 (.succ (.succ (.succ (.succ (.succ (.succ (.succ (.succ (.succ (.succ (.succ (.succ .zero)))))))))))) (v := ?_) (by kernel_rfl) (by kernel_rfl) (by kernel_rfl) (by kernel_rfl) (fun _ _ _ h => h) (by rfl) ?_ (by assumption) ?_
            rotate_left
            · (intro w hSw; (try dsimp only at hSw); go_simp) <;> with_reducible rfl
            simp only [Act.put, List.setIfInBounds_toArray, List.set_cons_zero, List.set_cons_succ]
            refine late_take 13 (.succ (.succ (.succ (.succ (.succ (.succ (.succ (.succ (.succ (.succ (.succ (.succ (.succ .zero))))))))))))) (v := ?_) (by kernel_rfl) (by kernel_rfl) (by kernel_rfl) (by kernel_rfl) (fun _ _ _ h => h) (by rfl) ?_ (by assumption) ?_
            rotate_left
            · (intro w hSw; (try dsimp only at hSw); go_simp) <;> with_reducible rfl
            simp only [Act.put, List.setIfInBounds_toArray, List.set_cons_zero, List.set_cons_succ]
            refine late_take 14 (.succ (.succ (.succ (.succ (.succ (.succ (.succ (.succ (.succ (.succ (.succ (.succ (.succ (.succ .zero)))))))))))))) (v := ?_) (by kernel_rfl) (by kernel_rfl) (by kernel_rfl) (by kernel_rfl) (fun _ _ _ h => h) (by rfl) ?_ (by assumption) ?_
            rotate_left
            · (intro w hSw; (try dsimp only at hSw); go_simp) <;> with_reducible rfl
            simp only [Act.put, List.setIfInBounds_toArray, List.set_cons_zero, List.set_cons_succ]
            refine late_one 10 (.succ (.succ (.succ (.succ (.succ (.succ (.succ (.succ (.succ (.succ .zero)))))))))) (by kernel_rfl) (fun K hK => ?_)
            refine step_t3 (by rfl) 70 86 88 89 _ (by rfl) (.agg #[.bool lfz, .slice kaz knz kcz, .slice caz cnz ccz]) (.int .i64 (IntKind.i64.wrap ((sz : Int) - 1))) (.int .i64 (sz : Int)) (by rfl) (by rfl) (by rfl) (fun _ _ => by rfl) ?_
            (with_reducible refine HP1.out.mono ?_)
            rintro e w9 ⟨hb9, lfp, kap, knp, kcp, cap, cnp, ccp, rfl, hgp⟩
            refine ⟨_, rfl, ?_⟩
            have HB9 : Hid (Below R.heap.size R w9 ∧ NG (fun b => ((S b ∧ b < w.heap.size) ∨ w.heap.size + 2 ≤ b) ∧ b ≠ g) w9 d (cutD (sz - 1) sz z) (.agg #[.bool lfp, .slice kap knp kcp, .slice cap cnp ccp])) := ⟨hb9, HNG8.out.2.2.new hb9 hgp⟩
            clear hgp hb9
            refine hK.out _ _ ?_ (fun hHeld2 => ?_)
            · (intro _; exact HKeep.out _ HB9.out.1)
            clear hK K
            replace hHeld := hHeld2 (by decide)
            clear hHeld2
            try simp only [Act.put, List.setIfInBounds_toArray, List.set_cons_zero, List.set_cons_succ]
            have HJ : Hid (Calls Try.prog 69 #[.agg #[.bool lfp, .slice kap knp kcp, .slice cap cnp ccp], .agg #[.bool lfq, .slice kaq knq kcq, .slice caq cnq ccq]] w9 (RetG3 (fun b => ((S b ∧ b < w.heap.size) ∨ w.heap.size + 2 ≤ b) ∧ b ≠ g) w9 d (joinD (cutD (sz - 1) sz z) y))) := joinD_any HB9.out.2 (NG.below HNG8.out.2.1 HB9.out.1) ((BalU.of HZ.out.2).cut (lo := sz - 1) (hi := sz) (by omega) (by rw [HSzE.out]; exact Nat.le_refl _)).1 HBy.out.1
            refine late_one 15 (.succ (.succ (.succ (.succ (.succ (.succ (.succ (.succ (.succ (.succ (.succ (.succ (.succ (.succ (.succ .zero))))))))))))))) (by kernel_rfl) (fun K hK => ?_)
            refine step_t2 (by rfl) 69 90 94 _ (by rfl) (.agg #[.bool lfp, .slice kap knp kcp, .slice cap cnp ccp]) (.agg #[.bool lfq, .slice kaq knq kcq, .slice caq cnq ccq]) (by rfl) (by rfl) (fun _ _ => by rfl) ?_
            (with_reducible refine HJ.out.mono ?_)
            rintro e w10 ⟨hb10, lfj, kaj, knj, kcj, caj, cnj, ccj, rfl, hgj⟩
            refine ⟨_, rfl, ?_⟩
            have HD9 : Hid (DS S w w9 w2.heap.size d g n c3 l5) := HNG8.out.2.2.below HB9.out.1
            have HB10 : Hid (Below R.heap.size R w10 ∧ NG (fun b => ((S b ∧ b < w.heap.size) ∨ w.heap.size + 2 ≤ b) ∧ b ≠ g) w10 d (joinD (cutD (sz - 1) sz z) y) (.agg #[.bool lfj, .slice kaj knj kcj, .slice caj cnj ccj]) ∧ DS S w w10 w2.heap.size d g n c3 l5) := ⟨HB9.out.1.trans (hb10.mono HB9.out.1.size), HD9.out.new hb10 hgj, HD9.out.below hb10⟩
            clear hgj hb10 HD9 HJ
            refine hK.out _ _ ?_ (fun hHeld2 => ?_)
            · (intro _; exact HKeep.out _ HB10.out.1)
            clear hK K
            replace hHeld := hHeld2 (by decide)
            clear hHeld2
            try simp only [Act.put, List.setIfInBounds_toArray, List.set_cons_zero, List.set_cons_succ]
            refine late_one 16 (.succ (.succ (.succ (.succ (.succ (.succ (.succ (.succ (.succ (.succ (.succ (.succ (.succ (.succ (.succ (.succ .zero)))))))))))))))) (by kernel_rfl) (fun K hK => ?_)
            go_simp
            refine hK.out _ _ ?_ (fun hHeld2 => ?_)
            · (intro _; exact hHeld)
            clear hK K
            replace hHeld := hHeld2 (by decide)
            clear hHeld2
            try simp only [Act.put, List.setIfInBounds_toArray, List.set_cons_zero, List.set_cons_succ]
            obtain ⟨u0, u1, u2, u3, u4, u5⟩ := HKeep.out w10 HB10.out.1
            have gf := fun j => HB10.out.2.2.kw.frozen j
            refine late_one 17 (.succ (.succ (.succ (.succ (.succ (.succ (.succ (.succ (.succ (.succ (.succ (.succ (.succ (.succ (.succ (.succ (.succ .zero))))))))))))))))) (by kernel_rfl) (fun K hK => ?_)
            go_simp
            refine hK.out _ _ ?_ (fun hHeld2 => ?_)
            · (intro hne; exact absurd rfl hne)
            clear hK K hHeld2
            refine wpLate_done (by kernel_rfl) ?_ _
            have HJN : Hid (l5.length = n ∧ (l5.set i (joinD (cutD (sz - 1) sz z) y)).length = n) := ⟨hn5, by rw [List.length_set, hn5]⟩
            have HD11 : Hid (DS S w (((w10.setCell ⟨g, i * 3, none⟩ (.bool lfj)).setCell ⟨g, i * 3 + 1, none⟩ (.slice kaj knj kcj)).setCell ⟨g, i * 3 + 2, none⟩ (.slice caj cnj ccj)) w2.heap.size d g n c3 (l5.set i (joinD (cutD (sz - 1) sz z) y))) := HB10.out.2.2.put i (by omega) HB10.out.2.1
            clear u0 u1 u2 u3 u4 u5 gf hHeld HB10 HB9 HP1 HKeep HNG8 HD8 HZ8
            generalize ((w10.setCell ⟨g, i * 3, none⟩ (.bool lfj)).setCell ⟨g, i * 3 + 1, none⟩ (.slice kaj knj kcj)).setCell ⟨g, i * 3 + 2, none⟩ (.slice caj cnj ccj) = w11 at HD11 ⊢
            obtain ⟨lfr, kar, knr, kcr, car, cnr, ccr, z0, z1, z2, hngr⟩ := HD11.out.kw.get (i - 1) (by rw [List.length_set]; omega)
            have hgr : (l5.set i (joinD (cutD (sz - 1) sz z) y))[i - 1]'(by rw [List.length_set]; omega) = z := by
              rw [List.getElem_set_ne (by omega)]
              have q := HZ.out.1
              rw [List.getElem?_eq_getElem (by omega)] at q
              injection q
            rw [hgr] at hngr
            have HP2 : Hid (Calls Try.prog 70 #[.agg #[.bool lfr, .slice kar knr kcr, .slice car cnr ccr], .int .i64 0, .int .i64 ((sz - 1 : Nat) : Int)] w11 (RetG3 (fun b => ((S b ∧ b < w.heap.size) ∨ w.heap.size + 2 ≤ b) ∧ b ≠ g) w11 d (cutD 0 (sz - 1) z))) := partD_any hngr 0 (sz - 1) (by omega) (by rw [← HSzE.out]; omega) (by rw [← HSzE.out]; omega)
            have hgl11 := HD11.out.kw.lt
            have gf := fun j => HD11.out.kw.frozen j
            have hs1 : (sz : Int) - 1 = ((sz - 1 : Nat) : Int) := by omega
            clear hngr hgr
            go_wp2_with fail
            (with_reducible refine HP2.out.mono ?_)
            rintro e w12 ⟨hb12, lfs, kas, kns, kcs, cas, cns, ccs, rfl, hgs⟩
            have HD12 : Hid (DS S w w12 w2.heap.size d g n c3 (l5.set i (joinD (cutD (sz - 1) sz z) y))) := HD11.out.below hb12
            have HG12 : Hid (NG (fun b => ((S b ∧ b < w.heap.size) ∨ w.heap.size + 2 ≤ b) ∧ b ≠ g) w12 d (cutD 0 (sz - 1) z) (.agg #[.bool lfs, .slice kas kns kcs, .slice cas cns ccs])) := HD11.out.new hb12 hgs
            clear z0 z1 z2 hb12 hgs HP2 gf hgl11
            obtain ⟨lfv, kav, knv, kcv, cav, cnv, ccv, z0, z1, z2, _⟩ := HD12.out.kw.get (i - 1) (by rw [List.length_set]; omega)
            have gf := fun j => HD12.out.kw.frozen j
            have hgl12 := HD12.out.kw.lt
            have hs12 := HD12.out.sz
            have HD13 : Hid (DS S w (((w12.setCell ⟨g, (i - 1) * 3, none⟩ (.bool lfs)).setCell ⟨g, (i - 1) * 3 + 1, none⟩ (.slice kas kns kcs)).setCell ⟨g, (i - 1) * 3 + 2, none⟩ (.slice cas cns ccs)) w2.heap.size d g n c3 ((l5.set i (joinD (cutD (sz - 1) sz z) y)).set (i - 1) (cutD 0 (sz - 1) z))) := HD12.out.put (i - 1) (by rw [List.length_set]; omega) HG12.out
            have r0 := HD13.out.box.cell 0
            have r1 := HD13.out.box.cell 1
            have r2 := HD13.out.box.cell 2
            simp only [List.getElem?_toArray, List.getElem?_cons_zero, List.getElem?_cons_succ] at r0 r1 r2
            have hf := fun i => HD13.out.box.frozen i
            have hbl := HD13.out.box.lt
            go_wp2
            clear r0 r1 r2 hf hbl gf z0 z1 z2
            generalize ((w12.setCell ⟨g, (i - 1) * 3, none⟩ (.bool lfs)).setCell ⟨g, (i - 1) * 3 + 1, none⟩ (.slice kas kns kcs)).setCell ⟨g, (i - 1) * 3 + 2, none⟩ (.slice cas cns ccs) = w13 at HD13 ⊢
            have r0 := HD13.out.box.cell 0
            have r1 := HD13.out.box.cell 1
            have r2 := HD13.out.box.cell 2
            simp at r0 r1 r2
            refine bodyPost_ret (v := .agg #[.bool false, .slice none 0 0, .slice (some ⟨g, 0, none⟩) n c3]) (by simp [results, Try.results51, go_sem, r0, r1, r2]) rfl ⟨_, HFin.out _ ?_, HD13.out.ret (by omega)⟩
            rw [fixD_left HL5.out.2.1 HNy.out hi0 HZ.out.1 (by rw [← HSzE.out]; exact h3), ← HSzE.out]
          · have h3d : decide ((2 : Int) < (sz : Int)) = false := decide_eq_false (by omega)
            have h3i : ¬ (2 : Int) < (sz : Int) := by omega
            have HNL : Hid (¬ (0 < i ∧ 2 < sizO l5[i - 1]?)) := by
              rintro ⟨_, q⟩
              rw [HZ.out.1] at q
              have q' : 2 < sizD z := q
              rw [← HSzE.out] at q'
              exact h3 q'
            clear HZ7 HSz HD6
            by_cases hi1 : i + 1 < n
            · have hi1d : decide ((i : Int) + 1 < (n : Int)) = true := decide_eq_true (by omega)
              have hi1i : (i : Int) + 1 < (n : Int) := by omega
              obtain ⟨lfx, kax, knx, kcx, cax, cnx, ccx, z0, z1, z2, hngx⟩ := HD7.out.kw.get (i + 1) (by omega)
              have hgx : l5[i + 1]? = some (l5[i + 1]'(by omega)) := List.getElem?_eq_getElem (by omega)
              generalize l5[i + 1]'(by omega) = x at hngx hgx
              have HX : Hid (l5[i + 1]? = some x ∧ BalR d false x h') := ⟨hgx, HL5.out.2.2 (i + 1) x hgx (by omega)⟩
              have HSx : Hid (∀ W : World, Calls Try.prog 68 #[.agg #[.bool lfx, .slice kax knx kcx, .slice cax cnx ccx]] W fun e w' => e = .returned (.int .i64 (sizD x : Int)) ∧ Below W.heap.size W w') := fun W => sizeD_any hngx W
              obtain ⟨sx, hsx⟩ : ∃ sx, sx = sizD x := ⟨_, rfl⟩
              have HSxE : Hid (sx = sizD x) := hsx
              have hsx4 : sx ≤ 4 ∧ 2 ≤ sx := by rw [hsx]; exact ⟨(BalU.of HX.out.2).le, HX.out.2.siz⟩
              rw [← hsx] at HSx
              clear hsx hngx hgx
              go_wp2_with fail
              (with_reducible refine (HSx.out _).mono ?_)
              rintro e w20 ⟨rfl, hb20⟩
              have HD20 : Hid (DS S w w20 w2.heap.size d g n c3 l5) := HD7.out.below hb20
              have hgl := HD7.out.kw.lt
              replace z0 := (hb20.cell (p := ⟨g, _, none⟩) hgl.2).trans z0
              replace z1 := (hb20.cell (p := ⟨g, _, none⟩) hgl.2).trans z1
              replace z2 := (hb20.cell (p := ⟨g, _, none⟩) hgl.2).trans z2
              clear hb20 HD7
              by_cases h4 : 2 < sx
              · have h4d : decide ((2 : Int) < (sx : Int)) = true := decide_eq_true (by omega)
                have h4i : (2 : Int) < (sx : Int) := by omega
                go_wp2_with fail
                (with_reducible refine (HSx.out _).mono ?_)
                rintro e w21 ⟨rfl, hb21⟩
                have HD21 : Hid (DS S w w21 w2.heap.size d g n c3 l5) := HD20.out.below hb21
                replace z0 := (hb21.cell (p := ⟨g, _, none⟩) HD20.out.kw.lt.2).trans z0
                replace z1 := (hb21.cell (p := ⟨g, _, none⟩) HD20.out.kw.lt.2).trans z1
                replace z2 := (hb21.cell (p := ⟨g, _, none⟩) HD20.out.kw.lt.2).trans z2
                clear hb21 HD20 hgl
                obtain ⟨lfq, kaq, knq, kcq, caq, cnq, ccq, y0, y1, y2, hngy⟩ := HD21.out.kw.get i (by omega)
                have hgy' : l5[i]'(by omega) = y := by
                  have q := HL5.out.2.1
                  rw [List.getElem?_eq_getElem (by omega)] at q
                  injection q
                rw [hgy'] at hngy
                obtain ⟨lfx', kax', knx', kcx', cax', cnx', ccx', x0, x1, x2, hngx⟩ := HD21.out.kw.get (i + 1) (by omega)
                have hgx' : l5[i + 1]'(by omega) = x := by
                  have q := HX.out.1
                  rw [List.getElem?_eq_getElem (by omega)] at q
                  injection q
                rw [hgx'] at hngx
                rw [z0] at x0
                rw [z1] at x1
                rw [z2] at x2
                injection x0 with x0
                injection x0 with x0
                injection x1 with x1
                injection x1 with x1 x1' x1''
                injection x2 with x2
                injection x2 with x2 x2' x2''
                subst x0 x1 x1' x1'' x2 x2' x2''
                have hgl8 := HD21.out.kw.lt
                have HNG8 : Hid (NG (fun b => ((S b ∧ b < w.heap.size) ∨ w.heap.size + 2 ≤ b) ∧ b ≠ g) w21.drew d x (.agg #[.bool lfx, .slice kax knx kcx, .slice cax cnx ccx]) ∧ NG (fun b => ((S b ∧ b < w.heap.size) ∨ w.heap.size + 2 ≤ b) ∧ b ≠ g) w21.drew d y (.agg #[.bool lfq, .slice kaq knq kcq, .slice caq cnq ccq]) ∧ DS S w w21.drew w2.heap.size d g n c3 l5) := ⟨NG.below hngx (Below.refl _ _).drew, NG.below hngy (Below.refl _ _).drew, HD21.out.below (Below.refl _ _).drew⟩
                have HKeep : Hid (∀ w', Below w21.drew.heap.size w21.drew w' → w'.cell? ⟨g, (i + 1) * 3, none⟩ = some (.bool lfx) ∧ w'.cell? ⟨g, (i + 1) * 3 + 1, none⟩ = some (.slice kax knx kcx) ∧ w'.cell? ⟨g, (i + 1) * 3 + 2, none⟩ = some (.slice cax cnx ccx) ∧ w'.cell? ⟨g, i * 3, none⟩ = some (.bool lfq) ∧ w'.cell? ⟨g, i * 3 + 1, none⟩ = some (.slice kaq knq kcq) ∧ w'.cell? ⟨g, i * 3 + 2, none⟩ = some (.slice caq cnq ccq)) := by
                  intro w' hb
                  have hgl' : g < w21.drew.heap.size := hgl8.2
                  exact ⟨(hb.cell (p := ⟨g, _, none⟩) hgl').trans z0, (hb.cell (p := ⟨g, _, none⟩) hgl').trans z1, (hb.cell (p := ⟨g, _, none⟩) hgl').trans z2, (hb.cell (p := ⟨g, _, none⟩) hgl').trans y0, (hb.cell (p := ⟨g, _, none⟩) hgl').trans y1, (hb.cell (p := ⟨g, _, none⟩) hgl').trans y2⟩
                have hwi : IntKind.i64.wrap ((i : Int) + 1) = ((i + 1 : Nat) : Int) := by rw [IntKind.wrap_i64]; omega
                have i0m : (0 : Int) ≤ ((i + 1 : Nat) : Int) := by omega
                have i0p : (0 : Int) ≤ (i : Int) + 1 := by omega
                have i1m : ((i + 1 : Nat) : Int) < (n : Int) := by omega
                have HP1 : Hid (Calls Try.prog 70 #[.agg #[.bool lfx, .slice kax knx kcx, .slice cax cnx ccx], .int .i64 0, .int .i64 1] w21.drew (RetG3 (fun b => ((S b ∧ b < w.heap.size) ∨ w.heap.size + 2 ≤ b) ∧ b ≠ g) w21.drew d (cutD 0 1 x))) := partD_any HNG8.out.1 0 1 (by omega) (by rw [← HSxE.out]; omega) (by rw [← HSxE.out]; omega)
                clear hngy hngx hgx' hgy'
                go_wp2_with fail
                generalize hR : w21.drew = R at HNG8 HKeep HP1
                refine wp_region_late (S := fun w' => w'.cell? ⟨g, (i + 1) * 3, none⟩ = some (.bool lfx) ∧ w'.cell? ⟨g, (i + 1) * 3 + 1, none⟩ = some (.slice kax knx kcx) ∧ w'.cell? ⟨g, (i + 1) * 3 + 2, none⟩ = some (.slice cax cnx ccx) ∧ w'.cell? ⟨g, i * 3, none⟩ = some (.bool lfq) ∧ w'.cell? ⟨g, i * 3 + 1, none⟩ = some (.slice kaq knq kcq) ∧ w'.cell? ⟨g, i * 3 + 2, none⟩ = some (.slice caq cnq ccq)) 14 (by kernel_rfl) ?_ (fun hHeld => ?_)
                · (rw [hR]; exact HKeep.out _ (Below.refl _ _))
                rw [hR] at hHeld ⊢
                clear hR z0 z1 z2 y0 y1 y2
                refine late_take 0 .zero (v := ?_) (by kernel_rfl) (by kernel_rfl) (by kernel_rfl) (by kernel_rfl) (fun _ _ _ h => h) (by rfl) ?_ (by assumption) ?_
                rotate_left
                · (intro w hSw; (try dsimp only at hSw); go_simp) <;> with_reducible rfl
                simp only [Act.put, List.setIfInBounds_toArray, List.set_cons_zero, List.set_cons_succ]
                refine late_take 1 (.succ .zero) (v := ?_) (by kernel_rfl) (by kernel_rfl) (by kernel_rfl) (by kernel_rfl) (fun _ _ _ h => h) (by rfl) ?_ (by assumption) ?_
                rotate_left
                · (intro w hSw; (try dsimp only at hSw); go_simp) <;> with_reducible rfl
                simp only [Act.put, List.setIfInBounds_toArray, List.set_cons_zero, List.set_cons_succ]
                refine late_take 2 (.succ (.succ .zero)) (v := ?_) (by kernel_rfl) (by kernel_rfl) (by kernel_rfl) (by kernel_rfl) (fun _ _ _ h => h) (by rfl) ?_ (by assumption) ?_
                rotate_left
                · (intro w hSw; (try dsimp only at hSw); go_simp) <;> with_reducible rfl
                simp only [Act.put, List.setIfInBounds_toArray, List.set_cons_zero, List.set_cons_succ]
                refine late_take 3 (.succ (.succ (.succ .zero))) (v := ?_) (by kernel_rfl) (by kernel_rfl) (by kernel_rfl) (by kernel_rfl) (fun _ _ _ h => h) (by rfl) ?_ (by assumption) ?_
                rotate_left
                · (intro w hSw; (try dsimp only at hSw); go_simp) <;> with_reducible rfl
                simp only [Act.put, List.setIfInBounds_toArray, List.set_cons_zero, List.set_cons_succ]
                refine late_take 4 (.succ (.succ (.succ (.succ .zero)))) (v := ?_) (by kernel_rfl) (by kernel_rfl) (by kernel_rfl) (by kernel_rfl) (fun _ _ _ h => h) (by rfl) ?_ (by assumption) ?_
                rotate_left
                · (intro w hSw; (try dsimp only at hSw); go_simp) <;> with_reducible rfl
                simp only [Act.put, List.setIfInBounds_toArray, List.set_cons_zero, List.set_cons_succ]
                refine late_take 5 (.succ (.succ (.succ (.succ (.succ .zero))))) (v := ?_) (by kernel_rfl) (by kernel_rfl) (by kernel_rfl) (by kernel_rfl) (fun _ _ _ h => h) (by rfl) ?_ (by assumption) ?_
                rotate_left
                · (intro w hSw; (try dsimp only at hSw); go_simp) <;> with_reducible rfl
                simp only [Act.put, List.setIfInBounds_toArray, List.set_cons_zero, List.set_cons_succ]
                refine late_take 6 (.succ (.succ (.succ (.succ (.succ (.succ .zero)))))) (v := ?_) (by kernel_rfl) (by kernel_rfl) (by kernel_rfl) (by kernel_rfl) (fun _ _ _ h => h) (by rfl) ?_ (by assumption) ?_
                rotate_left
                · (intro w hSw; (try dsimp only at hSw); go_simp) <;> with_reducible rfl
                simp only [Act.put, List.setIfInBounds_toArray, List.set_cons_zero, List.set_cons_succ]
                refine late_take 7 (.succ (.succ (.succ (.succ (.succ (.succ (.succ .zero))))))) (v := ?_) (by kernel_rfl) (by kernel_rfl) (by kernel_rfl) (by kernel_rfl) (fun _ _ _ h => h) (by rfl) ?_ (by assumption) ?_
                rotate_left
                · (intro w hSw; (try dsimp only at hSw); go_simp) <;> with_reducible rfl
                simp only [Act.put, List.setIfInBounds_toArray, List.set_cons_zero, List.set_cons_succ]
                refine late_take 8 (.succ (.succ (.succ (.succ (.succ (.succ (.succ (.succ .zero)))))))) (v := ?_) (by kernel_rfl) (by kernel_rfl) (by kernel_rfl) (by kernel_rfl) (fun _ _ _ h => h) (by rfl) ?_ (by assumption) ?_
                rotate_left
                · (intro w hSw; (try dsimp only at hSw); go_simp) <;> with_reducible rfl
                simp only [Act.put, List.setIfInBounds_toArray, List.set_cons_zero, List.set_cons_succ]
                refine late_take 9 (.succ (.succ (.succ (.succ (.succ (.succ (.succ (.succ (.succ .zero))))))))) (v := ?_) (by kernel_rfl) (by kernel_rfl) (by kernel_rfl) (by kernel_rfl) (fun _ _ _ h => h) (by rfl) ?_ (by assumption) ?_
                rotate_left
                · (intro w hSw; (try dsimp only at hSw); go_simp) <;> with_reducible rfl
                simp only [Act.put, List.setIfInBounds_toArray, List.set_cons_zero, List.set_cons_succ]
                refine late_take 10 (.succ (.succ (.succ (.succ (.succ (.succ (.succ (.succ (.succ (.succ .zero)))))))))) (v := ?_) (by kernel_rfl) (by kernel_rfl) (by kernel_rfl) (by kernel_rfl) (fun _ _ _ h => h) (by rfl) ?_ (by assumption) ?_
                rotate_left
                · (intro w hSw; (try dsimp only at hSw); go_simp) <;> with_reducible rfl
                simp only [Act.put, List.setIfInBounds_toArray, List.set_cons_zero, List.set_cons_succ]
                refine late_one 11 (.succ (.succ (.succ (.succ (.succ (.succ (.succ (.succ (.succ (.succ (.succ .zero))))))))))) (by kernel_rfl) (fun K hK => ?_)
                refine step_tcc (by rfl) 70 141 (.int .i64 0) (.int .i64 1) _ (by rfl) (.agg #[.bool lfx, .slice kax knx kcx, .slice cax cnx ccx]) (by rfl) (fun _ _ => by rfl) ?_
                (with_reducible refine HP1.out.mono ?_)
                rintro e w9 ⟨hb9, lfp, kap, knp, kcp, cap, cnp, ccp, rfl, hgp⟩
                refine ⟨_, rfl, ?_⟩
                have HB9 : Hid (Below R.heap.size R w9 ∧ NG (fun b => ((S b ∧ b < w.heap.size) ∨ w.heap.size + 2 ≤ b) ∧ b ≠ g) w9 d (cutD 0 1 x) (.agg #[.bool lfp, .slice kap knp kcp, .slice cap cnp ccp])) := ⟨hb9, HNG8.out.2.2.new hb9 hgp⟩
                clear hgp hb9
                refine hK.out _ _ ?_ (fun hHeld2 => ?_)
                · (intro _; exact HKeep.out _ HB9.out.1)
                clear hK K
                replace hHeld := hHeld2 (by decide)
                clear hHeld2
                try simp only [Act.put, List.setIfInBounds_toArray, List.set_cons_zero, List.set_cons_succ]
                have HJ : Hid (Calls Try.prog 69 #[.agg #[.bool lfq, .slice kaq knq kcq, .slice caq cnq ccq], .agg #[.bool lfp, .slice kap knp kcp, .slice cap cnp ccp]] w9 (RetG3 (fun b => ((S b ∧ b < w.heap.size) ∨ w.heap.size + 2 ≤ b) ∧ b ≠ g) w9 d (joinD y (cutD 0 1 x)))) := joinD_any (NG.below HNG8.out.2.1 HB9.out.1) HB9.out.2 HBy.out.1 ((BalU.of HX.out.2).cut (lo := 0) (hi := 1) (by omega) (by rw [← HSxE.out]; omega)).1
                refine late_one 12 (.succ (.succ (.succ (.succ (.succ (.succ (.succ (.succ (.succ (.succ (.succ (.succ .zero)))))))))))) (by kernel_rfl) (fun K hK => ?_)
                refine step_t2 (by rfl) 69 136 142 _ (by rfl) (.agg #[.bool lfq, .slice kaq knq kcq, .slice caq cnq ccq]) (.agg #[.bool lfp, .slice kap knp kcp, .slice cap cnp ccp]) (by rfl) (by rfl) (fun _ _ => by rfl) ?_
                (with_reducible refine HJ.out.mono ?_)
                rintro e w10 ⟨hb10, lfj, kaj, knj, kcj, caj, cnj, ccj, rfl, hgj⟩
                refine ⟨_, rfl, ?_⟩
                have HD9 : Hid (DS S w w9 w2.heap.size d g n c3 l5) := HNG8.out.2.2.below HB9.out.1
                have HB10 : Hid (Below R.heap.size R w10 ∧ NG (fun b => ((S b ∧ b < w.heap.size) ∨ w.heap.size + 2 ≤ b) ∧ b ≠ g) w10 d (joinD y (cutD 0 1 x)) (.agg #[.bool lfj, .slice kaj knj kcj, .slice caj cnj ccj]) ∧ DS S w w10 w2.heap.size d g n c3 l5) := ⟨HB9.out.1.trans (hb10.mono HB9.out.1.size), HD9.out.new hb10 hgj, HD9.out.below hb10⟩
                clear hgj hb10 HD9 HJ
                refine hK.out _ _ ?_ (fun hHeld2 => ?_)
                · (intro _; exact HKeep.out _ HB10.out.1)
                clear hK K
                replace hHeld := hHeld2 (by decide)
                clear hHeld2
                try simp only [Act.put, List.setIfInBounds_toArray, List.set_cons_zero, List.set_cons_succ]
                refine late_one 13 (.succ (.succ (.succ (.succ (.succ (.succ (.succ (.succ (.succ (.succ (.succ (.succ (.succ .zero))))))))))))) (by kernel_rfl) (fun K hK => ?_)
                go_simp
                refine hK.out _ _ ?_ (fun hHeld2 => ?_)
                · (intro _; exact hHeld)
                clear hK K
                replace hHeld := hHeld2 (by decide)
                clear hHeld2
                try simp only [Act.put, List.setIfInBounds_toArray, List.set_cons_zero, List.set_cons_succ]
                obtain ⟨u0, u1, u2, u3, u4, u5⟩ := HKeep.out w10 HB10.out.1
                have gf := fun j => HB10.out.2.2.kw.frozen j
                refine late_one 14 (.succ (.succ (.succ (.succ (.succ (.succ (.succ (.succ (.succ (.succ (.succ (.succ (.succ (.succ .zero)))))))))))))) (by kernel_rfl) (fun K hK => ?_)
                go_simp
                refine hK.out _ _ ?_ (fun hHeld2 => ?_)
                · (intro hne; exact absurd rfl hne)
                clear hK K hHeld2
                refine wpLate_done (by kernel_rfl) ?_ _
                have HD11 : Hid (DS S w (((w10.setCell ⟨g, i * 3, none⟩ (.bool lfj)).setCell ⟨g, i * 3 + 1, none⟩ (.slice kaj knj kcj)).setCell ⟨g, i * 3 + 2, none⟩ (.slice caj cnj ccj)) w2.heap.size d g n c3 (l5.set i (joinD y (cutD 0 1 x)))) := HB10.out.2.2.put i (by omega) HB10.out.2.1
                clear u0 u1 u2 u3 u4 u5 gf hHeld HB10 HB9 HP1 HKeep HNG8 HD21
                generalize ((w10.setCell ⟨g, i * 3, none⟩ (.bool lfj)).setCell ⟨g, i * 3 + 1, none⟩ (.slice kaj knj kcj)).setCell ⟨g, i * 3 + 2, none⟩ (.slice caj cnj ccj) = w11 at HD11 ⊢
                obtain ⟨lfr, kar, knr, kcr, car, cnr, ccr, z0, z1, z2, hngr⟩ := HD11.out.kw.get (i + 1) (by rw [List.length_set]; omega)
                have hgr : (l5.set i (joinD y (cutD 0 1 x)))[i + 1]'(by rw [List.length_set]; omega) = x := by
                  rw [List.getElem_set_ne (by omega)]
                  have q := HX.out.1
                  rw [List.getElem?_eq_getElem (by omega)] at q
                  injection q
                rw [hgr] at hngr
                have HP2 : Hid (Calls Try.prog 70 #[.agg #[.bool lfr, .slice kar knr kcr, .slice car cnr ccr], .int .i64 1, .int .i64 (sx : Int)] w11 (RetG3 (fun b => ((S b ∧ b < w.heap.size) ∨ w.heap.size + 2 ≤ b) ∧ b ≠ g) w11 d (cutD 1 sx x))) := partD_any hngr 1 sx (by omega) (by rw [← HSxE.out]; exact Nat.le_refl _) (by rw [← HSxE.out]; omega)
                have hgl11 := HD11.out.kw.lt
                have gf := fun j => HD11.out.kw.frozen j
                clear hngr hgr
                go_wp2_with fail
                (with_reducible refine HP2.out.mono ?_)
                rintro e w12 ⟨hb12, lfs, kas, kns, kcs, cas, cns, ccs, rfl, hgs⟩
                have HD12 : Hid (DS S w w12 w2.heap.size d g n c3 (l5.set i (joinD y (cutD 0 1 x)))) := HD11.out.below hb12
                have HG12 : Hid (NG (fun b => ((S b ∧ b < w.heap.size) ∨ w.heap.size + 2 ≤ b) ∧ b ≠ g) w12 d (cutD 1 sx x) (.agg #[.bool lfs, .slice kas kns kcs, .slice cas cns ccs])) := HD11.out.new hb12 hgs
                clear z0 z1 z2 hb12 hgs HP2 gf hgl11
                obtain ⟨lfv, kav, knv, kcv, cav, cnv, ccv, z0, z1, z2, _⟩ := HD12.out.kw.get (i + 1) (by rw [List.length_set]; omega)
                have gf := fun j => HD12.out.kw.frozen j
                have hgl12 := HD12.out.kw.lt
                have hs12 := HD12.out.sz
                have HD13 : Hid (DS S w (((w12.setCell ⟨g, (i + 1) * 3, none⟩ (.bool lfs)).setCell ⟨g, (i + 1) * 3 + 1, none⟩ (.slice kas kns kcs)).setCell ⟨g, (i + 1) * 3 + 2, none⟩ (.slice cas cns ccs)) w2.heap.size d g n c3 ((l5.set i (joinD y (cutD 0 1 x))).set (i + 1) (cutD 1 sx x))) := HD12.out.put (i + 1) (by rw [List.length_set]; omega) HG12.out
                have r0 := HD13.out.box.cell 0
                have r1 := HD13.out.box.cell 1
                have r2 := HD13.out.box.cell 2
                simp only [List.getElem?_toArray, List.getElem?_cons_zero, List.getElem?_cons_succ] at r0 r1 r2
                have hf := fun i => HD13.out.box.frozen i
                have hbl := HD13.out.box.lt
                go_wp2
                clear r0 r1 r2 hf hbl gf z0 z1 z2
                generalize ((w12.setCell ⟨g, (i + 1) * 3, none⟩ (.bool lfs)).setCell ⟨g, (i + 1) * 3 + 1, none⟩ (.slice kas kns kcs)).setCell ⟨g, (i + 1) * 3 + 2, none⟩ (.slice cas cns ccs) = w13 at HD13 ⊢
                have r0 := HD13.out.box.cell 0
                have r1 := HD13.out.box.cell 1
                have r2 := HD13.out.box.cell 2
                simp at r0 r1 r2
                refine bodyPost_ret (v := .agg #[.bool false, .slice none 0 0, .slice (some ⟨g, 0, none⟩) n c3]) (by simp [results, Try.results51, go_sem, r0, r1, r2]) rfl ⟨_, HFin.out _ ?_, HD13.out.ret (by omega)⟩
                rw [fixD_right HL5.out.2.1 HNy.out HNL.out HX.out.1 (by rw [← HSxE.out]; exact h4), ← HSxE.out]
              · have h4d : decide ((2 : Int) < (sx : Int)) = false := decide_eq_false (by omega)
                have h4i : ¬ (2 : Int) < (sx : Int) := by omega
                have HNR : Hid (¬ 2 < sizO l5[i + 1]?) := fun q => by
                  rw [HX.out.1] at q
                  have q' : 2 < sizD x := q
                  rw [← HSxE.out] at q'
                  exact h4 q'
                clear z0 z1 z2 HSx
                have hie : ¬ (i : Int) = 0 := by omega
                have hien : ¬ i = 0 := by omega
                have hcut : i - 1 ≤ n := by omega
                obtain ⟨xs5, HX5⟩ := HD20.out.kw.cells (by omega)
                have HO : Hid ((w20.alloc (.cells #[] 67)).ownsRow w20.heap.size 67 3 (.slice (some ⟨w20.heap.size, 0, none⟩) 0 0) 0 []) := own_empty w20 67 w20.heap.size 3 (Nat.le_refl _)
                have hglW := HD20.out.kw.lt
                have HY : Hid ((xs5.take ((i - 1) * 3)).length = (i - 1) * 3 ∧ (∀ j u, (xs5.take ((i - 1) * 3))[j]? = some u → (w20.alloc (.cells #[] 67)).cell? ⟨g, j, none⟩ = some u) ∧ KidL (fun t v => NG (fun b => ((S b ∧ b < w.heap.size) ∨ w.heap.size + 2 ≤ b) ∧ b ≠ g) w20 d t v) (l5.take (i - 1)) (xs5.take ((i - 1) * 3))) := by
                  refine ⟨by rw [List.length_take, HX5.out.1]; omega, fun j u hj => ?_, KidL.take (i - 1) HX5.out.2.2⟩
                  rw [List.getElem?_take] at hj
                  split at hj
                  · exact ((below_alloc w20 _).cell (p := ⟨g, j, none⟩) hglW.2).trans (HX5.out.2.1 j u hj)
                  · cases hj
                have hsl1 : ∀ W : World, (Instr.sliceAt 65 (.slice (some ⟨g, 0, none⟩) n c3) none (some (.int .i64 ((i - 1 : Nat) : Int))) none).run Try.prog W = .ok (.slice (some ⟨g, 0, none⟩) (i - 1) c3) W := fun W => uptoK g 0 n c3 (i - 1) hcut hcap3.1 W
                go_wp2_with (at_builtin; refine wpList_append_own_at _ rfl _ _ 65 rfl w20.heap.size 67 i0 _ 3 56 Try.underlying65 HI.out.1 HI.out.2.1 HI.out.2.2.1 HI.out.2.2.2 rfl (by decide) (.slice (some ⟨w20.heap.size, 0, none⟩) 0 0) 0 [] rfl HO.out ⟨g, 0, none⟩ (i - 1) c3 _ rfl HY.out.1 (fun j u hj => by rw [addr_add, Nat.zero_add]; exact HY.out.2.1 j u hj) (HY.out.2.2.cells NG.one) (by unfold maxLen; omega) (by omega) (by simp) ?_)
                intro v30 w30 ho30 hg30 _ hat30
                obtain ⟨a30, c30, rfl, _⟩ := own_form ho30
                have hbW : Below w20.heap.size w20 w30 := (below_alloc _ _).grown hg30 (by simp) (fun g e => by simp [Value.ownBlock] at e; omega)
                have HD30 : Hid (DS S w w30 w2.heap.size d g n c3 l5) := HD20.out.below hbW
                have H30 : Hid (w30.ownsRow w20.heap.size 67 3 (.slice a30 (i - 1) c30) (i - 1) (xs5.take ((i - 1) * 3)) ∧ Below w20.heap.size w20 w30 ∧ w20.heap.size ≤ w30.heap.size) := ⟨ho30, hbW, hbW.size⟩
                clear ho30 hg30 hat30 hbW HO hsl1
                obtain ⟨lfq, kaq, knq, kcq, caq, cnq, ccq, y0, y1, y2, hngy⟩ := kid_at (K := KS (fun b => ((S b ∧ b < w.heap.size) ∨ w.heap.size + 2 ≤ b) ∧ b ≠ g) w20) (S := fun b => ((S b ∧ b < w.heap.size) ∨ w.heap.size + 2 ≤ b) ∧ b ≠ g) HX5.out.2.1 HX5.out.2.2 i (by omega)
                obtain ⟨lfz, kaz, knz, kcz, caz, cnz, ccz, z0, z1, z2, hngz⟩ := kid_at (K := KS (fun b => ((S b ∧ b < w.heap.size) ∨ w.heap.size + 2 ≤ b) ∧ b ≠ g) w20) (S := fun b => ((S b ∧ b < w.heap.size) ∨ w.heap.size + 2 ≤ b) ∧ b ≠ g) HX5.out.2.1 HX5.out.2.2 (i - 1) (by omega)
                have hgy' : l5[i]'(by omega) = y := by
                  have q := HL5.out.2.1
                  rw [List.getElem?_eq_getElem (by omega)] at q
                  injection q
                have hgz' : l5[i - 1]'(by omega) = z := by
                  have q := HZ.out.1
                  rw [List.getElem?_eq_getElem (by omega)] at q
                  injection q
                rw [hgy'] at hngy
                rw [hgz'] at hngz
                have hbD : Below w20.heap.size w20 w30.drew := H30.out.2.1.drew
                have HN30 : Hid (NG (fun b => (((S b ∧ b < w.heap.size) ∨ w.heap.size + 2 ≤ b) ∧ b ≠ g) ∧ b < w20.heap.size) w30.drew d z (.agg #[.bool lfz, .slice kaz knz kcz, .slice caz cnz ccz]) ∧ NG (fun b => (((S b ∧ b < w.heap.size) ∨ w.heap.size + 2 ≤ b) ∧ b ≠ g) ∧ b < w20.heap.size) w30.drew d y (.agg #[.bool lfq, .slice kaq knq kcq, .slice caq cnq ccq])) := ⟨NG.keep hngz hbD.size (fun b hs hl => ⟨⟨hs, hl⟩, hbD.block b hl⟩), NG.keep hngy hbD.size (fun b hs hl => ⟨⟨hs, hl⟩, hbD.block b hl⟩)⟩
                have HKeep : Hid (∀ w', Below w20.heap.size w20 w' → w'.cell? ⟨g, (i - 1) * 3, none⟩ = some (.bool lfz) ∧ w'.cell? ⟨g, (i - 1) * 3 + 1, none⟩ = some (.slice kaz knz kcz) ∧ w'.cell? ⟨g, (i - 1) * 3 + 2, none⟩ = some (.slice caz cnz ccz) ∧ w'.cell? ⟨g, i * 3, none⟩ = some (.bool lfq) ∧ w'.cell? ⟨g, i * 3 + 1, none⟩ = some (.slice kaq knq kcq) ∧ w'.cell? ⟨g, i * 3 + 2, none⟩ = some (.slice caq cnq ccq)) := by
                  intro w' hb'
                  exact ⟨(hb'.cell (p := ⟨g, _, none⟩) hglW.2).trans z0, (hb'.cell (p := ⟨g, _, none⟩) hglW.2).trans z1, (hb'.cell (p := ⟨g, _, none⟩) hglW.2).trans z2, (hb'.cell (p := ⟨g, _, none⟩) hglW.2).trans y0, (hb'.cell (p := ⟨g, _, none⟩) hglW.2).trans y1, (hb'.cell (p := ⟨g, _, none⟩) hglW.2).trans y2⟩
                have hwi : IntKind.i64.wrap ((i : Int) - 1) = ((i - 1 : Nat) : Int) := wrap_pred i hi0 (by omega)
                have i0m : (0 : Int) ≤ ((i - 1 : Nat) : Int) := by omega
                have i1m : ((i - 1 : Nat) : Int) < (n : Int) := by omega
                have HJ : Hid (Calls Try.prog 69 #[.agg #[.bool lfz, .slice kaz knz kcz, .slice caz cnz ccz], .agg #[.bool lfq, .slice kaq knq kcq, .slice caq cnq ccq]] w30.drew (RetG3 (fun b => (((S b ∧ b < w.heap.size) ∨ w.heap.size + 2 ≤ b) ∧ b ≠ g) ∧ b < w20.heap.size) w30.drew d (joinD z y))) := joinD_any HN30.out.1 HN30.out.2 (BalU.of HZ.out.2) HBy.out.1
                have HBD : Hid (Below w20.heap.size w20 w30.drew) := hbD
                have HO30 : Hid (w30.drew.ownsRow w20.heap.size 67 3 (.slice a30 (i - 1) c30) (i - 1) (xs5.take ((i - 1) * 3)) ∧ w20.heap.size ≤ w30.drew.heap.size) := ⟨own_below H30.out.1 (Below.refl _ _).drew, H30.out.2.2⟩
                clear hngy hngz hgy' hgz' hbD z0 z1 z2 y0 y1 y2
                go_wp2_with fail
                generalize hR : w30.drew = R at HN30 HJ HO30 HBD
                refine wp_region_late (S := fun w' => w'.cell? ⟨g, (i - 1) * 3, none⟩ = some (.bool lfz) ∧ w'.cell? ⟨g, (i - 1) * 3 + 1, none⟩ = some (.slice kaz knz kcz) ∧ w'.cell? ⟨g, (i - 1) * 3 + 2, none⟩ = some (.slice caz cnz ccz) ∧ w'.cell? ⟨g, i * 3, none⟩ = some (.bool lfq) ∧ w'.cell? ⟨g, i * 3 + 1, none⟩ = some (.slice kaq knq kcq) ∧ w'.cell? ⟨g, i * 3 + 2, none⟩ = some (.slice caq cnq ccq)) 13 (by kernel_rfl) ?_ (fun hHeld => ?_)
                · (rw [hR]; exact HKeep.out _ HBD.out)
                rw [hR] at hHeld ⊢
                
                refine late_take 0 .zero (v := ?_) (by kernel_rfl) (by kernel_rfl) (by kernel_rfl) (by kernel_rfl) (fun _ _ _ h => h) (by rfl) ?_ (by assumption) ?_
                rotate_left
                · (intro w hSw; (try dsimp only at hSw); go_simp) <;> with_reducible rfl
                simp only [Act.put, List.setIfInBounds_toArray, List.set_cons_zero, List.set_cons_succ]
                refine late_take 1 (.succ .zero) (v := ?_) (by kernel_rfl) (by kernel_rfl) (by kernel_rfl) (by kernel_rfl) (fun _ _ _ h => h) (by rfl) ?_ (by assumption) ?_
                rotate_left
                · (intro w hSw; (try dsimp only at hSw); go_simp) <;> with_reducible rfl
                simp only [Act.put, List.setIfInBounds_toArray, List.set_cons_zero, List.set_cons_succ]
                refine late_take 2 (.succ (.succ .zero)) (v := ?_) (by kernel_rfl) (by kernel_rfl) (by kernel_rfl) (by kernel_rfl) (fun _ _ _ h => h) (by rfl) ?_ (by assumption) ?_
                rotate_left
                · (intro w hSw; (try dsimp only at hSw); go_simp) <;> with_reducible rfl
                simp only [Act.put, List.setIfInBounds_toArray, List.set_cons_zero, List.set_cons_succ]
                refine late_take 3 (.succ (.succ (.succ .zero))) (v := ?_) (by kernel_rfl) (by kernel_rfl) (by kernel_rfl) (by kernel_rfl) (fun _ _ _ h => h) (by rfl) ?_ (by assumption) ?_
                rotate_left
                · (intro w hSw; (try dsimp only at hSw); go_simp) <;> with_reducible rfl
                simp only [Act.put, List.setIfInBounds_toArray, List.set_cons_zero, List.set_cons_succ]
                refine late_take 4 (.succ (.succ (.succ (.succ .zero)))) (v := ?_) (by kernel_rfl) (by kernel_rfl) (by kernel_rfl) (by kernel_rfl) (fun _ _ _ h => h) (by rfl) ?_ (by assumption) ?_
                rotate_left
                · (intro w hSw; (try dsimp only at hSw); go_simp) <;> with_reducible rfl
                simp only [Act.put, List.setIfInBounds_toArray, List.set_cons_zero, List.set_cons_succ]
                refine late_take 5 (.succ (.succ (.succ (.succ (.succ .zero))))) (v := ?_) (by kernel_rfl) (by kernel_rfl) (by kernel_rfl) (by kernel_rfl) (fun _ _ _ h => h) (by rfl) ?_ (by assumption) ?_
                rotate_left
                · (intro w hSw; (try dsimp only at hSw); go_simp) <;> with_reducible rfl
                simp only [Act.put, List.setIfInBounds_toArray, List.set_cons_zero, List.set_cons_succ]
                refine late_take 6 (.succ (.succ (.succ (.succ (.succ (.succ .zero)))))) (v := ?_) (by kernel_rfl) (by kernel_rfl) (by kernel_rfl) (by kernel_rfl) (fun _ _ _ h => h) (by rfl) ?_ (by assumption) ?_
                rotate_left
                · (intro w hSw; (try dsimp only at hSw); go_simp) <;> with_reducible rfl
                simp only [Act.put, List.setIfInBounds_toArray, List.set_cons_zero, List.set_cons_succ]
                refine late_take 7 (.succ (.succ (.succ (.succ (.succ (.succ (.succ .zero))))))) (v := ?_) (by kernel_rfl) (by kernel_rfl) (by kernel_rfl) (by kernel_rfl) (fun _ _ _ h => h) (by rfl) ?_ (by assumption) ?_
                rotate_left
                · (intro w hSw; (try dsimp only at hSw); go_simp) <;> with_reducible rfl
                simp only [Act.put, List.setIfInBounds_toArray, List.set_cons_zero, List.set_cons_succ]
                refine late_take 8 (.succ (.succ (.succ (.succ (.succ (.succ (.succ (.succ .zero)))))))) (v := ?_) (by kernel_rfl) (by kernel_rfl) (by kernel_rfl) (by kernel_rfl) (fun _ _ _ h => h) (by rfl) ?_ (by assumption) ?_
                rotate_left
                · (intro w hSw; (try dsimp only at hSw); go_simp) <;> with_reducible rfl
                simp only [Act.put, List.setIfInBounds_toArray, List.set_cons_zero, List.set_cons_succ]
                refine late_take 9 (.succ (.succ (.succ (.succ (.succ (.succ (.succ (.succ (.succ .zero))))))))) (v := ?_) (by kernel_rfl) (by kernel_rfl) (by kernel_rfl) (by kernel_rfl) (fun _ _ _ h => h) (by rfl) ?_ (by assumption) ?_
                rotate_left
                · (intro w hSw; (try dsimp only at hSw); go_simp) <;> with_reducible rfl
                simp only [Act.put, List.setIfInBounds_toArray, List.set_cons_zero, List.set_cons_succ]
                refine late_one 10 (.succ (.succ (.succ (.succ (.succ (.succ (.succ (.succ (.succ (.succ .zero)))))))))) (by kernel_rfl) (fun K hK => ?_)
                refine step_t2 (by rfl) 69 171 175 _ (by rfl) (.agg #[.bool lfz, .slice kaz knz kcz, .slice caz cnz ccz]) (.agg #[.bool lfq, .slice kaq knq kcq, .slice caq cnq ccq]) (by rfl) (by rfl) (fun _ _ => by rfl) ?_
                (with_reducible refine HJ.out.mono ?_)
                rintro e w31 ⟨hb31, lfj, kaj, knj, kcj, caj, cnj, ccj, rfl, hgj⟩
                refine ⟨_, rfl, ?_⟩
                have HB31 : Hid (Below R.heap.size R w31 ∧ NG (fun b => ((((S b ∧ b < w.heap.size) ∨ w.heap.size + 2 ≤ b) ∧ b ≠ g) ∧ b < w20.heap.size) ∨ R.heap.size ≤ b) w31 d (joinD z y) (.agg #[.bool lfj, .slice kaj knj kcj, .slice caj cnj ccj])) := ⟨hb31, hgj⟩
                clear hgj hb31 HJ
                refine hK.out _ _ ?_ (fun hHeld2 => ?_)
                · (intro _; exact HKeep.out _ (HBD.out.trans (HB31.out.1.mono HBD.out.size)))
                clear hK K
                replace hHeld := hHeld2 (by decide)
                clear hHeld2
                try simp only [Act.put, List.setIfInBounds_toArray, List.set_cons_zero, List.set_cons_succ]
                refine late_one 11 (.succ (.succ (.succ (.succ (.succ (.succ (.succ (.succ (.succ (.succ (.succ .zero))))))))))) (by kernel_rfl) (fun K hK => ?_)
                go_simp
                refine hK.out _ _ ?_ (fun hHeld2 => ?_)
                · (intro _; exact HKeep.out _ ((HBD.out.trans (HB31.out.1.mono HBD.out.size)).alloc (HBD.out.trans (HB31.out.1.mono HBD.out.size)).size _))
                clear hK K
                replace hHeld := hHeld2 (by decide)
                clear hHeld2
                try simp only [Act.put, List.setIfInBounds_toArray, List.set_cons_zero, List.set_cons_succ]
                refine late_one 12 (.succ (.succ (.succ (.succ (.succ (.succ (.succ (.succ (.succ (.succ (.succ (.succ .zero)))))))))))) (by kernel_rfl) (fun K hK => ?_)
                refine step_app_kid1 (by rfl) (.tmp 166) (.tmp 177) (by rfl) w20.heap.size (.slice a30 (i - 1) c30) (i - 1) _ (by rfl) (own_below (own_below HO30.out.1 HB31.out.1) (below_alloc _ _)) w31.heap.size 1 (.bool lfj) (.slice kaj knj kcj) (.slice caj cnj ccj) (by rfl) (fun j u hj => by rw [(Bx.new w31 #[.bool lfj, .slice kaj knj kcj, .slice caj cnj ccj] 67).cell j]; simpa using hj) (by intro u hu; simp at hu; rcases hu with rfl | rfl | rfl <;> rfl) (by omega) (by have := HB31.out.1.size; have := HO30.out.2; simp; omega) ?_
                intro v32 w32 ho32 hg32 hat32
                have ei : i - 1 + 1 = i := Nat.sub_add_cancel hi0
                rw [ei] at ho32
                obtain ⟨a32, c32, e32, hf32⟩ := own_form ho32
                subst e32
                have hcap32 := own_cap ho32
                obtain ⟨g32, e32, hg321, hg322, _⟩ := hf32 (by omega)
                subst e32
                have hbW31 : Below w20.heap.size w20 w31 := HBD.out.trans (HB31.out.1.mono HBD.out.size)
                have hlt30 := own_lt HO30.out.1
                have hbW32 : Below w20.heap.size w20 w32 := (hbW31.alloc hbW31.size _).grown hg32 (by rw [World.size_alloc]; exact Nat.le_succ_of_le hbW31.size) (fun g e => (hlt30 g e).1)
                have hz32 : w31.heap.size + 1 ≤ w32.heap.size := by have := hg32.size; simpa using this
                have H32 : Hid (w32.ownsRow w20.heap.size 67 3 (.slice (some ⟨g32, 0, none⟩) i c32) i (xs5.take ((i - 1) * 3) ++ [.bool lfj, .slice kaj knj kcj, .slice caj cnj ccj]) ∧ Below w20.heap.size w20 w32 ∧ NG (fun b => (((((S b ∧ b < w.heap.size) ∨ w.heap.size + 2 ≤ b) ∧ b ≠ g) ∧ b < w20.heap.size) ∨ R.heap.size ≤ b) ∧ b ≠ g32) w32 d (joinD z y) (.agg #[.bool lfj, .slice kaj knj kcj, .slice caj cnj ccj]) ∧ w20.heap.size ≤ R.heap.size) := by
                  have hR0 := HO30.out.2
                  refine ⟨ho32, hbW32, NG.keep HB31.out.2 (by omega) (fun b hs hl => ?_), hR0⟩
                  have hne : (Value.slice a30 (i - 1) c30).ownBlock ≠ some b := fun e => by
                    have q := hlt30 b e
                    rcases hs with hs | hs <;> omega
                  refine ⟨⟨hs, fun e => ?_⟩, (hg32.block b (by simp; omega) (fun e => hne e.symm)).trans ((below_alloc w31 _).block b hl)⟩
                  rcases hat32 with h | h
                  · exact hne (by rw [← h, e]; rfl)
                  · have h' : some g32 = some (w31.alloc (.cells #[.bool lfj, .slice kaj knj kcj, .slice caj cnj ccj] 67)).heap.size := h
                    injection h' with h'
                    simp at h'
                    omega
                have HLt32 : Hid (w20.heap.size ≤ g32 ∧ g32 < w32.heap.size) := ⟨hg321, hg322⟩
                clear ho32 hg32 hat32 hbW31 hlt30 hf32
                refine hK.out _ _ ?_ (fun hHeld2 => ?_)
                · (intro _; exact HKeep.out _ hbW32)
                clear hK K
                replace hHeld := hHeld2 (by decide)
                clear hHeld2
                try simp only [Act.put, List.setIfInBounds_toArray, List.set_cons_zero, List.set_cons_succ]
                refine late_one 13 (.succ (.succ (.succ (.succ (.succ (.succ (.succ (.succ (.succ (.succ (.succ (.succ (.succ .zero))))))))))))) (by kernel_rfl) (fun K hK => ?_)
                go_simp
                refine hK.out _ _ ?_ (fun hHeld2 => ?_)
                · (intro hne; exact absurd rfl hne)
                clear hK K hHeld2
                refine wpLate_done (by kernel_rfl) ?_ _
                clear hHeld hR
                obtain ⟨oo, hoo, hoo2⟩ := shZ_form 3 g 0 (i + 1) c3 n hcap3.1 hin
                have hsl2 : ∀ W : World, (Instr.sliceAt 65 (.slice (some ⟨g, 0, none⟩) n c3) (some (.int .i64 ((i : Int) + 1))) none none).run Try.prog W = .ok (.slice (some ⟨g, oo, none⟩) (n - (i + 1)) (c3 - (i + 1))) W := fun W => by
                  have := fromK g 0 n c3 (i + 1) hin hcap3.1 W
                  rw [hoo] at this
                  simpa using this
                have HY3 : Hid ((xs5.drop ((i + 1) * 3)).length = (n - (i + 1)) * 3 ∧ (∀ j u, (xs5.drop ((i + 1) * 3))[j]? = some u → w32.cell? ⟨g, oo + j, none⟩ = some u) ∧ KidL (fun t v => NG (fun b => ((S b ∧ b < w.heap.size) ∨ w.heap.size + 2 ≤ b) ∧ b ≠ g) w20 d t v) (l5.drop (i + 1)) (xs5.drop ((i + 1) * 3))) := by
                  have hl3 : (xs5.drop ((i + 1) * 3)).length = (n - (i + 1)) * 3 := by rw [List.length_drop, HX5.out.1]; omega
                  refine ⟨hl3, fun j u hj => ?_, KidL.drop (i + 1) HX5.out.2.2⟩
                  have hj2 := (List.getElem?_eq_some_iff.1 hj).1
                  rw [hl3] at hj2
                  rw [List.getElem?_drop] at hj
                  rw [hoo2 (by omega), Nat.zero_add]
                  exact (hbW32.cell (p := ⟨g, _, none⟩) hglW.2).trans (HX5.out.2.1 _ u hj)
                have hzW := hbW32.size
                clear hoo hoo2
                go_wp2_with (at_builtin; refine wpList_append_own_at _ rfl _ _ 65 rfl w20.heap.size 67 i0 _ 3 56 Try.underlying65 HI.out.1 HI.out.2.1 HI.out.2.2.1 HI.out.2.2.2 rfl (by decide) (.slice (some ⟨g32, 0, none⟩) i c32) i _ rfl H32.out.1 ⟨g, oo, none⟩ (n - (i + 1)) (c3 - (i + 1)) _ rfl HY3.out.1 (fun j u hj => by rw [addr_add]; exact HY3.out.2.1 j u hj) (HY3.out.2.2.cells NG.one) (by unfold maxLen; omega) (by omega) (by omega) ?_)
                intro v33 w33 ho33 hg33 _ hat33
                have e33 : i + (n - (i + 1)) = n - 1 := cut_len hin
                rw [e33] at ho33
                obtain ⟨a33, c33, e34, hf33⟩ := own_form ho33
                subst e34
                obtain ⟨g33, e34, hg331, hg332, _⟩ := hf33 (cut_ne b2)
                subst e34
                have HD33 : Hid (DS S w w33 w20.heap.size d g33 (n - 1) c33 (l5.take (i - 1) ++ joinD z y :: l5.drop (i + 1))) := by
                  have hlt32 := own_lt H32.out.1
                  have hbW33 : Below w20.heap.size w20 w33 := H32.out.2.1.grown hg33 hzW (fun g e => (hlt32 g e).1)
                  have hs := HD20.out.sz
                  have hg0 : (Value.slice (some ⟨g32, 0, none⟩) i c32).ownBlock = some g32 := rfl
                  refine ⟨⟨_, ho33, ?_⟩, HD20.out.bel.trans (hbW33.mono HD20.out.bel.size), HD20.out.box.below hbW33, by omega⟩
                  have hold : ∀ t v, NG (fun b => ((S b ∧ b < w.heap.size) ∨ w.heap.size + 2 ≤ b) ∧ b ≠ g) w20 d t v → NG (fun b => ((S b ∧ b < w.heap.size) ∨ w.heap.size + 2 ≤ b) ∧ b ≠ g33) w33 d t v := fun t v q => NG.keep q hbW33.size (fun b hs hl => ⟨⟨hs.1, by omega⟩, hbW33.block b hl⟩)
                  have hnew : NG (fun b => ((S b ∧ b < w.heap.size) ∨ w.heap.size + 2 ≤ b) ∧ b ≠ g33) w33 d (joinD z y) (.agg #[.bool lfj, .slice kaj knj kcj, .slice caj cnj ccj]) := by
                    refine NG.keep H32.out.2.2.1 hg33.size (fun b hs' hl => ⟨⟨?_, fun e => ?_⟩, hg33.block b hl (fun e => hs'.2 (by rw [hg0] at e; injection e with e))⟩)
                    · rcases hs'.1 with q | q
                      · exact q.1.1
                      · exact Or.inr (by have := H32.out.2.2.2; omega)
                    · rcases hat33 with h | h
                      · have h' : some g33 = some g32 := h
                        injection h' with h'
                        exact hs'.2 (by omega)
                      · have h' : some g33 = some w32.heap.size := h
                        injection h' with h'
                        omega
                  exact KidL.cat (KidL.cat (HY3.out.2.2.mono hold) (ts := [joinD z y]) (xs := [.bool lfj, .slice kaj knj kcj, .slice caj cnj ccj]) ⟨hnew, trivial⟩) (HY.out.2.2.mono hold)
                clear ho33 hg33 hat33 hf33 H32 HY3 hsl2
                have r0 := HD33.out.box.cell 0
                have r1 := HD33.out.box.cell 1
                have r2 := HD33.out.box.cell 2
                simp at r0 r1 r2
                have hf := fun i => HD33.out.box.frozen i
                have hbl := HD33.out.box.lt
                go_wp2
                refine bodyPost_ret (v := .agg #[.bool false, .slice none 0 0, .slice (some ⟨g33, 0, none⟩) (n - 1) c33]) (by simp [results, Try.results51, go_sem, r0, r1, r2]) rfl ⟨_, HFin.out _ ?_, HD33.out.ret (Nat.sub_pos_of_lt b2)⟩
                have em : max i 1 = i := Nat.max_eq_left hi0
                rw [fixD_join (u := z) (v := y) HL5.out.2.1 HNy.out HNL.out HNR.out (by rw [em]; exact HZ.out.1) (by rw [em]; exact HL5.out.2.1), em]
            · have hi1d : decide ((i : Int) + 1 < (n : Int)) = false := decide_eq_false (by omega)
              have hi1i : ¬ (i : Int) + 1 < (n : Int) := by omega
              have HNR : Hid (¬ 2 < sizO l5[i + 1]?) := fun q => by
                rw [List.getElem?_eq_none (by omega)] at q
                exact absurd q (by simp [sizO])
              have hie : ¬ (i : Int) = 0 := by omega
              have hien : ¬ i = 0 := by omega
              have hcut : i - 1 ≤ n := by omega
              obtain ⟨xs5, HX5⟩ := HD7.out.kw.cells (by omega)
              have HO : Hid ((w7.alloc (.cells #[] 67)).ownsRow w7.heap.size 67 3 (.slice (some ⟨w7.heap.size, 0, none⟩) 0 0) 0 []) := own_empty w7 67 w7.heap.size 3 (Nat.le_refl _)
              have hglW := HD7.out.kw.lt
              have HY : Hid ((xs5.take ((i - 1) * 3)).length = (i - 1) * 3 ∧ (∀ j u, (xs5.take ((i - 1) * 3))[j]? = some u → (w7.alloc (.cells #[] 67)).cell? ⟨g, j, none⟩ = some u) ∧ KidL (fun t v => NG (fun b => ((S b ∧ b < w.heap.size) ∨ w.heap.size + 2 ≤ b) ∧ b ≠ g) w7 d t v) (l5.take (i - 1)) (xs5.take ((i - 1) * 3))) := by
                refine ⟨by rw [List.length_take, HX5.out.1]; omega, fun j u hj => ?_, KidL.take (i - 1) HX5.out.2.2⟩
                rw [List.getElem?_take] at hj
                split at hj
                · exact ((below_alloc w7 _).cell (p := ⟨g, j, none⟩) hglW.2).trans (HX5.out.2.1 j u hj)
                · cases hj
              have hsl1 : ∀ W : World, (Instr.sliceAt 65 (.slice (some ⟨g, 0, none⟩) n c3) none (some (.int .i64 ((i - 1 : Nat) : Int))) none).run Try.prog W = .ok (.slice (some ⟨g, 0, none⟩) (i - 1) c3) W := fun W => uptoK g 0 n c3 (i - 1) hcut hcap3.1 W
              go_wp2_with (at_builtin; refine wpList_append_own_at _ rfl _ _ 65 rfl w7.heap.size 67 i0 _ 3 56 Try.underlying65 HI.out.1 HI.out.2.1 HI.out.2.2.1 HI.out.2.2.2 rfl (by decide) (.slice (some ⟨w7.heap.size, 0, none⟩) 0 0) 0 [] rfl HO.out ⟨g, 0, none⟩ (i - 1) c3 _ rfl HY.out.1 (fun j u hj => by rw [addr_add, Nat.zero_add]; exact HY.out.2.1 j u hj) (HY.out.2.2.cells NG.one) (by unfold maxLen; omega) (by omega) (by simp) ?_)
              intro v30 w30 ho30 hg30 _ hat30
              obtain ⟨a30, c30, rfl, _⟩ := own_form ho30
              have hbW : Below w7.heap.size w7 w30 := (below_alloc _ _).grown hg30 (by simp) (fun g e => by simp [Value.ownBlock] at e; omega)
              have HD30 : Hid (DS S w w30 w2.heap.size d g n c3 l5) := HD7.out.below hbW
              have H30 : Hid (w30.ownsRow w7.heap.size 67 3 (.slice a30 (i - 1) c30) (i - 1) (xs5.take ((i - 1) * 3)) ∧ Below w7.heap.size w7 w30 ∧ w7.heap.size ≤ w30.heap.size) := ⟨ho30, hbW, hbW.size⟩
              clear ho30 hg30 hat30 hbW HO hsl1
              obtain ⟨lfq, kaq, knq, kcq, caq, cnq, ccq, y0, y1, y2, hngy⟩ := kid_at (K := KS (fun b => ((S b ∧ b < w.heap.size) ∨ w.heap.size + 2 ≤ b) ∧ b ≠ g) w7) (S := fun b => ((S b ∧ b < w.heap.size) ∨ w.heap.size + 2 ≤ b) ∧ b ≠ g) HX5.out.2.1 HX5.out.2.2 i (by omega)
              obtain ⟨lfz, kaz, knz, kcz, caz, cnz, ccz, z0, z1, z2, hngz⟩ := kid_at (K := KS (fun b => ((S b ∧ b < w.heap.size) ∨ w.heap.size + 2 ≤ b) ∧ b ≠ g) w7) (S := fun b => ((S b ∧ b < w.heap.size) ∨ w.heap.size + 2 ≤ b) ∧ b ≠ g) HX5.out.2.1 HX5.out.2.2 (i - 1) (by omega)
              have hgy' : l5[i]'(by omega) = y := by
                have q := HL5.out.2.1
                rw [List.getElem?_eq_getElem (by omega)] at q
                injection q
              have hgz' : l5[i - 1]'(by omega) = z := by
                have q := HZ.out.1
                rw [List.getElem?_eq_getElem (by omega)] at q
                injection q
              rw [hgy'] at hngy
              rw [hgz'] at hngz
              have hbD : Below w7.heap.size w7 w30.drew := H30.out.2.1.drew
              have HN30 : Hid (NG (fun b => (((S b ∧ b < w.heap.size) ∨ w.heap.size + 2 ≤ b) ∧ b ≠ g) ∧ b < w7.heap.size) w30.drew d z (.agg #[.bool lfz, .slice kaz knz kcz, .slice caz cnz ccz]) ∧ NG (fun b => (((S b ∧ b < w.heap.size) ∨ w.heap.size + 2 ≤ b) ∧ b ≠ g) ∧ b < w7.heap.size) w30.drew d y (.agg #[.bool lfq, .slice kaq knq kcq, .slice caq cnq ccq])) := ⟨NG.keep hngz hbD.size (fun b hs hl => ⟨⟨hs, hl⟩, hbD.block b hl⟩), NG.keep hngy hbD.size (fun b hs hl => ⟨⟨hs, hl⟩, hbD.block b hl⟩)⟩
              have HKeep : Hid (∀ w', Below w7.heap.size w7 w' → w'.cell? ⟨g, (i - 1) * 3, none⟩ = some (.bool lfz) ∧ w'.cell? ⟨g, (i - 1) * 3 + 1, none⟩ = some (.slice kaz knz kcz) ∧ w'.cell? ⟨g, (i - 1) * 3 + 2, none⟩ = some (.slice caz cnz ccz) ∧ w'.cell? ⟨g, i * 3, none⟩ = some (.bool lfq) ∧ w'.cell? ⟨g, i * 3 + 1, none⟩ = some (.slice kaq knq kcq) ∧ w'.cell? ⟨g, i * 3 + 2, none⟩ = some (.slice caq cnq ccq)) := by
                intro w' hb'
                exact ⟨(hb'.cell (p := ⟨g, _, none⟩) hglW.2).trans z0, (hb'.cell (p := ⟨g, _, none⟩) hglW.2).trans z1, (hb'.cell (p := ⟨g, _, none⟩) hglW.2).trans z2, (hb'.cell (p := ⟨g, _, none⟩) hglW.2).trans y0, (hb'.cell (p := ⟨g, _, none⟩) hglW.2).trans y1, (hb'.cell (p := ⟨g, _, none⟩) hglW.2).trans y2⟩
              have hwi : IntKind.i64.wrap ((i : Int) - 1) = ((i - 1 : Nat) : Int) := wrap_pred i hi0 (by omega)
              have i0m : (0 : Int) ≤ ((i - 1 : Nat) : Int) := by omega
              have i1m : ((i - 1 : Nat) : Int) < (n : Int) := by omega
              have HJ : Hid (Calls Try.prog 69 #[.agg #[.bool lfz, .slice kaz knz kcz, .slice caz cnz ccz], .agg #[.bool lfq, .slice kaq knq kcq, .slice caq cnq ccq]] w30.drew (RetG3 (fun b => (((S b ∧ b < w.heap.size) ∨ w.heap.size + 2 ≤ b) ∧ b ≠ g) ∧ b < w7.heap.size) w30.drew d (joinD z y))) := joinD_any HN30.out.1 HN30.out.2 (BalU.of HZ.out.2) HBy.out.1
              have HBD : Hid (Below w7.heap.size w7 w30.drew) := hbD
              have HO30 : Hid (w30.drew.ownsRow w7.heap.size 67 3 (.slice a30 (i - 1) c30) (i - 1) (xs5.take ((i - 1) * 3)) ∧ w7.heap.size ≤ w30.drew.heap.size) := ⟨own_below H30.out.1 (Below.refl _ _).drew, H30.out.2.2⟩
              clear hngy hngz hgy' hgz' hbD z0 z1 z2 y0 y1 y2
              go_wp2_with fail
              generalize hR : w30.drew = R at HN30 HJ HO30 HBD
              refine wp_region_late (S := fun w' => w'.cell? ⟨g, (i - 1) * 3, none⟩ = some (.bool lfz) ∧ w'.cell? ⟨g, (i - 1) * 3 + 1, none⟩ = some (.slice kaz knz kcz) ∧ w'.cell? ⟨g, (i - 1) * 3 + 2, none⟩ = some (.slice caz cnz ccz) ∧ w'.cell? ⟨g, i * 3, none⟩ = some (.bool lfq) ∧ w'.cell? ⟨g, i * 3 + 1, none⟩ = some (.slice kaq knq kcq) ∧ w'.cell? ⟨g, i * 3 + 2, none⟩ = some (.slice caq cnq ccq)) 13 (by kernel_rfl) ?_ (fun hHeld => ?_)
              · (rw [hR]; exact HKeep.out _ HBD.out)
              rw [hR] at hHeld ⊢
              
              refine late_take 0 .zero (v := ?_) (by kernel_rfl) (by kernel_rfl) (by kernel_rfl) (by kernel_rfl) (fun _ _ _ h => h) (by rfl) ?_ (by assumption) ?_
              rotate_left
              · (intro w hSw; (try dsimp only at hSw); go_simp) <;> with_reducible rfl
              simp only [Act.put, List.setIfInBounds_toArray, List.set_cons_zero, List.set_cons_succ]
              refine late_take 1 (.succ .zero) (v := ?_) (by kernel_rfl) (by kernel_rfl) (by kernel_rfl) (by kernel_rfl) (fun _ _ _ h => h) (by rfl) ?_ (by assumption) ?_
              rotate_left
              · (intro w hSw; (try dsimp only at hSw); go_simp) <;> with_reducible rfl
              simp only [Act.put, List.setIfInBounds_toArray, List.set_cons_zero, List.set_cons_succ]
              refine late_take 2 (.succ (.succ .zero)) (v := ?_) (by kernel_rfl) (by kernel_rfl) (by kernel_rfl) (by kernel_rfl) (fun _ _ _ h => h) (by rfl) ?_ (by assumption) ?_
              rotate_left
              · (intro w hSw; (try dsimp only at hSw); go_simp) <;> with_reducible rfl
              simp only [Act.put, List.setIfInBounds_toArray, List.set_cons_zero, List.set_cons_succ]
              refine late_take 3 (.succ (.succ (.succ .zero))) (v := ?_) (by kernel_rfl) (by kernel_rfl) (by kernel_rfl) (by kernel_rfl) (fun _ _ _ h => h) (by rfl) ?_ (by assumption) ?_
              rotate_left
              · (intro w hSw; (try dsimp only at hSw); go_simp) <;> with_reducible rfl
              simp only [Act.put, List.setIfInBounds_toArray, List.set_cons_zero, List.set_cons_succ]
              refine late_take 4 (.succ (.succ (.succ (.succ .zero)))) (v := ?_) (by kernel_rfl) (by kernel_rfl) (by kernel_rfl) (by kernel_rfl) (fun _ _ _ h => h) (by rfl) ?_ (by assumption) ?_
              rotate_left
              · (intro w hSw; (try dsimp only at hSw); go_simp) <;> with_reducible rfl
              simp only [Act.put, List.setIfInBounds_toArray, List.set_cons_zero, List.set_cons_succ]
              refine late_take 5 (.succ (.succ (.succ (.succ (.succ .zero))))) (v := ?_) (by kernel_rfl) (by kernel_rfl) (by kernel_rfl) (by kernel_rfl) (fun _ _ _ h => h) (by rfl) ?_ (by assumption) ?_
              rotate_left
              · (intro w hSw; (try dsimp only at hSw); go_simp) <;> with_reducible rfl
              simp only [Act.put, List.setIfInBounds_toArray, List.set_cons_zero, List.set_cons_succ]
              refine late_take 6 (.succ (.succ (.succ (.succ (.succ (.succ .zero)))))) (v := ?_) (by kernel_rfl) (by kernel_rfl) (by kernel_rfl) (by kernel_rfl) (fun _ _ _ h => h) (by rfl) ?_ (by assumption) ?_
              rotate_left
              · (intro w hSw; (try dsimp only at hSw); go_simp) <;> with_reducible rfl
              simp only [Act.put, List.setIfInBounds_toArray, List.set_cons_zero, List.set_cons_succ]
              refine late_take 7 (.succ (.succ (.succ (.succ (.succ (.succ (.succ .zero))))))) (v := ?_) (by kernel_rfl) (by kernel_rfl) (by kernel_rfl) (by kernel_rfl) (fun _ _ _ h => h) (by rfl) ?_ (by assumption) ?_
              rotate_left
              · (intro w hSw; (try dsimp only at hSw); go_simp) <;> with_reducible rfl
              simp only [Act.put, List.setIfInBounds_toArray, List.set_cons_zero, List.set_cons_succ]
              refine late_take 8 (.succ (.succ (.succ (.succ (.succ (.succ (.succ (.succ .zero)))))))) (v := ?_) (by kernel_rfl) (by kernel_rfl) (by kernel_rfl) (by kernel_rfl) (fun _ _ _ h => h) (by rfl) ?_ (by assumption) ?_
              rotate_left
              · (intro w hSw; (try dsimp only at hSw); go_simp) <;> with_reducible rfl
              simp only [Act.put, List.setIfInBounds_toArray, List.set_cons_zero, List.set_cons_succ]
              refine late_take 9 (.succ (.succ (.succ (.succ (.succ (.succ (.succ (.succ (.succ .zero))))))))) (v := ?_) (by kernel_rfl) (by kernel_rfl) (by kernel_rfl) (by kernel_rfl) (fun _ _ _ h => h) (by rfl) ?_ (by assumption) ?_
              rotate_left
              · (intro w hSw; (try dsimp only at hSw); go_simp) <;> with_reducible rfl
              simp only [Act.put, List.setIfInBounds_toArray, List.set_cons_zero, List.set_cons_succ]
              refine late_one 10 (.succ (.succ (.succ (.succ (.succ (.succ (.succ (.succ (.succ (.succ .zero)))))))))) (by kernel_rfl) (fun K hK => ?_)
              refine step_t2 (by rfl) 69 171 175 _ (by rfl) (.agg #[.bool lfz, .slice kaz knz kcz, .slice caz cnz ccz]) (.agg #[.bool lfq, .slice kaq knq kcq, .slice caq cnq ccq]) (by rfl) (by rfl) (fun _ _ => by rfl) ?_
              (with_reducible refine HJ.out.mono ?_)
              rintro e w31 ⟨hb31, lfj, kaj, knj, kcj, caj, cnj, ccj, rfl, hgj⟩
              refine ⟨_, rfl, ?_⟩
              have HB31 : Hid (Below R.heap.size R w31 ∧ NG (fun b => ((((S b ∧ b < w.heap.size) ∨ w.heap.size + 2 ≤ b) ∧ b ≠ g) ∧ b < w7.heap.size) ∨ R.heap.size ≤ b) w31 d (joinD z y) (.agg #[.bool lfj, .slice kaj knj kcj, .slice caj cnj ccj])) := ⟨hb31, hgj⟩
              clear hgj hb31 HJ
              refine hK.out _ _ ?_ (fun hHeld2 => ?_)
              · (intro _; exact HKeep.out _ (HBD.out.trans (HB31.out.1.mono HBD.out.size)))
              clear hK K
              replace hHeld := hHeld2 (by decide)
              clear hHeld2
              try simp only [Act.put, List.setIfInBounds_toArray, List.set_cons_zero, List.set_cons_succ]
              refine late_one 11 (.succ (.succ (.succ (.succ (.succ (.succ (.succ (.succ (.succ (.succ (.succ .zero))))))))))) (by kernel_rfl) (fun K hK => ?_)
              go_simp
              refine hK.out _ _ ?_ (fun hHeld2 => ?_)
              · (intro _; exact HKeep.out _ ((HBD.out.trans (HB31.out.1.mono HBD.out.size)).alloc (HBD.out.trans (HB31.out.1.mono HBD.out.size)).size _))
              clear hK K
              replace hHeld := hHeld2 (by decide)
              clear hHeld2
              try simp only [Act.put, List.setIfInBounds_toArray, List.set_cons_zero, List.set_cons_succ]
              refine late_one 12 (.succ (.succ (.succ (.succ (.succ (.succ (.succ (.succ (.succ (.succ (.succ (.succ .zero)))))))))))) (by kernel_rfl) (fun K hK => ?_)
              refine step_app_kid1 (by rfl) (.tmp 166) (.tmp 177) (by rfl) w7.heap.size (.slice a30 (i - 1) c30) (i - 1) _ (by rfl) (own_below (own_below HO30.out.1 HB31.out.1) (below_alloc _ _)) w31.heap.size 1 (.bool lfj) (.slice kaj knj kcj) (.slice caj cnj ccj) (by rfl) (fun j u hj => by rw [(Bx.new w31 #[.bool lfj, .slice kaj knj kcj, .slice caj cnj ccj] 67).cell j]; simpa using hj) (by intro u hu; simp at hu; rcases hu with rfl | rfl | rfl <;> rfl) (by omega) (by have := HB31.out.1.size; have := HO30.out.2; simp; omega) ?_
              intro v32 w32 ho32 hg32 hat32
              have ei : i - 1 + 1 = i := Nat.sub_add_cancel hi0
              rw [ei] at ho32
              obtain ⟨a32, c32, e32, hf32⟩ := own_form ho32
              subst e32
              have hcap32 := own_cap ho32
              obtain ⟨g32, e32, hg321, hg322, _⟩ := hf32 (by omega)
              subst e32
              have hbW31 : Below w7.heap.size w7 w31 := HBD.out.trans (HB31.out.1.mono HBD.out.size)
              have hlt30 := own_lt HO30.out.1
              have hbW32 : Below w7.heap.size w7 w32 := (hbW31.alloc hbW31.size _).grown hg32 (by rw [World.size_alloc]; exact Nat.le_succ_of_le hbW31.size) (fun g e => (hlt30 g e).1)
              have hz32 : w31.heap.size + 1 ≤ w32.heap.size := by have := hg32.size; simpa using this
              have H32 : Hid (w32.ownsRow w7.heap.size 67 3 (.slice (some ⟨g32, 0, none⟩) i c32) i (xs5.take ((i - 1) * 3) ++ [.bool lfj, .slice kaj knj kcj, .slice caj cnj ccj]) ∧ Below w7.heap.size w7 w32 ∧ NG (fun b => (((((S b ∧ b < w.heap.size) ∨ w.heap.size + 2 ≤ b) ∧ b ≠ g) ∧ b < w7.heap.size) ∨ R.heap.size ≤ b) ∧ b ≠ g32) w32 d (joinD z y) (.agg #[.bool lfj, .slice kaj knj kcj, .slice caj cnj ccj]) ∧ w7.heap.size ≤ R.heap.size) := by
                have hR0 := HO30.out.2
                refine ⟨ho32, hbW32, NG.keep HB31.out.2 (by omega) (fun b hs hl => ?_), hR0⟩
                have hne : (Value.slice a30 (i - 1) c30).ownBlock ≠ some b := fun e => by
                  have q := hlt30 b e
                  rcases hs with hs | hs <;> omega
                refine ⟨⟨hs, fun e => ?_⟩, (hg32.block b (by simp; omega) (fun e => hne e.symm)).trans ((below_alloc w31 _).block b hl)⟩
                rcases hat32 with h | h
                · exact hne (by rw [← h, e]; rfl)
                · have h' : some g32 = some (w31.alloc (.cells #[.bool lfj, .slice kaj knj kcj, .slice caj cnj ccj] 67)).heap.size := h
                  injection h' with h'
                  simp at h'
                  omega
              have HLt32 : Hid (w7.heap.size ≤ g32 ∧ g32 < w32.heap.size) := ⟨hg321, hg322⟩
              clear ho32 hg32 hat32 hbW31 hlt30 hf32
              refine hK.out _ _ ?_ (fun hHeld2 => ?_)
              · (intro _; exact HKeep.out _ hbW32)
              clear hK K
              replace hHeld := hHeld2 (by decide)
              clear hHeld2
              try simp only [Act.put, List.setIfInBounds_toArray, List.set_cons_zero, List.set_cons_succ]
              refine late_one 13 (.succ (.succ (.succ (.succ (.succ (.succ (.succ (.succ (.succ (.succ (.succ (.succ (.succ .zero))))))))))))) (by kernel_rfl) (fun K hK => ?_)
              go_simp
              refine hK.out _ _ ?_ (fun hHeld2 => ?_)
              · (intro hne; exact absurd rfl hne)
              clear hK K hHeld2
              refine wpLate_done (by kernel_rfl) ?_ _
              clear hHeld hR
              obtain ⟨oo, hoo, hoo2⟩ := shZ_form 3 g 0 (i + 1) c3 n hcap3.1 hin
              have hsl2 : ∀ W : World, (Instr.sliceAt 65 (.slice (some ⟨g, 0, none⟩) n c3) (some (.int .i64 ((i : Int) + 1))) none none).run Try.prog W = .ok (.slice (some ⟨g, oo, none⟩) (n - (i + 1)) (c3 - (i + 1))) W := fun W => by
                have := fromK g 0 n c3 (i + 1) hin hcap3.1 W
                rw [hoo] at this
                simpa using this
              have HY3 : Hid ((xs5.drop ((i + 1) * 3)).length = (n - (i + 1)) * 3 ∧ (∀ j u, (xs5.drop ((i + 1) * 3))[j]? = some u → w32.cell? ⟨g, oo + j, none⟩ = some u) ∧ KidL (fun t v => NG (fun b => ((S b ∧ b < w.heap.size) ∨ w.heap.size + 2 ≤ b) ∧ b ≠ g) w7 d t v) (l5.drop (i + 1)) (xs5.drop ((i + 1) * 3))) := by
                have hl3 : (xs5.drop ((i + 1) * 3)).length = (n - (i + 1)) * 3 := by rw [List.length_drop, HX5.out.1]; omega
                refine ⟨hl3, fun j u hj => ?_, KidL.drop (i + 1) HX5.out.2.2⟩
                have hj2 := (List.getElem?_eq_some_iff.1 hj).1
                rw [hl3] at hj2
                rw [List.getElem?_drop] at hj
                rw [hoo2 (by omega), Nat.zero_add]
                exact (hbW32.cell (p := ⟨g, _, none⟩) hglW.2).trans (HX5.out.2.1 _ u hj)
              have hzW := hbW32.size
              clear hoo hoo2
              go_wp2_with (at_builtin; refine wpList_append_own_at _ rfl _ _ 65 rfl w7.heap.size 67 i0 _ 3 56 Try.underlying65 HI.out.1 HI.out.2.1 HI.out.2.2.1 HI.out.2.2.2 rfl (by decide) (.slice (some ⟨g32, 0, none⟩) i c32) i _ rfl H32.out.1 ⟨g, oo, none⟩ (n - (i + 1)) (c3 - (i + 1)) _ rfl HY3.out.1 (fun j u hj => by rw [addr_add]; exact HY3.out.2.1 j u hj) (HY3.out.2.2.cells NG.one) (by unfold maxLen; omega) (by omega) (by omega) ?_)
              intro v33 w33 ho33 hg33 _ hat33
              have e33 : i + (n - (i + 1)) = n - 1 := cut_len hin
              rw [e33] at ho33
              obtain ⟨a33, c33, e34, hf33⟩ := own_form ho33
              subst e34
              obtain ⟨g33, e34, hg331, hg332, _⟩ := hf33 (cut_ne b2)
              subst e34
              have HD33 : Hid (DS S w w33 w7.heap.size d g33 (n - 1) c33 (l5.take (i - 1) ++ joinD z y :: l5.drop (i + 1))) := by
                have hlt32 := own_lt H32.out.1
                have hbW33 : Below w7.heap.size w7 w33 := H32.out.2.1.grown hg33 hzW (fun g e => (hlt32 g e).1)
                have hs := HD7.out.sz
                have hg0 : (Value.slice (some ⟨g32, 0, none⟩) i c32).ownBlock = some g32 := rfl
                refine ⟨⟨_, ho33, ?_⟩, HD7.out.bel.trans (hbW33.mono HD7.out.bel.size), HD7.out.box.below hbW33, by omega⟩
                have hold : ∀ t v, NG (fun b => ((S b ∧ b < w.heap.size) ∨ w.heap.size + 2 ≤ b) ∧ b ≠ g) w7 d t v → NG (fun b => ((S b ∧ b < w.heap.size) ∨ w.heap.size + 2 ≤ b) ∧ b ≠ g33) w33 d t v := fun t v q => NG.keep q hbW33.size (fun b hs hl => ⟨⟨hs.1, by omega⟩, hbW33.block b hl⟩)
                have hnew : NG (fun b => ((S b ∧ b < w.heap.size) ∨ w.heap.size + 2 ≤ b) ∧ b ≠ g33) w33 d (joinD z y) (.agg #[.bool lfj, .slice kaj knj kcj, .slice caj cnj ccj]) := by
                  refine NG.keep H32.out.2.2.1 hg33.size (fun b hs' hl => ⟨⟨?_, fun e => ?_⟩, hg33.block b hl (fun e => hs'.2 (by rw [hg0] at e; injection e with e))⟩)
                  · rcases hs'.1 with q | q
                    · exact q.1.1
                    · exact Or.inr (by have := H32.out.2.2.2; omega)
                  · rcases hat33 with h | h
                    · have h' : some g33 = some g32 := h
                      injection h' with h'
                      exact hs'.2 (by omega)
                    · have h' : some g33 = some w32.heap.size := h
                      injection h' with h'
                      omega
                exact KidL.cat (KidL.cat (HY3.out.2.2.mono hold) (ts := [joinD z y]) (xs := [.bool lfj, .slice kaj knj kcj, .slice caj cnj ccj]) ⟨hnew, trivial⟩) (HY.out.2.2.mono hold)
              clear ho33 hg33 hat33 hf33 H32 HY3 hsl2
              have r0 := HD33.out.box.cell 0
              have r1 := HD33.out.box.cell 1
              have r2 := HD33.out.box.cell 2
              simp at r0 r1 r2
              have hf := fun i => HD33.out.box.frozen i
              have hbl := HD33.out.box.lt
              go_wp2
              refine bodyPost_ret (v := .agg #[.bool false, .slice none 0 0, .slice (some ⟨g33, 0, none⟩) (n - 1) c33]) (by simp [results, Try.results51, go_sem, r0, r1, r2]) rfl ⟨_, HFin.out _ ?_, HD33.out.ret (Nat.sub_pos_of_lt b2)⟩
              have em : max i 1 = i := Nat.max_eq_left hi0
              rw [fixD_join (u := z) (v := y) HL5.out.2.1 HNy.out HNL.out HNR.out (by rw [em]; exact HZ.out.1) (by rw [em]; exact HL5.out.2.1), em]
        · have hi0d : decide ((0 : Int) < (i : Int)) = false := decide_eq_false (by omega)
          have hi0i : ¬ (0 : Int) < (i : Int) := by omega
          have HNL : Hid (¬ (0 < i ∧ 2 < sizO l5[i - 1]?)) := fun q => hi0 q.1
          clear r0 r1 r2 hf hbl
          by_cases hi1 : i + 1 < n
          · have hi1d : decide ((i : Int) + 1 < (n : Int)) = true := decide_eq_true (by omega)
            have hi1i : (i : Int) + 1 < (n : Int) := by omega
            obtain ⟨lfx, kax, knx, kcx, cax, cnx, ccx, z0, z1, z2, hngx⟩ := HD6.out.kw.get (i + 1) (by omega)
            have hgx : l5[i + 1]? = some (l5[i + 1]'(by omega)) := List.getElem?_eq_getElem (by omega)
            generalize l5[i + 1]'(by omega) = x at hngx hgx
            have HX : Hid (l5[i + 1]? = some x ∧ BalR d false x h') := ⟨hgx, HL5.out.2.2 (i + 1) x hgx (by omega)⟩
            have HSx : Hid (∀ W : World, Calls Try.prog 68 #[.agg #[.bool lfx, .slice kax knx kcx, .slice cax cnx ccx]] W fun e w' => e = .returned (.int .i64 (sizD x : Int)) ∧ Below W.heap.size W w') := fun W => sizeD_any hngx W
            obtain ⟨sx, hsx⟩ : ∃ sx, sx = sizD x := ⟨_, rfl⟩
            have HSxE : Hid (sx = sizD x) := hsx
            have hsx4 : sx ≤ 4 ∧ 2 ≤ sx := by rw [hsx]; exact ⟨(BalU.of HX.out.2).le, HX.out.2.siz⟩
            rw [← hsx] at HSx
            clear hsx hngx hgx
            go_wp2_with fail
            (with_reducible refine (HSx.out _).mono ?_)
            rintro e w20 ⟨rfl, hb20⟩
            have HD20 : Hid (DS S w w20 w2.heap.size d g n c3 l5) := HD6.out.below hb20
            have hgl := HD6.out.kw.lt
            replace z0 := (hb20.cell (p := ⟨g, _, none⟩) hgl.2).trans z0
            replace z1 := (hb20.cell (p := ⟨g, _, none⟩) hgl.2).trans z1
            replace z2 := (hb20.cell (p := ⟨g, _, none⟩) hgl.2).trans z2
            clear hb20 HD6
            by_cases h4 : 2 < sx
            · have h4d : decide ((2 : Int) < (sx : Int)) = true := decide_eq_true (by omega)
              have h4i : (2 : Int) < (sx : Int) := by omega
              go_wp2_with fail
              (with_reducible refine (HSx.out _).mono ?_)
              rintro e w21 ⟨rfl, hb21⟩
              have HD21 : Hid (DS S w w21 w2.heap.size d g n c3 l5) := HD20.out.below hb21
              replace z0 := (hb21.cell (p := ⟨g, _, none⟩) HD20.out.kw.lt.2).trans z0
              replace z1 := (hb21.cell (p := ⟨g, _, none⟩) HD20.out.kw.lt.2).trans z1
              replace z2 := (hb21.cell (p := ⟨g, _, none⟩) HD20.out.kw.lt.2).trans z2
              clear hb21 HD20 hgl
              obtain ⟨lfq, kaq, knq, kcq, caq, cnq, ccq, y0, y1, y2, hngy⟩ := HD21.out.kw.get i (by omega)
              have hgy' : l5[i]'(by omega) = y := by
                have q := HL5.out.2.1
                rw [List.getElem?_eq_getElem (by omega)] at q
                injection q
              rw [hgy'] at hngy
              obtain ⟨lfx', kax', knx', kcx', cax', cnx', ccx', x0, x1, x2, hngx⟩ := HD21.out.kw.get (i + 1) (by omega)
              have hgx' : l5[i + 1]'(by omega) = x := by
                have q := HX.out.1
                rw [List.getElem?_eq_getElem (by omega)] at q
                injection q
              rw [hgx'] at hngx
              rw [z0] at x0
              rw [z1] at x1
              rw [z2] at x2
              injection x0 with x0
              injection x0 with x0
              injection x1 with x1
              injection x1 with x1 x1' x1''
              injection x2 with x2
              injection x2 with x2 x2' x2''
              subst x0 x1 x1' x1'' x2 x2' x2''
              have hgl8 := HD21.out.kw.lt
              have HNG8 : Hid (NG (fun b => ((S b ∧ b < w.heap.size) ∨ w.heap.size + 2 ≤ b) ∧ b ≠ g) w21.drew d x (.agg #[.bool lfx, .slice kax knx kcx, .slice cax cnx ccx]) ∧ NG (fun b => ((S b ∧ b < w.heap.size) ∨ w.heap.size + 2 ≤ b) ∧ b ≠ g) w21.drew d y (.agg #[.bool lfq, .slice kaq knq kcq, .slice caq cnq ccq]) ∧ DS S w w21.drew w2.heap.size d g n c3 l5) := ⟨NG.below hngx (Below.refl _ _).drew, NG.below hngy (Below.refl _ _).drew, HD21.out.below (Below.refl _ _).drew⟩
              have HKeep : Hid (∀ w', Below w21.drew.heap.size w21.drew w' → w'.cell? ⟨g, (i + 1) * 3, none⟩ = some (.bool lfx) ∧ w'.cell? ⟨g, (i + 1) * 3 + 1, none⟩ = some (.slice kax knx kcx) ∧ w'.cell? ⟨g, (i + 1) * 3 + 2, none⟩ = some (.slice cax cnx ccx) ∧ w'.cell? ⟨g, i * 3, none⟩ = some (.bool lfq) ∧ w'.cell? ⟨g, i * 3 + 1, none⟩ = some (.slice kaq knq kcq) ∧ w'.cell? ⟨g, i * 3 + 2, none⟩ = some (.slice caq cnq ccq)) := by
                intro w' hb
                have hgl' : g < w21.drew.heap.size := hgl8.2
                exact ⟨(hb.cell (p := ⟨g, _, none⟩) hgl').trans z0, (hb.cell (p := ⟨g, _, none⟩) hgl').trans z1, (hb.cell (p := ⟨g, _, none⟩) hgl').trans z2, (hb.cell (p := ⟨g, _, none⟩) hgl').trans y0, (hb.cell (p := ⟨g, _, none⟩) hgl').trans y1, (hb.cell (p := ⟨g, _, none⟩) hgl').trans y2⟩
              have hwi : IntKind.i64.wrap ((i : Int) + 1) = ((i + 1 : Nat) : Int) := by rw [IntKind.wrap_i64]; omega
              have i0m : (0 : Int) ≤ ((i + 1 : Nat) : Int) := by omega
              have i0p : (0 : Int) ≤ (i : Int) + 1 := by omega
              have i1m : ((i + 1 : Nat) : Int) < (n : Int) := by omega
              have HP1 : Hid (Calls Try.prog 70 #[.agg #[.bool lfx, .slice kax knx kcx, .slice cax cnx ccx], .int .i64 0, .int .i64 1] w21.drew (RetG3 (fun b => ((S b ∧ b < w.heap.size) ∨ w.heap.size + 2 ≤ b) ∧ b ≠ g) w21.drew d (cutD 0 1 x))) := partD_any HNG8.out.1 0 1 (by omega) (by rw [← HSxE.out]; omega) (by rw [← HSxE.out]; omega)
              clear hngy hngx hgx' hgy'
              go_wp2_with fail
              generalize hR : w21.drew = R at HNG8 HKeep HP1
              refine wp_region_late (S := fun w' => w'.cell? ⟨g, (i + 1) * 3, none⟩ = some (.bool lfx) ∧ w'.cell? ⟨g, (i + 1) * 3 + 1, none⟩ = some (.slice kax knx kcx) ∧ w'.cell? ⟨g, (i + 1) * 3 + 2, none⟩ = some (.slice cax cnx ccx) ∧ w'.cell? ⟨g, i * 3, none⟩ = some (.bool lfq) ∧ w'.cell? ⟨g, i * 3 + 1, none⟩ = some (.slice kaq knq kcq) ∧ w'.cell? ⟨g, i * 3 + 2, none⟩ = some (.slice caq cnq ccq)) 14 (by kernel_rfl) ?_ (fun hHeld => ?_)
              · (rw [hR]; exact HKeep.out _ (Below.refl _ _))
              rw [hR] at hHeld ⊢
              clear hR z0 z1 z2 y0 y1 y2
              refine late_take 0 .zero (v := ?_) (by kernel_rfl) (by kernel_rfl) (by kernel_rfl) (by kernel_rfl) (fun _ _ _ h => h) (by rfl) ?_ (by assumption) ?_
              rotate_left
              · (intro w hSw; (try dsimp only at hSw); go_simp) <;> with_reducible rfl
              simp only [Act.put, List.setIfInBounds_toArray, List.set_cons_zero, List.set_cons_succ]
              refine late_take 1 (.succ .zero) (v := ?_) (by kernel_rfl) (by kernel_rfl) (by kernel_rfl) (by kernel_rfl) (fun _ _ _ h => h) (by rfl) ?_ (by assumption) ?_
              rotate_left
              · (intro w hSw; (try dsimp only at hSw); go_simp) <;> with_reducible rfl
              simp only [Act.put, List.setIfInBounds_toArray, List.set_cons_zero, List.set_cons_succ]
              refine late_take 2 (.succ (.succ .zero)) (v := ?_) (by kernel_rfl) (by kernel_rfl) (by kernel_rfl) (by kernel_rfl) (fun _ _ _ h => h) (by rfl) ?_ (by assumption) ?_
              rotate_left
              · (intro w hSw; (try dsimp only at hSw); go_simp) <;> with_reducible rfl
              simp only [Act.put, List.setIfInBounds_toArray, List.set_cons_zero, List.set_cons_succ]
              refine late_take 3 (.succ (.succ (.succ .zero))) (v := ?_) (by kernel_rfl) (by kernel_rfl) (by kernel_rfl) (by kernel_rfl) (fun _ _ _ h => h) (by rfl) ?_ (by assumption) ?_
              rotate_left
              · (intro w hSw; (try dsimp only at hSw); go_simp) <;> with_reducible rfl
              simp only [Act.put, List.setIfInBounds_toArray, List.set_cons_zero, List.set_cons_succ]
              refine late_take 4 (.succ (.succ (.succ (.succ .zero)))) (v := ?_) (by kernel_rfl) (by kernel_rfl) (by kernel_rfl) (by kernel_rfl) (fun _ _ _ h => h) (by rfl) ?_ (by assumption) ?_
              rotate_left
              · (intro w hSw; (try dsimp only at hSw); go_simp) <;> with_reducible rfl
              simp only [Act.put, List.setIfInBounds_toArray, List.set_cons_zero, List.set_cons_succ]
              refine late_take 5 (.succ (.succ (.succ (.succ (.succ .zero))))) (v := ?_) (by kernel_rfl) (by kernel_rfl) (by kernel_rfl) (by kernel_rfl) (fun _ _ _ h => h) (by rfl) ?_ (by assumption) ?_
              rotate_left
              · (intro w hSw; (try dsimp only at hSw); go_simp) <;> with_reducible rfl
              simp only [Act.put, List.setIfInBounds_toArray, List.set_cons_zero, List.set_cons_succ]
              refine late_take 6 (.succ (.succ (.succ (.succ (.succ (.succ .zero)))))) (v := ?_) (by kernel_rfl) (by kernel_rfl) (by kernel_rfl) (by kernel_rfl) (fun _ _ _ h => h) (by rfl) ?_ (by assumption) ?_
              rotate_left
              · (intro w hSw; (try dsimp only at hSw); go_simp) <;> with_reducible rfl
              simp only [Act.put, List.setIfInBounds_toArray, List.set_cons_zero, List.set_cons_succ]
              refine late_take 7 (.succ (.succ (.succ (.succ (.succ (.succ (.succ .zero))))))) (v := ?_) (by kernel_rfl) (by kernel_rfl) (by kernel_rfl) (by kernel_rfl) (fun _ _ _ h => h) (by rfl) ?_ (by assumption) ?_
              rotate_left
              · (intro w hSw; (try dsimp only at hSw); go_simp) <;> with_reducible rfl
              simp only [Act.put, List.setIfInBounds_toArray, List.set_cons_zero, List.set_cons_succ]
              refine late_take 8 (.succ (.succ (.succ (.succ (.succ (.succ (.succ (.succ .zero)))))))) (v := ?_) (by kernel_rfl) (by kernel_rfl) (by kernel_rfl) (by kernel_rfl) (fun _ _ _ h => h) (by rfl) ?_ (by assumption) ?_
              rotate_left
              · (intro w hSw; (try dsimp only at hSw); go_simp) <;> with_reducible rfl
              simp only [Act.put, List.setIfInBounds_toArray, List.set_cons_zero, List.set_cons_succ]
              refine late_take 9 (.succ (.succ (.succ (.succ (.succ (.succ (.succ (.succ (.succ .zero))))))))) (v := ?_) (by kernel_rfl) (by kernel_rfl) (by kernel_rfl) (by kernel_rfl) (fun _ _ _ h => h) (by rfl) ?_ (by assumption) ?_
              rotate_left
              · (intro w hSw; (try dsimp only at hSw); go_simp) <;> with_reducible rfl
              simp only [Act.put, List.setIfInBounds_toArray, List.set_cons_zero, List.set_cons_succ]
              refine late_take 10 (.succ (.succ (.succ (.succ (.succ (.succ (.succ (.succ (.succ (.succ .zero)))))))))) (v := ?_) (by kernel_rfl) (by kernel_rfl) (by kernel_rfl) (by kernel_rfl) (fun _ _ _ h => h) (by rfl) ?_ (by assumption) ?_
              rotate_left
              · (intro w hSw; (try dsimp only at hSw); go_simp) <;> with_reducible rfl
              simp only [Act.put, List.setIfInBounds_toArray, List.set_cons_zero, List.set_cons_succ]
              refine late_one 11 (.succ (.succ (.succ (.succ (.succ (.succ (.succ (.succ (.succ (.succ (.succ .zero))))))))))) (by kernel_rfl) (fun K hK => ?_)
              refine step_tcc (by rfl) 70 141 (.int .i64 0) (.int .i64 1) _ (by rfl) (.agg #[.bool lfx, .slice kax knx kcx, .slice cax cnx ccx]) (by rfl) (fun _ _ => by rfl) ?_
              (with_reducible refine HP1.out.mono ?_)
              rintro e w9 ⟨hb9, lfp, kap, knp, kcp, cap, cnp, ccp, rfl, hgp⟩
              refine ⟨_, rfl, ?_⟩
              have HB9 : Hid (Below R.heap.size R w9 ∧ NG (fun b => ((S b ∧ b < w.heap.size) ∨ w.heap.size + 2 ≤ b) ∧ b ≠ g) w9 d (cutD 0 1 x) (.agg #[.bool lfp, .slice kap knp kcp, .slice cap cnp ccp])) := ⟨hb9, HNG8.out.2.2.new hb9 hgp⟩
              clear hgp hb9
              refine hK.out _ _ ?_ (fun hHeld2 => ?_)
              · (intro _; exact HKeep.out _ HB9.out.1)
              clear hK K
              replace hHeld := hHeld2 (by decide)
              clear hHeld2
              try simp only [Act.put, List.setIfInBounds_toArray, List.set_cons_zero, List.set_cons_succ]
              have HJ : Hid (Calls Try.prog 69 #[.agg #[.bool lfq, .slice kaq knq kcq, .slice caq cnq ccq], .agg #[.bool lfp, .slice kap knp kcp, .slice cap cnp ccp]] w9 (RetG3 (fun b => ((S b ∧ b < w.heap.size) ∨ w.heap.size + 2 ≤ b) ∧ b ≠ g) w9 d (joinD y (cutD 0 1 x)))) := joinD_any (NG.below HNG8.out.2.1 HB9.out.1) HB9.out.2 HBy.out.1 ((BalU.of HX.out.2).cut (lo := 0) (hi := 1) (by omega) (by rw [← HSxE.out]; omega)).1
              refine late_one 12 (.succ (.succ (.succ (.succ (.succ (.succ (.succ (.succ (.succ (.succ (.succ (.succ .zero)))))))))))) (by kernel_rfl) (fun K hK => ?_)
              refine step_t2 (by rfl) 69 136 142 _ (by rfl) (.agg #[.bool lfq, .slice kaq knq kcq, .slice caq cnq ccq]) (.agg #[.bool lfp, .slice kap knp kcp, .slice cap cnp ccp]) (by rfl) (by rfl) (fun _ _ => by rfl) ?_
              (with_reducible refine HJ.out.mono ?_)
              rintro e w10 ⟨hb10, lfj, kaj, knj, kcj, caj, cnj, ccj, rfl, hgj⟩
              refine ⟨_, rfl, ?_⟩
              have HD9 : Hid (DS S w w9 w2.heap.size d g n c3 l5) := HNG8.out.2.2.below HB9.out.1
              have HB10 : Hid (Below R.heap.size R w10 ∧ NG (fun b => ((S b ∧ b < w.heap.size) ∨ w.heap.size + 2 ≤ b) ∧ b ≠ g) w10 d (joinD y (cutD 0 1 x)) (.agg #[.bool lfj, .slice kaj knj kcj, .slice caj cnj ccj]) ∧ DS S w w10 w2.heap.size d g n c3 l5) := ⟨HB9.out.1.trans (hb10.mono HB9.out.1.size), HD9.out.new hb10 hgj, HD9.out.below hb10⟩
              clear hgj hb10 HD9 HJ
              refine hK.out _ _ ?_ (fun hHeld2 => ?_)
              · (intro _; exact HKeep.out _ HB10.out.1)
              clear hK K
              replace hHeld := hHeld2 (by decide)
              clear hHeld2
              try simp only [Act.put, List.setIfInBounds_toArray, List.set_cons_zero, List.set_cons_succ]
              refine late_one 13 (.succ (.succ (.succ (.succ (.succ (.succ (.succ (.succ (.succ (.succ (.succ (.succ (.succ .zero))))))))))))) (by kernel_rfl) (fun K hK => ?_)
              go_simp
              refine hK.out _ _ ?_ (fun hHeld2 => ?_)
              · (intro _; exact hHeld)
              clear hK K
              replace hHeld := hHeld2 (by decide)
              clear hHeld2
              try simp only [Act.put, List.setIfInBounds_toArray, List.set_cons_zero, List.set_cons_succ]
              obtain ⟨u0, u1, u2, u3, u4, u5⟩ := HKeep.out w10 HB10.out.1
              have gf := fun j => HB10.out.2.2.kw.frozen j
              refine late_one 14 (.succ (.succ (.succ (.succ (.succ (.succ (.succ (.succ (.succ (.succ (.succ (.succ (.succ (.succ .zero)))))))))))))) (by kernel_rfl) (fun K hK => ?_)
              go_simp
              refine hK.out _ _ ?_ (fun hHeld2 => ?_)
              · (intro hne; exact absurd rfl hne)
              clear hK K hHeld2
              refine wpLate_done (by kernel_rfl) ?_ _
              have HD11 : Hid (DS S w (((w10.setCell ⟨g, i * 3, none⟩ (.bool lfj)).setCell ⟨g, i * 3 + 1, none⟩ (.slice kaj knj kcj)).setCell ⟨g, i * 3 + 2, none⟩ (.slice caj cnj ccj)) w2.heap.size d g n c3 (l5.set i (joinD y (cutD 0 1 x)))) := HB10.out.2.2.put i (by omega) HB10.out.2.1
              clear u0 u1 u2 u3 u4 u5 gf hHeld HB10 HB9 HP1 HKeep HNG8 HD21
              generalize ((w10.setCell ⟨g, i * 3, none⟩ (.bool lfj)).setCell ⟨g, i * 3 + 1, none⟩ (.slice kaj knj kcj)).setCell ⟨g, i * 3 + 2, none⟩ (.slice caj cnj ccj) = w11 at HD11 ⊢
              obtain ⟨lfr, kar, knr, kcr, car, cnr, ccr, z0, z1, z2, hngr⟩ := HD11.out.kw.get (i + 1) (by rw [List.length_set]; omega)
              have hgr : (l5.set i (joinD y (cutD 0 1 x)))[i + 1]'(by rw [List.length_set]; omega) = x := by
                rw [List.getElem_set_ne (by omega)]
                have q := HX.out.1
                rw [List.getElem?_eq_getElem (by omega)] at q
                injection q
              rw [hgr] at hngr
              have HP2 : Hid (Calls Try.prog 70 #[.agg #[.bool lfr, .slice kar knr kcr, .slice car cnr ccr], .int .i64 1, .int .i64 (sx : Int)] w11 (RetG3 (fun b => ((S b ∧ b < w.heap.size) ∨ w.heap.size + 2 ≤ b) ∧ b ≠ g) w11 d (cutD 1 sx x))) := partD_any hngr 1 sx (by omega) (by rw [← HSxE.out]; exact Nat.le_refl _) (by rw [← HSxE.out]; omega)
              have hgl11 := HD11.out.kw.lt
              have gf := fun j => HD11.out.kw.frozen j
              clear hngr hgr
              go_wp2_with fail
              (with_reducible refine HP2.out.mono ?_)
              rintro e w12 ⟨hb12, lfs, kas, kns, kcs, cas, cns, ccs, rfl, hgs⟩
              have HD12 : Hid (DS S w w12 w2.heap.size d g n c3 (l5.set i (joinD y (cutD 0 1 x)))) := HD11.out.below hb12
              have HG12 : Hid (NG (fun b => ((S b ∧ b < w.heap.size) ∨ w.heap.size + 2 ≤ b) ∧ b ≠ g) w12 d (cutD 1 sx x) (.agg #[.bool lfs, .slice kas kns kcs, .slice cas cns ccs])) := HD11.out.new hb12 hgs
              clear z0 z1 z2 hb12 hgs HP2 gf hgl11
              obtain ⟨lfv, kav, knv, kcv, cav, cnv, ccv, z0, z1, z2, _⟩ := HD12.out.kw.get (i + 1) (by rw [List.length_set]; omega)
              have gf := fun j => HD12.out.kw.frozen j
              have hgl12 := HD12.out.kw.lt
              have hs12 := HD12.out.sz
              have HD13 : Hid (DS S w (((w12.setCell ⟨g, (i + 1) * 3, none⟩ (.bool lfs)).setCell ⟨g, (i + 1) * 3 + 1, none⟩ (.slice kas kns kcs)).setCell ⟨g, (i + 1) * 3 + 2, none⟩ (.slice cas cns ccs)) w2.heap.size d g n c3 ((l5.set i (joinD y (cutD 0 1 x))).set (i + 1) (cutD 1 sx x))) := HD12.out.put (i + 1) (by rw [List.length_set]; omega) HG12.out
              have r0 := HD13.out.box.cell 0
              have r1 := HD13.out.box.cell 1
              have r2 := HD13.out.box.cell 2
              simp only [List.getElem?_toArray, List.getElem?_cons_zero, List.getElem?_cons_succ] at r0 r1 r2
              have hf := fun i => HD13.out.box.frozen i
              have hbl := HD13.out.box.lt
              go_wp2
              clear r0 r1 r2 hf hbl gf z0 z1 z2
              generalize ((w12.setCell ⟨g, (i + 1) * 3, none⟩ (.bool lfs)).setCell ⟨g, (i + 1) * 3 + 1, none⟩ (.slice kas kns kcs)).setCell ⟨g, (i + 1) * 3 + 2, none⟩ (.slice cas cns ccs) = w13 at HD13 ⊢
              have r0 := HD13.out.box.cell 0
              have r1 := HD13.out.box.cell 1
              have r2 := HD13.out.box.cell 2
              simp at r0 r1 r2
              refine bodyPost_ret (v := .agg #[.bool false, .slice none 0 0, .slice (some ⟨g, 0, none⟩) n c3]) (by simp [results, Try.results51, go_sem, r0, r1, r2]) rfl ⟨_, HFin.out _ ?_, HD13.out.ret (by omega)⟩
              rw [fixD_right HL5.out.2.1 HNy.out HNL.out HX.out.1 (by rw [← HSxE.out]; exact h4), ← HSxE.out]
            · have h4d : decide ((2 : Int) < (sx : Int)) = false := decide_eq_false (by omega)
              have h4i : ¬ (2 : Int) < (sx : Int) := by omega
              have HNR : Hid (¬ 2 < sizO l5[i + 1]?) := fun q => by
                rw [HX.out.1] at q
                have q' : 2 < sizD x := q
                rw [← HSxE.out] at q'
                exact h4 q'
              clear z0 z1 z2 HSx
              have hie : (i : Int) = 0 := by omega
              have hien : i = 0 := by omega
              have hied : decide ((i : Int) = 0) = true := decide_eq_true (by omega)
              have hY0 : l5[0]? = some y := by rw [← hien]; exact HL5.out.2.1
              have hX1 : l5[1]? = some x := by have := HX.out.1; rw [hien] at this; exact this
              obtain ⟨xs5, HX5⟩ := HD20.out.kw.cells (by omega)
              have HO : Hid ((w20.alloc (.cells #[] 67)).ownsRow w20.heap.size 67 3 (.slice (some ⟨w20.heap.size, 0, none⟩) 0 0) 0 []) := own_empty w20 67 w20.heap.size 3 (Nat.le_refl _)
              have hglW := HD20.out.kw.lt
              have hbW : Below w20.heap.size w20 (w20.alloc (.cells #[] 67)) := below_alloc _ _
              have HD30 : Hid (DS S w (w20.alloc (.cells #[] 67)) w2.heap.size d g n c3 l5) := HD20.out.below hbW
              have H30 : Hid ((w20.alloc (.cells #[] 67)).ownsRow w20.heap.size 67 3 (.slice (some ⟨w20.heap.size, 0, none⟩) 0 0) 0 [] ∧ Below w20.heap.size w20 (w20.alloc (.cells #[] 67)) ∧ w20.heap.size ≤ (w20.alloc (.cells #[] 67)).heap.size) := ⟨HO.out, hbW, hbW.size⟩
              clear hbW HO
              obtain ⟨lfq, kaq, knq, kcq, caq, cnq, ccq, y0, y1, y2, hngy⟩ := kid_at (K := KS (fun b => ((S b ∧ b < w.heap.size) ∨ w.heap.size + 2 ≤ b) ∧ b ≠ g) w20) (S := fun b => ((S b ∧ b < w.heap.size) ∨ w.heap.size + 2 ≤ b) ∧ b ≠ g) HX5.out.2.1 HX5.out.2.2 0 (by omega)
              obtain ⟨lfx, kax, knx, kcx, cax, cnx, ccx, z0, z1, z2, hngx⟩ := kid_at (K := KS (fun b => ((S b ∧ b < w.heap.size) ∨ w.heap.size + 2 ≤ b) ∧ b ≠ g) w20) (S := fun b => ((S b ∧ b < w.heap.size) ∨ w.heap.size + 2 ≤ b) ∧ b ≠ g) HX5.out.2.1 HX5.out.2.2 1 (by omega)
              have hgy' : l5[0]'(by omega) = y := by
                have q := hY0
                rw [List.getElem?_eq_getElem (by omega)] at q
                injection q
              have hgx' : l5[1]'(by omega) = x := by
                have q := hX1
                rw [List.getElem?_eq_getElem (by omega)] at q
                injection q
              rw [hgy'] at hngy
              rw [hgx'] at hngx
              have hbD : Below w20.heap.size w20 (w20.alloc (.cells #[] 67)).drew := H30.out.2.1.drew
              have HN30 : Hid (NG (fun b => (((S b ∧ b < w.heap.size) ∨ w.heap.size + 2 ≤ b) ∧ b ≠ g) ∧ b < w20.heap.size) (w20.alloc (.cells #[] 67)).drew d y (.agg #[.bool lfq, .slice kaq knq kcq, .slice caq cnq ccq]) ∧ NG (fun b => (((S b ∧ b < w.heap.size) ∨ w.heap.size + 2 ≤ b) ∧ b ≠ g) ∧ b < w20.heap.size) (w20.alloc (.cells #[] 67)).drew d x (.agg #[.bool lfx, .slice kax knx kcx, .slice cax cnx ccx])) := ⟨NG.keep hngy hbD.size (fun b hs hl => ⟨⟨hs, hl⟩, hbD.block b hl⟩), NG.keep hngx hbD.size (fun b hs hl => ⟨⟨hs, hl⟩, hbD.block b hl⟩)⟩
              have HKeep : Hid (∀ w', Below w20.heap.size w20 w' → w'.cell? ⟨g, 0, none⟩ = some (.bool lfq) ∧ w'.cell? ⟨g, 1, none⟩ = some (.slice kaq knq kcq) ∧ w'.cell? ⟨g, 2, none⟩ = some (.slice caq cnq ccq) ∧ w'.cell? ⟨g, 3, none⟩ = some (.bool lfx) ∧ w'.cell? ⟨g, 4, none⟩ = some (.slice kax knx kcx) ∧ w'.cell? ⟨g, 5, none⟩ = some (.slice cax cnx ccx)) := by
                intro w' hb'
                exact ⟨(hb'.cell (p := ⟨g, _, none⟩) hglW.2).trans y0, (hb'.cell (p := ⟨g, _, none⟩) hglW.2).trans y1, (hb'.cell (p := ⟨g, _, none⟩) hglW.2).trans y2, (hb'.cell (p := ⟨g, _, none⟩) hglW.2).trans z0, (hb'.cell (p := ⟨g, _, none⟩) hglW.2).trans z1, (hb'.cell (p := ⟨g, _, none⟩) hglW.2).trans z2⟩
              have i1m : (1 : Int) < (n : Int) := by omega
              have i0m : (0 : Int) < (n : Int) := by omega
              have hwz : IntKind.i64.wrap 0 = 0 := by decide
              have HJ : Hid (Calls Try.prog 69 #[.agg #[.bool lfq, .slice kaq knq kcq, .slice caq cnq ccq], .agg #[.bool lfx, .slice kax knx kcx, .slice cax cnx ccx]] (w20.alloc (.cells #[] 67)).drew (RetG3 (fun b => (((S b ∧ b < w.heap.size) ∨ w.heap.size + 2 ≤ b) ∧ b ≠ g) ∧ b < w20.heap.size) (w20.alloc (.cells #[] 67)).drew d (joinD y x))) := joinD_any HN30.out.1 HN30.out.2 HBy.out.1 (BalU.of HX.out.2)
              have HBD : Hid (Below w20.heap.size w20 (w20.alloc (.cells #[] 67)).drew) := hbD
              have HO30 : Hid ((w20.alloc (.cells #[] 67)).drew.ownsRow w20.heap.size 67 3 (.slice (some ⟨w20.heap.size, 0, none⟩) 0 0) 0 [] ∧ w20.heap.size ≤ (w20.alloc (.cells #[] 67)).drew.heap.size) := ⟨own_below H30.out.1 (Below.refl _ _).drew, H30.out.2.2⟩
              clear hngy hngx hgy' hgx' hbD z0 z1 z2 y0 y1 y2
              go_wp2_with fail
              generalize hR : (w20.alloc (.cells #[] 67)).drew = R at HN30 HJ HO30 HBD
              refine wp_region_late (S := fun w' => w'.cell? ⟨g, 0, none⟩ = some (.bool lfq) ∧ w'.cell? ⟨g, 1, none⟩ = some (.slice kaq knq kcq) ∧ w'.cell? ⟨g, 2, none⟩ = some (.slice caq cnq ccq) ∧ w'.cell? ⟨g, 3, none⟩ = some (.bool lfx) ∧ w'.cell? ⟨g, 4, none⟩ = some (.slice kax knx kcx) ∧ w'.cell? ⟨g, 5, none⟩ = some (.slice cax cnx ccx)) 13 (by kernel_rfl) ?_ (fun hHeld => ?_)
              · (rw [hR]; exact HKeep.out _ HBD.out)
              rw [hR] at hHeld ⊢
              
              refine late_take 0 .zero (v := ?_) (by kernel_rfl) (by kernel_rfl) (by kernel_rfl) (by kernel_rfl) (fun _ _ _ h => h) (by rfl) ?_ (by assumption) ?_
              rotate_left
              · (intro w hSw; (try dsimp only at hSw); go_simp) <;> with_reducible rfl
              simp only [Act.put, List.setIfInBounds_toArray, List.set_cons_zero, List.set_cons_succ]
              refine late_take 1 (.succ .zero) (v := ?_) (by kernel_rfl) (by kernel_rfl) (by kernel_rfl) (by kernel_rfl) (fun _ _ _ h => h) (by rfl) ?_ (by assumption) ?_
              rotate_left
              · (intro w hSw; (try dsimp only at hSw); go_simp) <;> with_reducible rfl
              simp only [Act.put, List.setIfInBounds_toArray, List.set_cons_zero, List.set_cons_succ]
              refine late_take 2 (.succ (.succ .zero)) (v := ?_) (by kernel_rfl) (by kernel_rfl) (by kernel_rfl) (by kernel_rfl) (fun _ _ _ h => h) (by rfl) ?_ (by assumption) ?_
              rotate_left
              · (intro w hSw; (try dsimp only at hSw); go_simp) <;> with_reducible rfl
              simp only [Act.put, List.setIfInBounds_toArray, List.set_cons_zero, List.set_cons_succ]
              refine late_take 3 (.succ (.succ (.succ .zero))) (v := ?_) (by kernel_rfl) (by kernel_rfl) (by kernel_rfl) (by kernel_rfl) (fun _ _ _ h => h) (by rfl) ?_ (by assumption) ?_
              rotate_left
              · (intro w hSw; (try dsimp only at hSw); go_simp) <;> with_reducible rfl
              simp only [Act.put, List.setIfInBounds_toArray, List.set_cons_zero, List.set_cons_succ]
              refine late_take 4 (.succ (.succ (.succ (.succ .zero)))) (v := ?_) (by kernel_rfl) (by kernel_rfl) (by kernel_rfl) (by kernel_rfl) (fun _ _ _ h => h) (by rfl) ?_ (by assumption) ?_
              rotate_left
              · (intro w hSw; (try dsimp only at hSw); go_simp) <;> with_reducible rfl
              simp only [Act.put, List.setIfInBounds_toArray, List.set_cons_zero, List.set_cons_succ]
              refine late_take 5 (.succ (.succ (.succ (.succ (.succ .zero))))) (v := ?_) (by kernel_rfl) (by kernel_rfl) (by kernel_rfl) (by kernel_rfl) (fun _ _ _ h => h) (by rfl) ?_ (by assumption) ?_
              rotate_left
              · (intro w hSw; (try dsimp only at hSw); go_simp) <;> with_reducible rfl
              simp only [Act.put, List.setIfInBounds_toArray, List.set_cons_zero, List.set_cons_succ]
              refine late_take 6 (.succ (.succ (.succ (.succ (.succ (.succ .zero)))))) (v := ?_) (by kernel_rfl) (by kernel_rfl) (by kernel_rfl) (by kernel_rfl) (fun _ _ _ h => h) (by rfl) ?_ (by assumption) ?_
              rotate_left
              · (intro w hSw; (try dsimp only at hSw); go_simp) <;> with_reducible rfl
              simp only [Act.put, List.setIfInBounds_toArray, List.set_cons_zero, List.set_cons_succ]
              refine late_take 7 (.succ (.succ (.succ (.succ (.succ (.succ (.succ .zero))))))) (v := ?_) (by kernel_rfl) (by kernel_rfl) (by kernel_rfl) (by kernel_rfl) (fun _ _ _ h => h) (by rfl) ?_ (by assumption) ?_
              rotate_left
              · (intro w hSw; (try dsimp only at hSw); go_simp) <;> with_reducible rfl
              simp only [Act.put, List.setIfInBounds_toArray, List.set_cons_zero, List.set_cons_succ]
              refine late_take 8 (.succ (.succ (.succ (.succ (.succ (.succ (.succ (.succ .zero)))))))) (v := ?_) (by kernel_rfl) (by kernel_rfl) (by kernel_rfl) (by kernel_rfl) (fun _ _ _ h => h) (by rfl) ?_ (by assumption) ?_
              rotate_left
              · (intro w hSw; (try dsimp only at hSw); go_simp) <;> with_reducible rfl
              simp only [Act.put, List.setIfInBounds_toArray, List.set_cons_zero, List.set_cons_succ]
              refine late_take 9 (.succ (.succ (.succ (.succ (.succ (.succ (.succ (.succ (.succ .zero))))))))) (v := ?_) (by kernel_rfl) (by kernel_rfl) (by kernel_rfl) (by kernel_rfl) (fun _ _ _ h => h) (by rfl) ?_ (by assumption) ?_
              rotate_left
              · (intro w hSw; (try dsimp only at hSw); go_simp) <;> with_reducible rfl
              simp only [Act.put, List.setIfInBounds_toArray, List.set_cons_zero, List.set_cons_succ]
              refine late_one 10 (.succ (.succ (.succ (.succ (.succ (.succ (.succ (.succ (.succ (.succ .zero)))))))))) (by kernel_rfl) (fun K hK => ?_)
              refine step_t2 (by rfl) 69 171 175 _ (by rfl) (.agg #[.bool lfq, .slice kaq knq kcq, .slice caq cnq ccq]) (.agg #[.bool lfx, .slice kax knx kcx, .slice cax cnx ccx]) (by rfl) (by rfl) (fun _ _ => by rfl) ?_
              (with_reducible refine HJ.out.mono ?_)
              rintro e w31 ⟨hb31, lfj, kaj, knj, kcj, caj, cnj, ccj, rfl, hgj⟩
              refine ⟨_, rfl, ?_⟩
              have HB31 : Hid (Below R.heap.size R w31 ∧ NG (fun b => ((((S b ∧ b < w.heap.size) ∨ w.heap.size + 2 ≤ b) ∧ b ≠ g) ∧ b < w20.heap.size) ∨ R.heap.size ≤ b) w31 d (joinD y x) (.agg #[.bool lfj, .slice kaj knj kcj, .slice caj cnj ccj])) := ⟨hb31, hgj⟩
              clear hgj hb31 HJ
              refine hK.out _ _ ?_ (fun hHeld2 => ?_)
              · (intro _; exact HKeep.out _ (HBD.out.trans (HB31.out.1.mono HBD.out.size)))
              clear hK K
              replace hHeld := hHeld2 (by decide)
              clear hHeld2
              try simp only [Act.put, List.setIfInBounds_toArray, List.set_cons_zero, List.set_cons_succ]
              refine late_one 11 (.succ (.succ (.succ (.succ (.succ (.succ (.succ (.succ (.succ (.succ (.succ .zero))))))))))) (by kernel_rfl) (fun K hK => ?_)
              go_simp
              refine hK.out _ _ ?_ (fun hHeld2 => ?_)
              · (intro _; exact HKeep.out _ ((HBD.out.trans (HB31.out.1.mono HBD.out.size)).alloc (HBD.out.trans (HB31.out.1.mono HBD.out.size)).size _))
              clear hK K
              replace hHeld := hHeld2 (by decide)
              clear hHeld2
              try simp only [Act.put, List.setIfInBounds_toArray, List.set_cons_zero, List.set_cons_succ]
              refine late_one 12 (.succ (.succ (.succ (.succ (.succ (.succ (.succ (.succ (.succ (.succ (.succ (.succ .zero)))))))))))) (by kernel_rfl) (fun K hK => ?_)
              refine step_app_kid1 (by rfl) (.tmp 166) (.tmp 177) (by rfl) w20.heap.size (.slice (some ⟨w20.heap.size, 0, none⟩) 0 0) 0 _ (by rfl) (own_below (own_below HO30.out.1 HB31.out.1) (below_alloc _ _)) w31.heap.size 1 (.bool lfj) (.slice kaj knj kcj) (.slice caj cnj ccj) (by rfl) (fun j u hj => by rw [(Bx.new w31 #[.bool lfj, .slice kaj knj kcj, .slice caj cnj ccj] 67).cell j]; simpa using hj) (by intro u hu; simp at hu; rcases hu with rfl | rfl | rfl <;> rfl) (by omega) (by have := HB31.out.1.size; have := HO30.out.2; simp; omega) ?_
              intro v32 w32 ho32 hg32 hat32
              simp only [Nat.zero_add, List.nil_append] at ho32
              obtain ⟨a32, c32, e32, hf32⟩ := own_form ho32
              subst e32
              have hcap32 := own_cap ho32
              obtain ⟨g32, e32, hg321, hg322, _⟩ := hf32 (by omega)
              subst e32
              have hbW31 : Below w20.heap.size w20 w31 := HBD.out.trans (HB31.out.1.mono HBD.out.size)
              have hlt30 := own_lt HO30.out.1
              have hbW32 : Below w20.heap.size w20 w32 := (hbW31.alloc hbW31.size _).grown hg32 (by rw [World.size_alloc]; exact Nat.le_succ_of_le hbW31.size) (fun g e => (hlt30 g e).1)
              have hz32 : w31.heap.size + 1 ≤ w32.heap.size := by have := hg32.size; simpa using this
              have H32 : Hid (w32.ownsRow w20.heap.size 67 3 (.slice (some ⟨g32, 0, none⟩) 1 c32) 1 [.bool lfj, .slice kaj knj kcj, .slice caj cnj ccj] ∧ Below w20.heap.size w20 w32 ∧ NG (fun b => (((((S b ∧ b < w.heap.size) ∨ w.heap.size + 2 ≤ b) ∧ b ≠ g) ∧ b < w20.heap.size) ∨ R.heap.size ≤ b) ∧ b ≠ g32) w32 d (joinD y x) (.agg #[.bool lfj, .slice kaj knj kcj, .slice caj cnj ccj]) ∧ w20.heap.size ≤ R.heap.size) := by
                have hR0 := HO30.out.2
                refine ⟨ho32, hbW32, NG.keep HB31.out.2 (by omega) (fun b hs hl => ?_), hR0⟩
                have hne : (Value.slice (some ⟨w20.heap.size, 0, none⟩) 0 0).ownBlock ≠ some b := fun e => by
                  have q := hlt30 b e
                  rcases hs with hs | hs <;> omega
                refine ⟨⟨hs, fun e => ?_⟩, (hg32.block b (by simp; omega) (fun e => hne e.symm)).trans ((below_alloc w31 _).block b hl)⟩
                rcases hat32 with h | h
                · exact hne (by rw [← h, e]; rfl)
                · have h' : some g32 = some (w31.alloc (.cells #[.bool lfj, .slice kaj knj kcj, .slice caj cnj ccj] 67)).heap.size := h
                  injection h' with h'
                  simp at h'
                  omega
              have HLt32 : Hid (w20.heap.size ≤ g32 ∧ g32 < w32.heap.size) := ⟨hg321, hg322⟩
              clear ho32 hg32 hat32 hbW31 hlt30 hf32
              refine hK.out _ _ ?_ (fun hHeld2 => ?_)
              · (intro _; exact HKeep.out _ hbW32)
              clear hK K
              replace hHeld := hHeld2 (by decide)
              clear hHeld2
              try simp only [Act.put, List.setIfInBounds_toArray, List.set_cons_zero, List.set_cons_succ]
              refine late_one 13 (.succ (.succ (.succ (.succ (.succ (.succ (.succ (.succ (.succ (.succ (.succ (.succ (.succ .zero))))))))))))) (by kernel_rfl) (fun K hK => ?_)
              go_simp
              refine hK.out _ _ ?_ (fun hHeld2 => ?_)
              · (intro hne; exact absurd rfl hne)
              clear hK K hHeld2
              refine wpLate_done (by kernel_rfl) ?_ _
              clear hHeld hR
              obtain ⟨oo, hoo, hoo2⟩ := shZ_form 3 g 0 2 c3 n hcap3.1 b2
              have hsl2 : ∀ W : World, (Instr.sliceAt 65 (.slice (some ⟨g, 0, none⟩) n c3) (some (.int .i64 2)) none none).run Try.prog W = .ok (.slice (some ⟨g, oo, none⟩) (n - 2) (c3 - 2)) W := fun W => by
                have := fromK g 0 n c3 2 b2 hcap3.1 W
                rw [hoo] at this
                simpa using this
              have HY3 : Hid ((xs5.drop (2 * 3)).length = (n - 2) * 3 ∧ (∀ j u, (xs5.drop (2 * 3))[j]? = some u → w32.cell? ⟨g, oo + j, none⟩ = some u) ∧ KidL (fun t v => NG (fun b => ((S b ∧ b < w.heap.size) ∨ w.heap.size + 2 ≤ b) ∧ b ≠ g) w20 d t v) (l5.drop 2) (xs5.drop (2 * 3))) := by
                have hl3 : (xs5.drop (2 * 3)).length = (n - 2) * 3 := by rw [List.length_drop, HX5.out.1]; omega
                refine ⟨hl3, fun j u hj => ?_, KidL.drop 2 HX5.out.2.2⟩
                have hj2 := (List.getElem?_eq_some_iff.1 hj).1
                rw [hl3] at hj2
                rw [List.getElem?_drop] at hj
                rw [hoo2 (by omega), Nat.zero_add]
                exact (hbW32.cell (p := ⟨g, _, none⟩) hglW.2).trans (HX5.out.2.1 _ u hj)
              have hzW := hbW32.size
              clear hoo hoo2
              go_wp2_with (at_builtin; refine wpList_append_own_at _ rfl _ _ 65 rfl w20.heap.size 67 i0 _ 3 56 Try.underlying65 HI.out.1 HI.out.2.1 HI.out.2.2.1 HI.out.2.2.2 rfl (by decide) (.slice (some ⟨g32, 0, none⟩) 1 c32) 1 _ rfl H32.out.1 ⟨g, oo, none⟩ (n - 2) (c3 - 2) _ rfl HY3.out.1 (fun j u hj => by rw [addr_add]; exact HY3.out.2.1 j u hj) (HY3.out.2.2.cells NG.one) (by unfold maxLen; omega) (by omega) (by omega) ?_)
              intro v33 w33 ho33 hg33 _ hat33
              have e33 : 1 + (n - 2) = n - 1 := cut_len (i := 1) b2
              rw [e33] at ho33
              obtain ⟨a33, c33, e34, hf33⟩ := own_form ho33
              subst e34
              obtain ⟨g33, e34, hg331, hg332, _⟩ := hf33 (cut_ne b2)
              subst e34
              have HD33 : Hid (DS S w w33 w20.heap.size d g33 (n - 1) c33 (joinD y x :: l5.drop 2)) := by
                have hlt32 := own_lt H32.out.1
                have hbW33 : Below w20.heap.size w20 w33 := H32.out.2.1.grown hg33 hzW (fun g e => (hlt32 g e).1)
                have hs := HD20.out.sz
                have hg0 : (Value.slice (some ⟨g32, 0, none⟩) 1 c32).ownBlock = some g32 := rfl
                refine ⟨⟨_, ho33, ?_⟩, HD20.out.bel.trans (hbW33.mono HD20.out.bel.size), HD20.out.box.below hbW33, by omega⟩
                have hold : ∀ t v, NG (fun b => ((S b ∧ b < w.heap.size) ∨ w.heap.size + 2 ≤ b) ∧ b ≠ g) w20 d t v → NG (fun b => ((S b ∧ b < w.heap.size) ∨ w.heap.size + 2 ≤ b) ∧ b ≠ g33) w33 d t v := fun t v q => NG.keep q hbW33.size (fun b hs hl => ⟨⟨hs.1, by omega⟩, hbW33.block b hl⟩)
                have hnew : NG (fun b => ((S b ∧ b < w.heap.size) ∨ w.heap.size + 2 ≤ b) ∧ b ≠ g33) w33 d (joinD y x) (.agg #[.bool lfj, .slice kaj knj kcj, .slice caj cnj ccj]) := by
                  refine NG.keep H32.out.2.2.1 hg33.size (fun b hs' hl => ⟨⟨?_, fun e => ?_⟩, hg33.block b hl (fun e => hs'.2 (by rw [hg0] at e; injection e with e))⟩)
                  · rcases hs'.1 with q | q
                    · exact q.1.1
                    · exact Or.inr (by have := H32.out.2.2.2; omega)
                  · rcases hat33 with h | h
                    · have h' : some g33 = some g32 := h
                      injection h' with h'
                      exact hs'.2 (by omega)
                    · have h' : some g33 = some w32.heap.size := h
                      injection h' with h'
                      omega
                exact KidL.cat (HY3.out.2.2.mono hold) (ts := [joinD y x]) (xs := [.bool lfj, .slice kaj knj kcj, .slice caj cnj ccj]) ⟨hnew, trivial⟩
              clear ho33 hg33 hat33 hf33 H32 HY3 hsl2
              have r0 := HD33.out.box.cell 0
              have r1 := HD33.out.box.cell 1
              have r2 := HD33.out.box.cell 2
              simp at r0 r1 r2
              have hf := fun i => HD33.out.box.frozen i
              have hbl := HD33.out.box.lt
              go_wp2
              refine bodyPost_ret (v := .agg #[.bool false, .slice none 0 0, .slice (some ⟨g33, 0, none⟩) (n - 1) c33]) (by simp [results, Try.results51, go_sem, r0, r1, r2]) rfl ⟨_, HFin.out _ ?_, HD33.out.ret (Nat.sub_pos_of_lt b2)⟩
              have em : max i 1 = 1 := by rw [hien]; rfl
              rw [fixD_join (u := y) (v := x) HL5.out.2.1 HNy.out HNL.out HNR.out (by rw [em]; exact hY0) (by rw [em]; exact hX1), em]
              rfl
          · have hi1d : decide ((i : Int) + 1 < (n : Int)) = false := decide_eq_false (by omega)
            have hi1i : ¬ (i : Int) + 1 < (n : Int) := by omega
            have HNR : Hid (¬ 2 < sizO l5[i + 1]?) := fun q => by
              rw [List.getElem?_eq_none (by omega)] at q
              exact absurd q (by simp [sizO])
            exact absurd b2 (by omega)
end Go.Proofs.Ytakemeccigpbaaa

namespace Go.Proofs.Ytakemeccigpbaaa
open Go.RowKit Go.Deep
set_option linter.unusedVariables false
set_option maxRecDepth 100000

/-- The row tells what is left of a tree, its root taken away where it has but one child. -/
def DelT (m : Nat) (M : Nat → Tn) (r : Ro 21) : Prop :=
  (∃ y : Ro 20, r = .inr [y] ∧ m = nodesR 20 y ∧ Tells M 0 20 y 0) ∨ ((∀ y : Ro 20, r ≠ .inr [y]) ∧ m = nodesR 21 r ∧ Tells M 0 21 r 0)
def DelTo (n : Nat) (N : Nat → Tn) (key : ByteArray) (m : Nat) (M : Nat → Tn) : Prop :=
  ∃ t r, VTt n N t ∧ key ∈ keysR 21 t ∧ DelR key 21 t r ∧ m ≤ 5000 ∧ DelT m M r
def DelNo (n : Nat) (N : Nat → Tn) (key : ByteArray) : Prop := ∀ t, VTt n N t → key ∉ keysR 21 t
/-- What TreeDelete hands back. -/
def RetDl (w : World) (n : Nat) (N : Nat → Tn) (key : ByteArray) (e : Ending) (w' : World) : Prop :=
  Below w.heap.size w w' ∧ ∃ ok a m c M, e = .returned (.agg #[.bool ok, .slice a m c]) ∧ RdTn w' a m M ∧ ((ok = true ∧ DelTo n N key m M) ∨ (ok = false ∧ m = n ∧ M = N ∧ DelNo n N key))

set_option maxHeartbeats 8000000 in
theorem specDel (a : Option Addr) (n c : Nat) (N : Nat → Tn) (key : ByteArray) (w : World) (h : RdTnC capC w a n N) (hn : n ≤ 1048576) (hN : ∀ i, i < n → TnFit (N i)) (hkey : key.size ≤ maxLen) :
    Calls Try.prog 33 #[.agg #[.slice a n c], .string key] w (RetDl w n N key) := by
  have HR : Hid (RdTn w a n N ∧ ∀ i, i < n → TnFit (N i)) := ⟨h.rd, hN⟩
  have HOf : Hid (∀ W, Below w.heap.size w W → Calls Try.prog 39 #[.agg #[.slice a n c]] W (RetOfC capC W n N)) := fun W hW => of_anyC capC a n c N W (h.below hW) hn hN
  clear h hN
  have HB0 : Hid (∀ O1 O2 : Obj, Below w.heap.size w ((w.alloc O1).alloc O2)) := fun _ _ => (below_alloc _ _).alloc (by simp) _
  go_enter Try.func33, Try.ntmps33
  go_wp2_with fail
  (with_reducible refine (HOf.out _ (HB0.out _ _)).mono ?_)
  rintro e w1 ⟨hb1, lf, ka, kn, kc, ca, cn, cc, ok, rfl, hr⟩
  have htb := ((Bx.new w #[.slice a n c] 25).alloc (.cells #[.bool false, .slice none 0 0] 30)).below hb1
  have hrb : Bx w1 (w.heap.size + 1) 30 #[.bool false, .slice none 0 0] := by
    have q := (Bx.new (w.alloc (.cells #[.slice a n c] 25)) #[.bool false, .slice none 0 0] 30).below hb1
    simpa using q
  have HB1 : Hid (Below w.heap.size w w1) := (HB0.out _ _).trans (hb1.mono (by simp; omega))
  have BT1 : Hid (∀ W, Below w1.heap.size w1 W → Below w.heap.size w W ∧ W.cell? ⟨w.heap.size, 0, none⟩ = some (.slice a n c) ∧ w.heap.size < W.heap.size ∧ Bx W (w.heap.size + 1) 30 #[.bool false, .slice none 0 0]) := fun W hW => ⟨HB1.out.trans (hW.mono HB1.out.size), by simpa using (htb.below hW).cell 0, (htb.below hW).lt, hrb.below hW⟩
  have HRR : Hid ((ok = false ∧ ¬ VT n N) ∨ (ok = true ∧ ∃ t, VTt n N t ∧ NAC capC w1 21 t (.agg #[.bool lf, .slice ka kn kc, .slice ca cn cc]))) := by
    rcases hr with ⟨h1, h2, _⟩ | h
    · exact .inl ⟨h1, h2⟩
    · exact .inr h
  clear hr hb1 htb hrb HOf
  have BX1 : Hid (Below w1.heap.size w1 (w1.alloc (.cells #[.bool lf, .slice ka kn kc, .slice ca cn cc] 67)) ∧ Bx (w1.alloc (.cells #[.bool lf, .slice ka kn kc, .slice ca cn cc] 67)) w1.heap.size 67 #[.bool lf, .slice ka kn kc, .slice ca cn cc]) := ⟨below_alloc _ _, Bx.new _ _ _⟩
  cases ok with
  | false =>
    have HNo : Hid (DelNo n N key) := by
      intro t hv
      rcases HRR.out with ⟨_, q⟩ | ⟨q, _⟩
      · exact absurd ⟨t, hv⟩ q
      · cases q
    clear HRR
    go_upto_region 3 with fail
    generalize (w1.alloc (.cells #[.bool lf, .slice ka kn kc, .slice ca cn cc] 67)) = W at BX1 ⊢
    have HBQ : Hid (Below w.heap.size w W) := (BT1.out W BX1.out.1).1
    have HBT : Hid (W.cell? ⟨w.heap.size, 0, none⟩ = some (.slice a n c) ∧ w.heap.size < W.heap.size ∧ Bx W (w.heap.size + 1) 30 #[.bool false, .slice none 0 0]) := (BT1.out W BX1.out.1).2
    have HCp : Hid (Calls Try.prog 47 #[.agg #[.slice a n c]] W (RetNs W n N)) := copyS_any a n c N W (HR.out.1.below HBQ.out) hn HR.out.2
    have t0 := HBT.out.1
    have tz := HBT.out.2.1
    go_wp2_with fail
    (with_reducible refine HCp.out.mono ?_)
    rintro e wz ⟨hbz, az, cz, rfl, hrz⟩
    have HZb : Hid (Below w.heap.size w wz ∧ Bx wz (w.heap.size + 1) 30 #[.bool false, .slice none 0 0] ∧ RowN (w.heap.size + 2) wz az n N) := by
      have q : Below w.heap.size w W := HBQ.out
      have q2 := HBT.out.2.2
      exact ⟨q.trans (hbz.mono q.size), q2.below hbz, hrz.keep (by have := q2.lt; have := q.size; omega) (Nat.le_refl _) (fun _ _ _ => rfl)⟩
    have r0 := HZb.out.2.1.cell 0
    have r1 := HZb.out.2.1.cell 1
    simp at r0 r1
    have rz := HZb.out.2.1.lt
    have rf := fun i => HZb.out.2.1.frozen i
    clear hbz hrz t0 tz
    go_wp2
    refine bodyPost_ret (v := .agg #[.bool false, .slice az n cz]) (by simp [results, Try.results33, go_sem, r0, r1]) rfl ⟨(HZb.out.1.setCell (by simp) _).setCell (by simp) _, false, az, n, cz, N, rfl, ?_, .inr ⟨rfl, rfl, rfl, HNo.out⟩⟩
    exact (HZb.out.2.2.keep (Nat.le_refl _) (by simp [World.setCell]) (fun b hb _ => by rw [Below.heap_setCell _ _ _ _ (show b ≠ w.heap.size + 1 by omega), Below.heap_setCell _ _ _ _ (show b ≠ w.heap.size + 1 by omega)])).rd
  | true =>
    obtain ⟨t, hvt, hna⟩ : ∃ t, VTt n N t ∧ NAC capC w1 21 t (.agg #[.bool lf, .slice ka kn kc, .slice ca cn cc]) := by
      rcases HRR.out with ⟨q, _⟩ | ⟨_, q⟩
      · cases q
      · exact q
    have HVT : Hid (VTt n N t) := hvt
    have HNG : Hid (NG (fun b => b < w1.heap.size) w1 21 t (.agg #[.bool lf, .slice ka kn kc, .slice ca cn cc])) := hna.ng
    obtain ⟨h1, h2, h3, ⟨hh, h4⟩, h5, h6⟩ := hvt
    have hend := nestR_end h3
    have hfl := fit_len (bal_fit h4)
    have HF : Hid (nodesR 21 t ≤ 5000 ∧ (keysR 21 t).length ≤ 20000 ∧ BalR 21 true t hh ∧ Asc (keysR 21 t)) := ⟨by omega, by omega, h4, asc_of_ascK h5⟩
    clear HRR hna h1 h2 h3 h4 h5 h6 hend hfl
    have HKeys : Hid (∀ W, Below w1.heap.size w1 W → Calls Try.prog 43 #[.agg #[.bool lf, .slice ka kn kc, .slice ca cn cc]] W (RetStrs W (keysR 21 t))) := fun W hW => keys_any 21 t _ W (HNG.out.below hW).na HF.out.1 (by have := HF.out.2.1; omega)
    go_upto_region 2 with fail
    generalize (w1.alloc (.cells #[.bool lf, .slice ka kn kc, .slice ca cn cc] 67)) = W at BX1 ⊢
    have x0 := BX1.out.2.cell 0
    have x1 := BX1.out.2.cell 1
    have x2 := BX1.out.2.cell 2
    simp at x0 x1 x2
    have xz := BX1.out.2.lt
    go_wp2_with fail
    (with_reducible refine (HKeys.out W BX1.out.1).mono ?_)
    rintro e w3 ⟨a3, c3, rfl, ho3, hb3, _, _⟩
    have HB3 : Hid (Below w1.heap.size w1 w3 ∧ Bx w3 w1.heap.size 67 #[.bool lf, .slice ka kn kc, .slice ca cn cc]) := ⟨BX1.out.1.trans (hb3.mono BX1.out.1.size), BX1.out.2.below hb3⟩
    have HHo : Hid (Calls Try.prog 46 #[.slice a3 (keysR 21 t).length c3, .string key] w3 fun e w' => ∃ b : Bool, e = .returned (.bool b) ∧ (b = true ↔ key ∈ keysR 21 t) ∧ Below w3.heap.size w3 w') := holds_any a3 (keysR 21 t).length c3 (keysR 21 t) key w3 ho3.rd rfl (by have := HF.out.2.1; omega)
    clear ho3 hb3 x0 x1 x2 xz BX1 HKeys
    go_wp2_with fail
    (with_reducible refine HHo.out.mono ?_)
    rintro e w4 ⟨bb, rfl, hbb, hb4⟩
    have HB4 : Hid (Below w1.heap.size w1 w4 ∧ Bx w4 w1.heap.size 67 #[.bool lf, .slice ka kn kc, .slice ca cn cc]) := ⟨HB3.out.1.trans (hb4.mono HB3.out.1.size), HB3.out.2.below hb4⟩
    have HBB : Hid (bb = true ↔ key ∈ keysR 21 t) := hbb
    clear hb4 hbb HHo HB3
    cases bb with
    | false =>
      have HNo : Hid (DelNo n N key) := fun t' hv q => by
        have q2 : false = true := HBB.out.2 (by rw [← hv.fn HVT.out]; exact q)
        cases q2
      clear HVT HNG HF
      have HBQ : Hid (Below w.heap.size w w4) := (BT1.out w4 HB4.out.1).1
      have HBT : Hid (w4.cell? ⟨w.heap.size, 0, none⟩ = some (.slice a n c) ∧ w.heap.size < w4.heap.size ∧ Bx w4 (w.heap.size + 1) 30 #[.bool false, .slice none 0 0]) := (BT1.out w4 HB4.out.1).2
      have HCp : Hid (Calls Try.prog 47 #[.agg #[.slice a n c]] w4 (RetNs w4 n N)) := copyS_any a n c N w4 (HR.out.1.below HBQ.out) hn HR.out.2
      have t0 := HBT.out.1
      have tz := HBT.out.2.1
      go_wp2_with fail
      (with_reducible refine HCp.out.mono ?_)
      rintro e wz ⟨hbz, az, cz, rfl, hrz⟩
      have HZb : Hid (Below w.heap.size w wz ∧ Bx wz (w.heap.size + 1) 30 #[.bool false, .slice none 0 0] ∧ RowN (w.heap.size + 2) wz az n N) := by
        have q : Below w.heap.size w w4 := HBQ.out
        have q2 := HBT.out.2.2
        exact ⟨q.trans (hbz.mono q.size), q2.below hbz, hrz.keep (by have := q2.lt; have := q.size; omega) (Nat.le_refl _) (fun _ _ _ => rfl)⟩
      have r0 := HZb.out.2.1.cell 0
      have r1 := HZb.out.2.1.cell 1
      simp at r0 r1
      have rz := HZb.out.2.1.lt
      have rf := fun i => HZb.out.2.1.frozen i
      clear hbz hrz t0 tz
      go_wp2
      refine bodyPost_ret (v := .agg #[.bool false, .slice az n cz]) (by simp [results, Try.results33, go_sem, r0, r1]) rfl ⟨(HZb.out.1.setCell (by simp) _).setCell (by simp) _, false, az, n, cz, N, rfl, ?_, .inr ⟨rfl, rfl, rfl, HNo.out⟩⟩
      exact (HZb.out.2.2.keep (Nat.le_refl _) (by simp [World.setCell]) (fun b hb _ => by rw [Below.heap_setCell _ _ _ _ (show b ≠ w.heap.size + 1 by omega), Below.heap_setCell _ _ _ _ (show b ≠ w.heap.size + 1 by omega)])).rd
    | true =>
      have HIn : Hid (key ∈ keysR 21 t) := HBB.out.1 rfl
      have HDl : Hid (Calls Try.prog 51 #[.agg #[.bool lf, .slice ka kn kc, .slice ca cn cc], .string key] w4 (fun e w' => ∃ r, DelR key 21 t r ∧ RetG3 (fun b => b < w1.heap.size) w4 21 r e w')) := del_any key 21 t _ true hh _ w4 (HNG.out.below HB4.out.1) HF.out.2.2.1 HF.out.2.2.2 HF.out.1 (by have := HF.out.2.1; omega)
      have x0 := HB4.out.2.cell 0
      have x1 := HB4.out.2.cell 1
      have x2 := HB4.out.2.cell 2
      simp at x0 x1 x2
      have xz := HB4.out.2.lt
      clear HBB
      go_wp2_with fail
      (with_reducible refine HDl.out.mono ?_)
      rintro e w5 ⟨r, hdel, hb5, lfy, kay, kny, kcy, cay, cny, ccy, rfl, hgy⟩
      have HB5 : Hid (Below w1.heap.size w1 w5) := HB4.out.1.trans (hb5.mono HB4.out.1.size)
      have HDel : Hid (DelR key 21 t r) := hdel
      have HBU : Hid (BalU 21 r hh ∧ nodesR 21 r ≤ 5000) := ⟨(DelR.bal HF.out.2.2.1 HF.out.2.2.2 hdel).1, by have := DelR.nodes HF.out.2.2.1 HF.out.2.2.2 hdel; have := HF.out.1; omega⟩
      clear x0 x1 x2 xz HDl HB4 HF HNG hdel hb5
      rcases r with ks | l
      · have hgy0 := hgy
        obtain ⟨ka', kc', ca', cc', e, _⟩ := hgy
        injection e with e
        injection e with e
        injection e with e0 e
        injection e0 with e0
        subst e0
        clear e
        have HNa : Hid (NG _ w5 21 (.inl ks) (.agg #[.bool true, .slice kay kny kcy, .slice cay cny ccy])) := hgy0
        have HBa : Hid (BalR 21 true (.inl ks) hh) := ⟨HBU.out.1.1, HBU.out.1.2, Or.inl rfl⟩
        have HNd : Hid (nodesR 21 (.inl ks) ≤ 5000) := HBU.out.2
        clear hgy0
        obtain ⟨m, hm⟩ : ∃ m, m = nodesR 21 (.inl ks) := ⟨_, rfl⟩
        have HM : Hid (m = nodesR 21 (.inl ks)) := hm
        have hm6 : m ≤ 5000 := by rw [hm]; exact HNd.out
        have HFl : Hid (∀ W, Below w5.heap.size w5 W → Calls Try.prog 49 #[.agg #[.bool true, .slice kay kny kcy, .slice cay cny ccy], .int .i64 0] W (fun e w' => ∃ ra rc G, e = .returned (.slice ra m rc) ∧ Below w5.heap.size w5 w' ∧ RowN w5.heap.size w' ra m G ∧ Tells G 0 21 (.inl ks) 0)) := by
          intro W hW
          have hfy := fit_len (bal_fit HBa.out)
          have hnd := HNd.out
          refine (flat_any6 21 (.inl ks) _ true _ 0 W (HNa.out.below hW).na (by omega) (by omega) HBa.out (by omega) (by omega)).mono (fun e w' hr => ?_)
          obtain ⟨ra, rc, G, xs6, q1, q2, q3, q4, q5⟩ := hr
          rw [← hm] at q1 q3 q4
          exact ⟨ra, rc, G, q1, hW.trans (q2.mono hW.size), (FlAt.rowN q3 q4).keep hW.size (Nat.le_refl _) (fun _ _ _ => rfl), q5⟩
        clear hm
        go_wp2_with fail
        (with_reducible refine (HFl.out _ (below_alloc _ _)).mono ?_)
        rintro e w6 ⟨ra, rc, G, rfl, hb6, hrow6, htl6⟩
        have hz5 : w.heap.size + 2 ≤ w5.heap.size := by have := (BT1.out w5 HB5.out).2.2.2.lt; omega
        have HB6 : Hid (Below w1.heap.size w1 w6) := HB5.out.trans (hb6.mono HB5.out.size)
        have HRow : Hid (RowN (w.heap.size + 2) w6 ra m G ∧ Tells G 0 21 (.inl ks) 0) := ⟨hrow6.keep (by omega) (Nat.le_refl _) (fun _ _ _ => rfl), htl6⟩
        clear hb6 hrow6 htl6 HFl
        have HRB : Hid (Bx w6 (w.heap.size + 1) 30 #[.bool false, .slice none 0 0] ∧ Below w.heap.size w w6) := ⟨(BT1.out w6 HB6.out).2.2.2, (BT1.out w6 HB6.out).1⟩
        have r0 := HRB.out.1.cell 0
        have r1 := HRB.out.1.cell 1
        simp at r0 r1
        have rz := HRB.out.1.lt
        have rf := fun i => HRB.out.1.frozen i
        go_wp2
        refine bodyPost_ret (v := .agg #[.bool true, .slice ra m rc]) (by simp [results, Try.results33, go_sem, r0, r1]) rfl ⟨(HRB.out.2.setCell (by simp) _).setCell (by simp) _, true, ra, m, rc, G, rfl, ?_, .inl ⟨rfl, t, _, HVT.out, HIn.out, HDel.out, hm6, .inr ⟨fun y e => (by cases e), HM.out, HRow.out.2⟩⟩⟩
        exact (HRow.out.1.keep (Nat.le_refl _) (by simp [World.setCell]) (fun b hb _ => by rw [Below.heap_setCell _ _ _ _ (show b ≠ w.heap.size + 1 by omega), Below.heap_setCell _ _ _ _ (show b ≠ w.heap.size + 1 by omega)])).rd
      · have hgy0 := hgy
        obtain ⟨ka', kc', g, cc', xs, e, ⟨hs, hcap⟩, hgl, hl, hx, hk⟩ := hgy
        injection e with e
        injection e with e
        injection e with e0 e
        injection e with e1 e
        injection e with e2 e
        injection e0 with e0
        injection e1 with e10 e11 e12
        injection e2 with e20 e21 e22
        subst e0 e10 e11 e12 e20 e21 e22
        clear e
        obtain ⟨b1, b4, hh', rfl, hball⟩ := HBU.out.1
        by_cases h1 : l.length = 1
        · obtain ⟨y, ey⟩ : ∃ y, l = [y] := List.length_eq_one_iff.1 h1
          rw [h1] at hcap hl ⊢
          subst ey
          match xs, hk with
          | x0 :: x1 :: x2 :: [], hk =>
          obtain ⟨hy, _⟩ := hk
          have hy0 : NG _ w5 20 y (.agg #[x0, x1, x2]) := hy
          obtain ⟨lfz, kaz, knz, kcz, caz, cnz, ccz, ey⟩ := NestAt.form hy
          injection ey with ey
          injection ey with ey
          injection ey with e0 ey
          injection ey with e1 ey
          injection ey with e2 ey
          subst e0 e1 e2
          have z0 := hx 0 _ rfl
          have z1 := hx 1 _ rfl
          have z2 := hx 2 _ rfl
          have HNa : Hid (NG _ w5 20 y (.agg #[.bool lfz, .slice kaz knz kcz, .slice caz cnz ccz])) := hy0
          have HBa0 : Hid (BalR 20 false y hh') := hball y (by simp)
          have HBa : Hid (BalR 20 true y hh') := (BalU.of HBa0.out).full true HBa0.out.siz
          have HNd : Hid (nodesR 20 y ≤ 5000) := by
            have q := HBU.out.2
            have q2 : nodesR 21 (.inr [y]) = 1 + (nodesR 20 y + 0) := rfl
            show _ ≤ _
            omega
          clear hx hy hy0 ey hgy0 hball HBU
          obtain ⟨m, hm⟩ : ∃ m, m = nodesR 20 y := ⟨_, rfl⟩
          have HM : Hid (m = nodesR 20 y) := hm
          have hm6 : m ≤ 5000 := by rw [hm]; exact HNd.out
          have HFl : Hid (∀ W, Below w5.heap.size w5 W → Calls Try.prog 49 #[.agg #[.bool lfz, .slice kaz knz kcz, .slice caz cnz ccz], .int .i64 0] W (fun e w' => ∃ ra rc G, e = .returned (.slice ra m rc) ∧ Below w5.heap.size w5 w' ∧ RowN w5.heap.size w' ra m G ∧ Tells G 0 20 y 0)) := by
            intro W hW
            have hfy := fit_len (bal_fit HBa.out)
            have hnd := HNd.out
            refine (flat_any6 20 y _ true _ 0 W (HNa.out.below hW).na (by omega) (by omega) HBa.out (by omega) (by omega)).mono (fun e w' hr => ?_)
            obtain ⟨ra, rc, G, xs6, q1, q2, q3, q4, q5⟩ := hr
            rw [← hm] at q1 q3 q4
            exact ⟨ra, rc, G, q1, hW.trans (q2.mono hW.size), (FlAt.rowN q3 q4).keep hW.size (Nat.le_refl _) (fun _ _ _ => rfl), q5⟩
          clear hm
          go_wp2_with fail
          (with_reducible refine (HFl.out _ (below_alloc _ _)).mono ?_)
          rintro e w6 ⟨ra, rc, G, rfl, hb6, hrow6, htl6⟩
          have hz5 : w.heap.size + 2 ≤ w5.heap.size := by have := (BT1.out w5 HB5.out).2.2.2.lt; omega
          have HB6 : Hid (Below w1.heap.size w1 w6) := HB5.out.trans (hb6.mono HB5.out.size)
          have HRow : Hid (RowN (w.heap.size + 2) w6 ra m G ∧ Tells G 0 20 y 0) := ⟨hrow6.keep (by omega) (Nat.le_refl _) (fun _ _ _ => rfl), htl6⟩
          clear hb6 hrow6 htl6 HFl
          have HRB : Hid (Bx w6 (w.heap.size + 1) 30 #[.bool false, .slice none 0 0] ∧ Below w.heap.size w w6) := ⟨(BT1.out w6 HB6.out).2.2.2, (BT1.out w6 HB6.out).1⟩
          have r0 := HRB.out.1.cell 0
          have r1 := HRB.out.1.cell 1
          simp at r0 r1
          have rz := HRB.out.1.lt
          have rf := fun i => HRB.out.1.frozen i
          go_wp2
          refine bodyPost_ret (v := .agg #[.bool true, .slice ra m rc]) (by simp [results, Try.results33, go_sem, r0, r1]) rfl ⟨(HRB.out.2.setCell (by simp) _).setCell (by simp) _, true, ra, m, rc, G, rfl, ?_, .inl ⟨rfl, t, _, HVT.out, HIn.out, HDel.out, hm6, .inl ⟨y, rfl, HM.out, HRow.out.2⟩⟩⟩
          exact (HRow.out.1.keep (Nat.le_refl _) (by simp [World.setCell]) (fun b hb _ => by rw [Below.heap_setCell _ _ _ _ (show b ≠ w.heap.size + 1 by omega), Below.heap_setCell _ _ _ _ (show b ≠ w.heap.size + 1 by omega)])).rd
        · have hld : decide ((l.length : Int) = 1) = false := decide_eq_false (by omega)
          have hli : ¬ (l.length : Int) = 1 := by omega
          have HNa : Hid (NG _ w5 21 (.inr l) (.agg #[.bool false, .slice kay 0 kcy, .slice (some ⟨g, 0, none⟩) l.length ccy])) := hgy0
          have HBa : Hid (BalR 21 true (.inr l) (hh' + 1)) := HBU.out.1.full true (by show 2 ≤ l.length; omega)
          have HNd : Hid (nodesR 21 (.inr l) ≤ 5000) := HBU.out.2
          have HN1 : Hid (∀ y : Ro 20, (Sum.inr l : Ro 21) ≠ .inr [y]) := fun y e => by
            injection e with e
            rw [e] at h1
            exact h1 rfl
          clear hx hk hgy0 hball HBU
          obtain ⟨ln, hln⟩ : ∃ ln, ln = l.length := ⟨_, rfl⟩
          rw [← hln] at HNa hcap hl b1 b4 h1 hld hli ⊢
          clear hln
          obtain ⟨m, hm⟩ : ∃ m, m = nodesR 21 (.inr l) := ⟨_, rfl⟩
          have HM : Hid (m = nodesR 21 (.inr l)) := hm
          have hm6 : m ≤ 5000 := by rw [hm]; exact HNd.out
          have HFl : Hid (∀ W, Below w5.heap.size w5 W → Calls Try.prog 49 #[.agg #[.bool false, .slice kay 0 kcy, .slice (some ⟨g, 0, none⟩) ln ccy], .int .i64 0] W (fun e w' => ∃ ra rc G, e = .returned (.slice ra m rc) ∧ Below w5.heap.size w5 w' ∧ RowN w5.heap.size w' ra m G ∧ Tells G 0 21 (.inr l) 0)) := by
            intro W hW
            have hfy := fit_len (bal_fit HBa.out)
            have hnd := HNd.out
            refine (flat_any6 21 (.inr l) _ true _ 0 W (HNa.out.below hW).na (by omega) (by omega) HBa.out (by omega) (by omega)).mono (fun e w' hr => ?_)
            obtain ⟨ra, rc, G, xs6, q1, q2, q3, q4, q5⟩ := hr
            rw [← hm] at q1 q3 q4
            exact ⟨ra, rc, G, q1, hW.trans (q2.mono hW.size), (FlAt.rowN q3 q4).keep hW.size (Nat.le_refl _) (fun _ _ _ => rfl), q5⟩
          clear hm
          go_wp2_with fail
          (with_reducible refine (HFl.out _ (below_alloc _ _)).mono ?_)
          rintro e w6 ⟨ra, rc, G, rfl, hb6, hrow6, htl6⟩
          have hz5 : w.heap.size + 2 ≤ w5.heap.size := by have := (BT1.out w5 HB5.out).2.2.2.lt; omega
          have HB6 : Hid (Below w1.heap.size w1 w6) := HB5.out.trans (hb6.mono HB5.out.size)
          have HRow : Hid (RowN (w.heap.size + 2) w6 ra m G ∧ Tells G 0 21 (.inr l) 0) := ⟨hrow6.keep (by omega) (Nat.le_refl _) (fun _ _ _ => rfl), htl6⟩
          clear hb6 hrow6 htl6 HFl
          have HRB : Hid (Bx w6 (w.heap.size + 1) 30 #[.bool false, .slice none 0 0] ∧ Below w.heap.size w w6) := ⟨(BT1.out w6 HB6.out).2.2.2, (BT1.out w6 HB6.out).1⟩
          have r0 := HRB.out.1.cell 0
          have r1 := HRB.out.1.cell 1
          simp at r0 r1
          have rz := HRB.out.1.lt
          have rf := fun i => HRB.out.1.frozen i
          go_wp2
          refine bodyPost_ret (v := .agg #[.bool true, .slice ra m rc]) (by simp [results, Try.results33, go_sem, r0, r1]) rfl ⟨(HRB.out.2.setCell (by simp) _).setCell (by simp) _, true, ra, m, rc, G, rfl, ?_, .inl ⟨rfl, t, _, HVT.out, HIn.out, HDel.out, hm6, .inr ⟨HN1.out, HM.out, HRow.out.2⟩⟩⟩
          exact (HRow.out.1.keep (Nat.le_refl _) (by simp [World.setCell]) (fun b hb _ => by rw [Below.heap_setCell _ _ _ _ (show b ≠ w.heap.size + 1 by omega), Below.heap_setCell _ _ _ _ (show b ≠ w.heap.size + 1 by omega)])).rd
end Go.Proofs.Ytakemeccigpbaaa
