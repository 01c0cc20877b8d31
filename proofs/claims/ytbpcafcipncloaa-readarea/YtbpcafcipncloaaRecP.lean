import Derived.Test.YtbpcafcipncloaaRecI
import Derived.Test.YtbpcafcipncloaaSecS
import Derived.Test.YtbpcafcipncloaaLateS
namespace Go.Proofs.Ytbpcafcipncloaa
open Go.RowKit Go.Deep
set_option linter.unusedVariables false
set_option maxRecDepth 100000

/-- The least bytes that piece i of k has. -/
def leastV (i k : Int) : Int := if i < k - 1 then 48 else if 1 < k then 1 else 0
theorem leastV_range (i k : Int) : 0 ≤ leastV i k ∧ leastV i k ≤ 48 := by unfold leastV; split <;> (try split) <;> omega

set_option maxHeartbeats 400000 in
theorem leastPiece_any (i k : Int) (w : World) (h0 : -65536 ≤ k) (h1 : k ≤ 65536) : Calls Try.prog 84 #[.int .i64 i, .int .i64 k] w fun e w' => e = .returned (.int .i64 (leastV i k)) ∧ w' = w := by
  by_cases c1 : i < k - 1
  · have HE : Hid (leastV i k = 48) := if_pos c1
    go_enter Try.func84, Try.ntmps84
    go_wp2
    go_ret
    exact ⟨by rw [HE.out]; rfl, rfl⟩
  · by_cases c2 : 1 < k
    · have HE : Hid (leastV i k = 1) := (if_neg c1).trans (if_pos c2)
      go_enter Try.func84, Try.ntmps84
      go_wp2
      go_ret
      exact ⟨by rw [HE.out]; rfl, rfl⟩
    · have HE : Hid (leastV i k = 0) := (if_neg c1).trans (if_neg c2)
      go_enter Try.func84, Try.ntmps84
      go_wp2
      go_ret
      exact ⟨by rw [HE.out]; rfl, rfl⟩

/-- Whether a sector is piece i of k. -/
def pieceB (f : Nat → Int) (seq i k : Int) : Bool := decide (leastV i k ≤ getN f 8 2) && decide (getN f 8 2 ≤ 48) && sameB f (recF seq i k (getN f 8 2).toNat (fun j => f (12 + j)))
/-- What readPiece answers. -/
def PieceRet (w : World) (e : Ending) (w' : World) (f : Nat → Int) (seq i k : Int) : Prop := Below w.heap.size w w' ∧
  ((pieceB f seq i k = true ∧ e = .returned (.tuple #[.slice (some ⟨w.heap.size, 12, none⟩) (getN f 8 2).toNat 52, .bool true]) ∧ Sec w' w.heap.size f) ∨ (pieceB f seq i k = false ∧ e = .returned (.tuple #[.slice none 0 0, .bool false])))

/-- A call of recSector, as a step of a region that draws its order. -/
theorem step_recSector {ops : Array Oper} {o : Oper} {a : Act} {w : World} {K : Act → World → Prop} {Q : Exit → Act → World → Prop} {E : Prop} {ts : Array TypeId} (hgd : o.guard = none) (x y z u : Nat)
    (ho : o.op = .call { callee := .value (.func 85), args := #[.tmp x, .tmp y, .tmp z, .tmp u], argTypes := ts }) (v1 v2 v3 v4 : Value) (h1 : a.tmps[x]?.getD undef = v1) (h2 : a.tmps[y]?.getD undef = v2) (h3 : a.tmps[z]?.getD undef = v3) (h4 : a.tmps[u]?.getD undef = v4)
    (h : Calls Try.prog 85 #[v1, v2, v3, v4] w fun e w' => ∃ r, e = .returned r ∧ K (a.put o.dst r) w') :
    if Region.wanted o (yielded ops a.tmps) = true then Oper.wp Try.prog o a w K Q else E := by
  have hw : Region.wanted o (yielded ops a.tmps) = true := by simp [Region.wanted, hgd]
  rw [if_pos hw]
  unfold Oper.wp
  simp [execOp, ho, resolve, invoke, h1, h2, h3, h4, go_sem]
  refine h.mono ?_
  rintro e w' ⟨r, rfl, hk⟩
  exact hk

set_option maxHeartbeats 1000000 in
theorem readPiece_any (f : Nat → Int) (seq i k : Int) (w : World) (hr : ∀ j, j < 64 → 0 ≤ f j ∧ f j < 256) (h0 : -65536 ≤ k) (h1 : k ≤ 65536) :
    Calls Try.prog 73 #[.agg (secA f), .int .i64 seq, .int .i64 i, .int .i64 k] w fun e w' => PieceRet w e w' f seq i k := by
  have HR : Hid (∀ j, j < 64 → 0 ≤ f j ∧ f j < 256) := hr
  have hsz := getN_range f 8 2 (fun j hj => hr (8 + j) (by omega))
  obtain ⟨sz, hgn⟩ := Int.eq_ofNat_of_zero_le hsz.1
  have hsz2 : sz < 65536 := by have := hsz.2; rw [hgn] at this; simp at this; omega
  have HP : Hid (pieceB f seq i k = (decide (leastV i k ≤ (sz : Int)) && decide ((sz : Int) ≤ 48) && sameB f (recF seq i k sz (fun j => f (12 + j))))) := by
    show _ = _
    unfold pieceB
    rw [hgn]
    rfl
  have HT : Hid ((getN f 8 2).toNat = sz) := by show _ = _; rw [hgn]; rfl
  have HGN : Hid (getN f 8 2 = (sz : Int)) := hgn
  have hlr := leastV_range i k
  clear hr hsz hgn
  go_enter Try.func73, Try.ntmps73
  go_wp2_with fail
  obtain ⟨W, hW⟩ : ∃ W, W = w.alloc (.cells (secA f) 87) := ⟨_, rfl⟩
  rw [← hW]
  have BW : Hid (Below w.heap.size w W) := by rw [hW]; exact below_alloc _ _
  have S0 : Hid (Sec W w.heap.size f) := by rw [hW]; exact Sec.new w f
  clear hW
  refine (number_any w.heap.size 8 2 f W S0.out HR.out (by omega) (by omega) (by omega)).mono ?_
  rintro e w1 ⟨rfl, hw⟩
  subst hw
  rw [HGN.out]
  go_wp2_with fail
  refine (leastPiece_any i k w1 h0 h1).mono ?_
  rintro e w2 ⟨rfl, hw⟩
  subst hw
  obtain ⟨W, rfl⟩ : ∃ x, x = w2 := ⟨_, rfl⟩
  generalize hlv : leastV i k = lv at *
  by_cases c1 : (sz : Int) < lv
  · have HF : Hid (pieceB f seq i k = false) := by
      show _ = _
      rw [HP.out, decide_eq_false (by omega)]
      rfl
    go_wp2
    refine bodyPost_ret (v := .tuple #[.slice none 0 0, .bool false]) (by simp [results, Try.results73, go_sem]) rfl ⟨BW.out, Or.inr ⟨HF.out, rfl⟩⟩
  by_cases c2 : (sz : Int) ≤ 48
  · have c2' : ¬ (48 : Int) < (sz : Int) := by omega
    have HQ : Hid (pieceB f seq i k = sameB f (recF seq i k sz (fun j => f (12 + j)))) := by
      show _ = _
      rw [HP.out, decide_eq_true (by omega), decide_eq_true c2]
      rfl
    have i1 : (12 : Int) ≤ 12 + (sz : Int) := by omega
    have i2 : (12 : Int) + (sz : Int) ≤ 64 := by omega
    cases hsame : sameB f (recF seq i k sz (fun j => f (12 + j))) with
    | true =>
      have hEq : ∀ w, (Op.equalIn 10000 87 (.agg (secA f)) (.agg (secA (recF seq i k sz (fun j => f (12 + j)))))).run Try.prog w = .ok true w := fun w => by rw [secEq, hsame]
      rw [hsame] at HQ
      go_wp2
      refine wp_region_late (S := fun w' => Sec w' w.heap.size f) 6 (by kernel_rfl) ?_ (fun hHeld => ?_)
      · ((try dsimp only); (first | exact hs3 | exact S0.out))
      refine late_take 0 .zero (v := .agg (secA f)) (by kernel_rfl) (by kernel_rfl) (by kernel_rfl) (by kernel_rfl) (fun _ _ _ h => h) (by rfl) ?_ (by assumption) ?_
      · (intro w hSw; (try dsimp only at hSw); exact exec_load_sec rfl rfl hSw)
      simp only [Act.put, List.setIfInBounds_toArray, List.set_cons_zero, List.set_cons_succ]
      refine late_take 1 (.succ .zero) (v := ?_) (by kernel_rfl) (by kernel_rfl) (by kernel_rfl) (by kernel_rfl) (fun _ _ _ h => h) (by rfl) ?_ (by assumption) ?_
      rotate_left
      · (intro w hSw; (try dsimp only at hSw); go_simp) <;> with_reducible rfl
      simp only [Act.put, List.setIfInBounds_toArray, List.set_cons_zero, List.set_cons_succ]
      refine late_take 2 (.succ (.succ .zero)) (v := ?_) (by kernel_rfl) (by kernel_rfl) (by kernel_rfl) (by kernel_rfl) (fun _ _ _ h => h) (by rfl) ?_ (by assumption) ?_
      rotate_left
      · (intro w hSw; (try dsimp only at hSw); go_simp) <;> with_reducible rfl
      simp only [Act.put, List.setIfInBounds_toArray, List.set_cons_zero, List.set_cons_succ]
      refine late_take 3 (.succ (.succ (.succ .zero))) (v := ?_) (by kernel_rfl) (by kernel_rfl) (by kernel_rfl) (by kernel_rfl) (fun _ _ _ h => h) (by rfl) ?_ (by assumption) ?_
      rotate_left
      · (intro w hSw; (try dsimp only at hSw); go_simp) <;> with_reducible rfl
      simp only [Act.put, List.setIfInBounds_toArray, List.set_cons_zero, List.set_cons_succ]
      refine late_take 4 (.succ (.succ (.succ (.succ .zero)))) (v := ?_) (by kernel_rfl) (by kernel_rfl) (by kernel_rfl) (by kernel_rfl) (fun _ _ _ h => h) (by rfl) ?_ (by assumption) ?_
      rotate_left
      · (intro w hSw; (try dsimp only at hSw); go_simp) <;> with_reducible rfl
      simp only [Act.put, List.setIfInBounds_toArray, List.set_cons_zero, List.set_cons_succ]
      refine late_one 5 (.succ (.succ (.succ (.succ (.succ .zero))))) (by kernel_rfl) (fun K hK => ?_)
      (refine step_recSector (by rfl) 26 27 28 29 (by rfl) (.int .i64 seq) (.int .i64 i) (.int .i64 k) (.slice (some ⟨w.heap.size, 12, none⟩) sz 52) (by rfl) (by rfl) (by rfl) (by rfl) ?_; refine (recSector_any seq i k (some ⟨w.heap.size, 12, none⟩) sz 52 (fun j => f (12 + j)) W.drew (S0.out.rd 12 sz (by omega)) (fun j hj => HR.out (12 + j) (by omega)) (by omega)).mono ?_; rintro e w3 ⟨rfl, hb3⟩; refine ⟨_, rfl, ?_⟩; have hb3' : Below W.heap.size W w3 := (Below.refl _ _).drew.trans hb3; have hs3 : Sec w3 w.heap.size f := S0.out.below hb3'; have HB3 : Hid (Below w.heap.size w w3) := BW.out.trans (hb3'.mono BW.out.size))
      refine hK.out _ _ ?_ (fun hHeld2 => ?_)
      · (intro _; (try dsimp only); (first | exact hs3 | exact S0.out))
      clear hK K
      replace hHeld := hHeld2 (by decide)
      clear hHeld2
      try simp only [Act.put, List.setIfInBounds_toArray, List.set_cons_zero, List.set_cons_succ]
      refine late_one 6 (.succ (.succ (.succ (.succ (.succ (.succ .zero)))))) (by kernel_rfl) (fun K hK => ?_)
      go_simp
      refine hK.out _ _ ?_ (fun hHeld2 => ?_)
      · (intro hne; exact absurd rfl hne)
      clear hK K hHeld2
      refine wpLate_done (by kernel_rfl) ?_ _
      obtain ⟨w4, rfl⟩ : ∃ x, x = w3 := ⟨_, rfl⟩
      have HS3 : Hid (Sec w4 w.heap.size f) := hs3
      clear hs3 hb3 hb3'
      go_wp2
      refine bodyPost_ret (v := .tuple #[.slice (some ⟨w.heap.size, 12, none⟩) sz 52, .bool true]) (by simp [results, Try.results73, go_sem]) rfl ⟨HB3.out, Or.inl ⟨HQ.out, by rw [HT.out], HS3.out⟩⟩
    | false =>
      have hEq : ∀ w, (Op.equalIn 10000 87 (.agg (secA f)) (.agg (secA (recF seq i k sz (fun j => f (12 + j)))))).run Try.prog w = .ok false w := fun w => by rw [secEq, hsame]
      rw [hsame] at HQ
      go_wp2
      refine wp_region_late (S := fun w' => Sec w' w.heap.size f) 6 (by kernel_rfl) ?_ (fun hHeld => ?_)
      · ((try dsimp only); (first | exact hs3 | exact S0.out))
      refine late_take 0 .zero (v := .agg (secA f)) (by kernel_rfl) (by kernel_rfl) (by kernel_rfl) (by kernel_rfl) (fun _ _ _ h => h) (by rfl) ?_ (by assumption) ?_
      · (intro w hSw; (try dsimp only at hSw); exact exec_load_sec rfl rfl hSw)
      simp only [Act.put, List.setIfInBounds_toArray, List.set_cons_zero, List.set_cons_succ]
      refine late_take 1 (.succ .zero) (v := ?_) (by kernel_rfl) (by kernel_rfl) (by kernel_rfl) (by kernel_rfl) (fun _ _ _ h => h) (by rfl) ?_ (by assumption) ?_
      rotate_left
      · (intro w hSw; (try dsimp only at hSw); go_simp) <;> with_reducible rfl
      simp only [Act.put, List.setIfInBounds_toArray, List.set_cons_zero, List.set_cons_succ]
      refine late_take 2 (.succ (.succ .zero)) (v := ?_) (by kernel_rfl) (by kernel_rfl) (by kernel_rfl) (by kernel_rfl) (fun _ _ _ h => h) (by rfl) ?_ (by assumption) ?_
      rotate_left
      · (intro w hSw; (try dsimp only at hSw); go_simp) <;> with_reducible rfl
      simp only [Act.put, List.setIfInBounds_toArray, List.set_cons_zero, List.set_cons_succ]
      refine late_take 3 (.succ (.succ (.succ .zero))) (v := ?_) (by kernel_rfl) (by kernel_rfl) (by kernel_rfl) (by kernel_rfl) (fun _ _ _ h => h) (by rfl) ?_ (by assumption) ?_
      rotate_left
      · (intro w hSw; (try dsimp only at hSw); go_simp) <;> with_reducible rfl
      simp only [Act.put, List.setIfInBounds_toArray, List.set_cons_zero, List.set_cons_succ]
      refine late_take 4 (.succ (.succ (.succ (.succ .zero)))) (v := ?_) (by kernel_rfl) (by kernel_rfl) (by kernel_rfl) (by kernel_rfl) (fun _ _ _ h => h) (by rfl) ?_ (by assumption) ?_
      rotate_left
      · (intro w hSw; (try dsimp only at hSw); go_simp) <;> with_reducible rfl
      simp only [Act.put, List.setIfInBounds_toArray, List.set_cons_zero, List.set_cons_succ]
      refine late_one 5 (.succ (.succ (.succ (.succ (.succ .zero))))) (by kernel_rfl) (fun K hK => ?_)
      (refine step_recSector (by rfl) 26 27 28 29 (by rfl) (.int .i64 seq) (.int .i64 i) (.int .i64 k) (.slice (some ⟨w.heap.size, 12, none⟩) sz 52) (by rfl) (by rfl) (by rfl) (by rfl) ?_; refine (recSector_any seq i k (some ⟨w.heap.size, 12, none⟩) sz 52 (fun j => f (12 + j)) W.drew (S0.out.rd 12 sz (by omega)) (fun j hj => HR.out (12 + j) (by omega)) (by omega)).mono ?_; rintro e w3 ⟨rfl, hb3⟩; refine ⟨_, rfl, ?_⟩; have hb3' : Below W.heap.size W w3 := (Below.refl _ _).drew.trans hb3; have hs3 : Sec w3 w.heap.size f := S0.out.below hb3'; have HB3 : Hid (Below w.heap.size w w3) := BW.out.trans (hb3'.mono BW.out.size))
      refine hK.out _ _ ?_ (fun hHeld2 => ?_)
      · (intro _; (try dsimp only); (first | exact hs3 | exact S0.out))
      clear hK K
      replace hHeld := hHeld2 (by decide)
      clear hHeld2
      try simp only [Act.put, List.setIfInBounds_toArray, List.set_cons_zero, List.set_cons_succ]
      refine late_one 6 (.succ (.succ (.succ (.succ (.succ (.succ .zero)))))) (by kernel_rfl) (fun K hK => ?_)
      go_simp
      refine hK.out _ _ ?_ (fun hHeld2 => ?_)
      · (intro hne; exact absurd rfl hne)
      clear hK K hHeld2
      refine wpLate_done (by kernel_rfl) ?_ _
      obtain ⟨w4, rfl⟩ : ∃ x, x = w3 := ⟨_, rfl⟩
      clear hs3 hb3 hb3'
      go_wp2
      refine bodyPost_ret (v := .tuple #[.slice none 0 0, .bool false]) (by simp [results, Try.results73, go_sem]) rfl ⟨HB3.out, Or.inr ⟨HQ.out, rfl⟩⟩
  · have c2' : (48 : Int) < (sz : Int) := by omega
    have HF : Hid (pieceB f seq i k = false) := by
      show _ = _
      rw [HP.out, decide_eq_true (by omega), decide_eq_false c2]
      rfl
    go_wp2
    refine bodyPost_ret (v := .tuple #[.slice none 0 0, .bool false]) (by simp [results, Try.results73, go_sem]) rfl ⟨BW.out, Or.inr ⟨HF.out, rfl⟩⟩
end Go.Proofs.Ytbpcafcipncloaa
