import Derived.Test.YtfecgececffdoaaTmSp
import Derived.Test.YtfecgececffdoaaTermT
namespace Go.Proofs.Ytfecgececffdoaa
open Go.RowKit Go.Deep Go.MapKept
set_option linter.unusedVariables false
set_option maxRecDepth 100000

theorem cutRow (I : Nat → Int) (X : Nat → ByteArray) (R : Nat → Int) {i n : Nat} (hi : i < n) :
    termRow I X R i ++ termRow (fun j => I (i + 1 + j)) (fun j => X (i + 1 + j)) (fun j => R (i + 1 + j)) (n - (i + 1)) = termRow (cutAt I i) (cutAt X i) (cutAt R i) (n - 1) := by
  have g : ∀ {T : Type} (f : Nat → T) (j : Nat), glue i f (fun j => f (i + 1 + j)) j = cutAt f i j := fun f j => by
    by_cases h : j < i
    · rw [glue_lt h, cutAt_lt h]
    · rw [glue_ge h, cutAt_ge h, show i + 1 + (j - i) = j + 1 by omega]
  rw [termRow_app, show i + (n - (i + 1)) = n - 1 by omega]
  exact termRow_congr (fun j _ => ⟨g _ _, g _ _, g _ _⟩)

set_option maxHeartbeats 8000000 in
theorem specRelease (next : Int) (a : Option Addr) (n c : Nat) (I : Nat → Int) (X : Nat → ByteArray) (R : Nat → Int) (x : Int) (w : World) (h : RdT w a n I X R) (hn : n ≤ 1048576) (hnc : n ≤ c) :
    Calls Try.prog 15 #[.agg #[.int .i64 next, .slice a n c], .int .i64 x] w (RetAns w (ReAns next n I X R x)) := by
  have HR : Hid (RdT w a n I X R) := h
  have HSZ : Hid (((w.alloc (.cells #[.int .i64 next, .slice a n c] 28)).alloc (.cells #[.bool false, .int .i64 0, .int .i64 0, .slice none 0 0] 30)).heap.size = w.heap.size + 2) := by show _ = _; simp
  have hc1 := l4Copy_any next a n c I X R ((w.alloc (.cells #[.int .i64 next, .slice a n c] 28)).alloc (.cells #[.bool false, .int .i64 0, .int .i64 0, .slice none 0 0] 30)) (h.below ((below_alloc _ _).trans ((below_alloc _ _).mono (by simp)))) hn
  clear h
  go_enter Try.func15, Try.ntmps15
  go_wp2_with fail
  refine hc1.mono ?_
  clear hc1
  rintro e w1 ⟨a1, c1, rfl, ho1, hb1, hccc1⟩
  rw [HSZ.out] at ho1 hb1
  have S1 : Hid (SpSt w (w1.alloc (.cells #[.int .i64 next, .slice a1 n c1] 28)) next a n c I X R w1.heap.size a1 c1) := by
    have hs := hb1.size
    rw [HSZ.out] at hs
    exact ⟨hb1.alloc hs _, blk_alloc_new _ _, hs, ho1.below (below_alloc _ _)⟩
  have hz1 := hb1.size
  rw [HSZ.out] at hz1
  clear hb1 ho1
  go_upto_region 2 with fail
  generalize w1.alloc (.cells #[.int .i64 next, .slice a1 n c1] 28) = W1 at S1 ⊢
  generalize w1.heap.size = bo at S1 hz1 ⊢
  obtain ⟨⟨y0, y1⟩, ⟨z0, z1, z2, z3, zf⟩, zz, hbel⟩ := rbox S1.out.low
  have B1 : Hid (Below w.heap.size w W1) := hbel
  clear hbel
  go_wp2_with fail
  refine (l4ById_any next a n c I X R x W1 (HR.out.below B1.out) hn).mono ?_
  rintro e w2 ⟨hat, hb2⟩
  clear y0 y1 z0 z1 z2 z3 zf zz
  have S2 : Hid (SpSt w w2 next a n c I X R bo a1 c1) := S1.out.keep hb2
  clear S1 B1 hb2
  obtain ⟨⟨y0, y1⟩, ⟨z0, z1, z2, z3, zf⟩, zz, hbel⟩ := rbox S2.out.low
  have B2 : Hid (Below w.heap.size w w2) := hbel
  clear hbel
  have HAT : Hid (∃ at' : Int, e = .returned (.int .i64 at') ∧ ((∃ i, i < n ∧ I i = x ∧ at' = (i : Int)) ∨ ((∀ i, i < n → I i ≠ x) ∧ at' = -1))) := by
    rcases hat with ⟨i, hi, hx, rfl⟩ | ⟨hno, rfl⟩
    · exact ⟨_, rfl, .inl ⟨i, hi, hx, rfl⟩⟩
    · exact ⟨_, rfl, .inr ⟨hno, rfl⟩⟩
  clear hat
  obtain ⟨at', rfl, hat0⟩ := HAT.out
  have HA : Hid ((∃ i, i < n ∧ I i = x ∧ at' = (i : Int)) ∨ ((∀ i, i < n → I i ≠ x) ∧ at' = -1)) := hat0
  clear HAT hat0
  go_wp2_with fail
  refine (specVD next a n c I X R w2 (HR.out.below B2.out) hn).mono ?_
  rintro e w3 ⟨bv, rfl, hbv, hb3⟩
  clear y0 y1 z0 z1 z2 z3 zf zz
  have S3 : Hid (SpSt w w3 next a n c I X R bo a1 c1) := S2.out.keep hb3
  have HBV : Hid (bv = true ↔ VDt next n I X R) := hbv
  clear hb3 hbv S2 B2
  obtain ⟨⟨y0, y1⟩, ⟨z0, z1, z2, z3, zf⟩, zz, hbel⟩ := rbox S3.out.low
  obtain ⟨u0, u1, uf, ul⟩ := S3.out.cells
  have B3 : Hid (Below w.heap.size w w3) := hbel
  clear hbel
  by_cases hv : VDt next n I X R
  case neg =>
    obtain rfl : bv = false := by
      cases bv with
      | false => rfl
      | true => exact absurd (HBV.out.1 rfl) hv
    go_wp2
    refine bodyPost_ret (v := .agg #[.bool false, .int .i64 0, .int .i64 next, .slice a1 n c1]) (by simp [results, Try.results15, go_sem, z0, z1, z2, z3]) rfl ⟨false, 0, next, n, I, X, R, .inl ⟨.inl hv, rfl, rfl, rfl, rfl, rfl, rfl, rfl⟩, a1, c1, rfl, ?_⟩
    exact ret_set S3.out.row B3.out (by assumption) _ _ _ _
  case pos =>
  obtain rfl : bv = true := HBV.out.2 hv
  have HV : Hid (VDt next n I X R) := hv
  have hn12 := hv.2.1
  clear hv HBV
  rcases HA.out with ⟨i, hi, hix, rfl⟩ | ⟨hno, rfl⟩
  case inr =>
    have HNO : Hid (∀ i, i < n → I i ≠ x) := hno
    clear hno HA
    go_wp2
    refine bodyPost_ret (v := .agg #[.bool false, .int .i64 0, .int .i64 next, .slice a1 n c1]) (by simp [results, Try.results15, go_sem, z0, z1, z2, z3]) rfl ⟨false, 0, next, n, I, X, R, .inl ⟨.inr HNO.out, rfl, rfl, rfl, rfl, rfl, rfl, rfl⟩, a1, c1, rfl, ?_⟩
    exact ret_set S3.out.row B3.out (by assumption) _ _ _ _
  case inl =>
    have HX : Hid (I i = x) := hix
    have hi0 : ¬ (i : Int) < 0 := by omega
    have hi1 : (0 : Int) ≤ (i : Int) := by omega
    clear hix HA
    have hri := (HV.out.2.2 i hi).1.2.2.1
    have hrow := S3.out.row
    have hr0 := hrow
    rcases hrow with h0 | ⟨g1, rfl, hg1, hr1⟩
    · omega
    have r2 : w3.cell? ⟨g1, i * 3 + 2, none⟩ = some (.int .i64 (R i)) := by have := hr1.cell (i := i * 3 + 2) (by omega); rwa [termCell_2] at this
    have rf := hr1.frozen
    have rl := hr1.lt
    have hbg : bo ≠ g1 := fun e => by
      have q := S3.out.out
      obtain ⟨cur, hq, _⟩ := hr1
      rw [e, hq] at q
      injection q with q
      injection q with _ q2 _
      revert q2
      decide
    have S5 : Hid (SpSt w (w3.setCell ⟨g1, i * 3 + 2, none⟩ (.int .i64 (R i - 1))).drew next a n c I X (upd R i (R i - 1)) bo (some ⟨g1, 0, none⟩) c1) := by
      have q : Below (w.heap.size + 2) _ (w3.setCell ⟨g1, i * 3 + 2, none⟩ (.int .i64 (R i - 1))) := S3.out.low.setCell hg1 _
      exact ⟨q.drew, (Below.heap_setCell _ _ _ _ hbg).trans S3.out.out, S3.out.ge, hr0.setRef (by omega) hi _⟩
    clear hr0 hr1
    go_upto_region 5 with fail
    go_region
    generalize (w3.setCell ⟨g1, i * 3 + 2, none⟩ (.int .i64 (R i - 1))).drew = W5 at S5 ⊢
    have B5 : Hid (Below w.heap.size w W5) := (rbox S5.out.low).2.2.2
    clear y0 y1 z0 z1 z2 z3 zf zz u0 u1 uf ul r2 rf rl S3 B3
    obtain ⟨⟨y0, y1⟩, ⟨z0, z1, z2, z3, zf⟩, zz, -⟩ := rbox S5.out.low
    obtain ⟨u0, u1, uf, ul⟩ := S5.out.cells
    have r3 : W5.cell? ⟨g1, i * 3 + 2, none⟩ = some (.int .i64 (R i - 1)) := by
      rcases S5.out.row with h0 | ⟨g', e, _, hr'⟩
      · omega
      · injection e with e
        injection e with e
        subst e
        have := hr'.cell (i := i * 3 + 2) (by omega)
        rw [termCell_2, upd_same] at this
        exact this
    by_cases h1 : R i = 1
    case neg =>
      have HQ : Hid (R i ≠ 1) := h1
      have hz : (R i - 1 == 0) = false := by simp; omega
      clear h1
      go_wp2
      refine bodyPost_ret (v := .agg #[.bool true, .int .i64 x, .int .i64 next, .slice (some ⟨g1, 0, none⟩) n c1]) (by simp [results, Try.results15, go_sem, z0, z1, z2, z3]) rfl ⟨true, x, next, n, I, X, _, .inr (.inl ⟨HV.out, i, hi, HX.out, HQ.out, rfl, rfl, rfl, rfl, rfl, rfl, rfl⟩), _, c1, rfl, ?_⟩
      exact ret_set S5.out.row B5.out (by assumption) _ _ _ _
    case pos =>
      have HQ : Hid (R i = 1) := h1
      have hz : (R i - 1 == 0) = true := by rw [h1]; rfl
      clear h1
      rcases HR.out with h0 | ⟨b, o, hab, -⟩
      · omega
      subst hab
      have hnc1 : i + 1 ≤ n := hi
      have hwr : IntKind.i64.wrap ((i : Int) + 1) = (i : Int) + 1 := by rw [IntKind.wrap_i64]; omega
      have hsl1 : ∀ W : World, (Instr.sliceAt 26 (.slice (some ⟨b, o, none⟩) n c) none (some (.int .i64 (i : Int))) none).run Try.prog W = .ok (.slice (some ⟨b, o, none⟩) i c) W := run_uptoT _ n c i (by omega) hnc
      have hsl2 : ∀ W : World, (Instr.sliceAt 26 (.slice (some ⟨b, o, none⟩) n c) (some (.int .i64 ((i : Int) + 1))) none none).run Try.prog W = .ok (.slice (shT (some ⟨b, o, none⟩) (i + 1) c) (n - (i + 1)) (c - (i + 1))) W := fun W => by
        have := run_fromT (some ⟨b, o, none⟩) n c (i + 1) hi hnc W
        simpa using this
      have HF : Hid (∀ w' : World, Below W5.heap.size W5 w' → w'.cell? ⟨w.heap.size, 1, none⟩ = some (.slice (some ⟨b, o, none⟩) n c)) := fun w' hb => (hb.cell (p := ⟨w.heap.size, 1, none⟩) (by show w.heap.size < W5.heap.size; omega)).trans y1
      have A0 : Hid ((W5.alloc (.cells #[] 51)).drew.ownsRow W5.heap.size 51 3 (.slice (some ⟨W5.heap.size, 0, none⟩) 0 0) 0 [] ∧ RdT (W5.alloc (.cells #[] 51)).drew (some ⟨b, o, none⟩) i I X R ∧ W5.heap.size ≤ (W5.alloc (.cells #[] 51)).drew.heap.size) :=
        ⟨World.ownsRow_lit W5 #[] 0 (Nat.le_refl _) (Nat.zero_le _) rfl, rdT_upto ((HR.out.below B5.out).below (below_alloc _ _).drew) (by omega), by show _ ≤ (W5.alloc _).heap.size; simp⟩
      have A5 : Hid (∀ v6 w6, w6.ownsRow W5.heap.size 51 3 v6 (0 + i) ([] ++ termRow I X R i) → (W5.alloc (.cells #[] 51)).drew.grownBy w6 (Value.slice (some ⟨W5.heap.size, 0, none⟩) 0 0).ownBlock → ∃ a6 c6, v6 = .slice a6 i c6 ∧ Hid (w6.ownsRow W5.heap.size 51 3 (.slice a6 i c6) i (termRow I X R i)) ∧ Hid (Below W5.heap.size W5 w6)) := fun v6 w6 ho hg => by
        rw [Nat.zero_add, List.nil_append] at ho
        obtain ⟨a6, c6, rfl⟩ := ownsRow_shape ho
        exact ⟨a6, c6, rfl, ho, ((below_alloc _ _).drew).grown hg A0.out.2.2 (fun k e => by simp [Value.ownBlock] at e; omega)⟩
      have A11 : Hid (∀ w6 : World, Below W5.heap.size W5 w6 → RdT w6 (shT (some ⟨b, o, none⟩) (i + 1) c) (n - (i + 1)) (fun j => I (i + 1 + j)) (fun j => X (i + 1 + j)) (fun j => R (i + 1 + j)) ∧ W5.heap.size ≤ w6.heap.size) := fun w6 hb => ⟨rdT_shift c ((HR.out.below B5.out).below hb) hi hnc, hb.size⟩
      have B11 : Hid (∀ (a6 : Option Addr) (c6 : Nat) (w6 : World) v7 w7, w6.ownsRow W5.heap.size 51 3 (.slice a6 i c6) i (termRow I X R i) → Below W5.heap.size W5 w6 → w7.ownsRow W5.heap.size 51 3 v7 (i + (n - (i + 1))) (termRow I X R i ++ termRow (fun j => I (i + 1 + j)) (fun j => X (i + 1 + j)) (fun j => R (i + 1 + j)) (n - (i + 1))) → w6.grownBy w7 (Value.slice a6 i c6).ownBlock → ∃ a7 c7, n - 1 ≤ c7 ∧ v7 = .slice a7 (n - 1) c7 ∧ Hid (OwnT w7 W5.heap.size a7 (n - 1) (cutAt I i) (cutAt X i) (cutAt R i)) ∧ Hid (Below W5.heap.size W5 w7)) := fun a6 c6 w6 v7 w7 h6 hb ho hg => by
        rw [cutRow I X R hi, show i + (n - (i + 1)) = n - 1 by omega] at ho
        obtain ⟨a7, c7, hv, ho2, hcc7⟩ := ownT_ofRow ho
        exact ⟨a7, c7, hcc7, hv, ho2, hb.grown hg hb.size (fun k e => (h6.lt k e).1)⟩
      go_upto_region 7 with fail
      refine wp_region_late (S := fun w' => w'.cell? ⟨w.heap.size, 1, none⟩ = some (.slice (some ⟨b, o, none⟩) n c)) 13 (by kernel_rfl) ?_ (fun hHeld => ?_)
      · ((try dsimp only); (first | exact HF.out _ (Below.refl _ _).drew | exact HF.out _ (below_alloc _ _).drew | exact HF.out _ K6.out | exact HF.out _ K7.out))
      refine late_take 1 (.succ .zero) (v := ?_) (by kernel_rfl) (by kernel_rfl) (by kernel_rfl) (by kernel_rfl) (fun _ _ _ h => h) (by rfl) ?_ (by assumption) ?_
      rotate_left
      · (intro w hSw; (try dsimp only at hSw); go_simp) <;> with_reducible rfl
      simp only [Act.put, List.setIfInBounds_toArray, List.set_cons_zero, List.set_cons_succ]
      refine late_take 2 (.succ (.succ .zero)) (v := ?_) (by kernel_rfl) (by kernel_rfl) (by kernel_rfl) (by kernel_rfl) (fun _ _ _ h => h) (by rfl) ?_ (by assumption) ?_
      rotate_left
      · (intro w hSw; (try dsimp only at hSw); go_simp) <;> with_reducible rfl
      simp only [Act.put, List.setIfInBounds_toArray, List.set_cons_zero, List.set_cons_succ]
      refine late_take 3 (.succ (.succ (.succ .zero))) (v := ?_) (by kernel_rfl) (by kernel_rfl) (by kernel_rfl) (by kernel_rfl) (fun _ _ _ h => h) (by rfl) ?_ (by assumption) ?_
      rotate_left
      · (intro w hSw; (try dsimp only at hSw); go_simp) <;> with_reducible rfl
      simp only [Act.put, List.setIfInBounds_toArray, List.set_cons_zero, List.set_cons_succ]
      refine late_take 4 (.succ (.succ (.succ (.succ .zero)))) (v := ?_) (by kernel_rfl) (by kernel_rfl) (by kernel_rfl) (by kernel_rfl) (fun _ _ _ h => h) (by rfl) ?_ (by assumption) ?_
      rotate_left
      · (intro w hSw; (try dsimp only at hSw); go_simp) <;> with_reducible rfl
      simp only [Act.put, List.setIfInBounds_toArray, List.set_cons_zero, List.set_cons_succ]
      refine late_take 6 (.succ (.succ (.succ (.succ (.succ (.succ .zero)))))) (v := ?_) (by kernel_rfl) (by kernel_rfl) (by kernel_rfl) (by kernel_rfl) (fun _ _ _ h => h) (by rfl) ?_ (by assumption) ?_
      rotate_left
      · (intro w hSw; (try dsimp only at hSw); go_simp) <;> with_reducible rfl
      simp only [Act.put, List.setIfInBounds_toArray, List.set_cons_zero, List.set_cons_succ]
      refine late_take 7 (.succ (.succ (.succ (.succ (.succ (.succ (.succ .zero))))))) (v := ?_) (by kernel_rfl) (by kernel_rfl) (by kernel_rfl) (by kernel_rfl) (fun _ _ _ h => h) (by rfl) ?_ (by assumption) ?_
      rotate_left
      · (intro w hSw; (try dsimp only at hSw); go_simp) <;> with_reducible rfl
      simp only [Act.put, List.setIfInBounds_toArray, List.set_cons_zero, List.set_cons_succ]
      refine late_take 8 (.succ (.succ (.succ (.succ (.succ (.succ (.succ (.succ .zero)))))))) (v := ?_) (by kernel_rfl) (by kernel_rfl) (by kernel_rfl) (by kernel_rfl) (fun _ _ _ h => h) (by rfl) ?_ (by assumption) ?_
      rotate_left
      · (intro w hSw; (try dsimp only at hSw); go_simp) <;> with_reducible rfl
      simp only [Act.put, List.setIfInBounds_toArray, List.set_cons_zero, List.set_cons_succ]
      refine late_take 9 (.succ (.succ (.succ (.succ (.succ (.succ (.succ (.succ (.succ .zero))))))))) (v := ?_) (by kernel_rfl) (by kernel_rfl) (by kernel_rfl) (by kernel_rfl) (fun _ _ _ h => h) (by rfl) ?_ (by assumption) ?_
      rotate_left
      · (intro w hSw; (try dsimp only at hSw); go_simp) <;> with_reducible rfl
      simp only [Act.put, List.setIfInBounds_toArray, List.set_cons_zero, List.set_cons_succ]
      refine late_take 10 (.succ (.succ (.succ (.succ (.succ (.succ (.succ (.succ (.succ (.succ .zero)))))))))) (v := ?_) (by kernel_rfl) (by kernel_rfl) (by kernel_rfl) (by kernel_rfl) (fun _ _ _ h => h) (by rfl) ?_ (by assumption) ?_
      rotate_left
      · (intro w hSw; (try dsimp only at hSw); go_simp) <;> with_reducible rfl
      simp only [Act.put, List.setIfInBounds_toArray, List.set_cons_zero, List.set_cons_succ]
      refine late_one 0 .zero (by kernel_rfl) (fun K hK => ?_)
      go_simp
      refine hK.out _ _ ?_ (fun hHeld2 => ?_)
      · (intro _; (try dsimp only); (first | exact HF.out _ (Below.refl _ _).drew | exact HF.out _ (below_alloc _ _).drew | exact HF.out _ K6.out | exact HF.out _ K7.out))
      clear hK K
      replace hHeld := hHeld2 (by decide)
      clear hHeld2
      try simp only [Act.put, List.setIfInBounds_toArray, List.set_cons_zero, List.set_cons_succ]
      refine late_one 5 (.succ (.succ (.succ (.succ (.succ .zero))))) (by kernel_rfl) (fun K hK => ?_)
      refine step_append_T (by rfl) (.tmp 40) (.tmp 44) (by rfl) W5.heap.size (.slice (some ⟨W5.heap.size, 0, none⟩) 0 0) 0 [] (by rfl) A0.out.1 (some ⟨b, o, none⟩) i c I X R (by rfl) A0.out.2.1 (by omega) A0.out.2.2 ?_
      intro v6 w6 ho6 hg6
      obtain ⟨a6, c6, rfl, O6, K6⟩ := A5.out v6 w6 ho6 hg6
      refine hK.out _ _ ?_ (fun hHeld2 => ?_)
      · (intro _; (try dsimp only); (first | exact HF.out _ (Below.refl _ _).drew | exact HF.out _ (below_alloc _ _).drew | exact HF.out _ K6.out | exact HF.out _ K7.out))
      clear hK K
      replace hHeld := hHeld2 (by decide)
      clear hHeld2
      try simp only [Act.put, List.setIfInBounds_toArray, List.set_cons_zero, List.set_cons_succ]
      refine late_one 11 (.succ (.succ (.succ (.succ (.succ (.succ (.succ (.succ (.succ (.succ (.succ .zero))))))))))) (by kernel_rfl) (fun K hK => ?_)
      refine step_append_T (by rfl) (.tmp 45) (.tmp 50) (by rfl) W5.heap.size (.slice a6 i c6) i (termRow I X R i) (by rfl) O6.out (shT (some ⟨b, o, none⟩) (i + 1) c) (n - (i + 1)) (c - (i + 1)) (fun j => I (i + 1 + j)) (fun j => X (i + 1 + j)) (fun j => R (i + 1 + j)) (by rfl) (A11.out w6 K6.out).1 (by omega) (A11.out w6 K6.out).2 ?_
      intro v7 w7 ho7 hg7
      obtain ⟨a7, c7, hcc7, rfl, O7, K7⟩ := B11.out a6 c6 w6 v7 w7 O6.out K6.out ho7 hg7
      have uf7 := (S5.out.keep K7.out).cells.2.2.1
      have ul7 := (S5.out.keep K7.out).cells.2.2.2
      have ux7 := (S5.out.keep K7.out).cells.2.1
      refine hK.out _ _ ?_ (fun hHeld2 => ?_)
      · (intro _; (try dsimp only); (first | exact HF.out _ (Below.refl _ _).drew | exact HF.out _ (below_alloc _ _).drew | exact HF.out _ K6.out | exact HF.out _ K7.out))
      clear hK K
      replace hHeld := hHeld2 (by decide)
      clear hHeld2
      try simp only [Act.put, List.setIfInBounds_toArray, List.set_cons_zero, List.set_cons_succ]
      refine late_take 12 (.succ (.succ (.succ (.succ (.succ (.succ (.succ (.succ (.succ (.succ (.succ (.succ .zero)))))))))))) (v := ?_) (by kernel_rfl) (by kernel_rfl) (by kernel_rfl) (by kernel_rfl) (fun _ _ _ h => h) (by rfl) ?_ (by assumption) ?_
      rotate_left
      · (intro w hSw; (try dsimp only at hSw); go_simp) <;> with_reducible rfl
      simp only [Act.put, List.setIfInBounds_toArray, List.set_cons_zero, List.set_cons_succ]
      refine late_one 13 (.succ (.succ (.succ (.succ (.succ (.succ (.succ (.succ (.succ (.succ (.succ (.succ (.succ .zero))))))))))))) (by kernel_rfl) (fun K hK => ?_)
      go_simp
      refine hK.out _ _ ?_ (fun hHeld2 => ?_)
      · (intro hne; exact absurd rfl hne)
      clear hK K hHeld2
      refine wpLate_done (by kernel_rfl) ?_ _
      clear HF A0 A5 A11 B11 hsl1 hsl2
      have S7 : Hid (SpSt w w7 next (some ⟨b, o, none⟩) n c I X (upd R i (R i - 1)) bo (some ⟨g1, 0, none⟩) c1) := S5.out.keep K7.out
      clear y0 y1 z0 z1 z2 z3 zf zz u0 u1 uf ul uf7 ul7 ux7 hHeld
      obtain ⟨⟨y0, y1⟩, ⟨z0, z1, z2, z3, zf⟩, zz, hbel⟩ := rbox S7.out.low
      obtain ⟨u0, u1, uf, ul⟩ := S7.out.cells
      have B7 : Hid (Below w.heap.size w w7) := hbel
      have hbo2 := S7.out.ge
      have hbo4 : bo < W5.heap.size := S5.out.cells.2.2.2
      have nb1 : ¬ bo = w.heap.size + 1 := by omega
      clear hbel
      go_wp2
      refine bodyPost_ret (v := .agg #[.bool true, .int .i64 x, .int .i64 next, .slice a7 (n - 1) c7]) (by simp [results, Try.results15, go_sem, z0, z1, z2, z3]) rfl ⟨true, x, next, n - 1, _, _, _, .inr (.inr ⟨HV.out, i, hi, HX.out, HQ.out, rfl, rfl, rfl, rfl, rfl, rfl, rfl⟩), a7, c7, rfl, ?_⟩
      exact ret_set ((O7.out.setOther hbo4 _).mono (by omega)) (B7.out.setCell (by show w.heap.size ≤ bo; omega) _) (by assumption) _ _ _ _
end Go.Proofs.Ytfecgececffdoaa
