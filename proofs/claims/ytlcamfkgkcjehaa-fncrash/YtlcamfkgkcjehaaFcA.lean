import Derived.Test.YtlcamfkgkcjehaaSpecY
import Derived.RangeFuncBound
import Derived.Test.YtlcamfkgkcjehaaDrawF
import Derived.Test.YtlcamfkgkcjehaaZeros
import Derived.Deep.CutRange
namespace Go.Proofs.Ytlcamfkgkcjehaa
open Go.RowKit Go.Deep
set_option linter.unusedVariables false
set_option maxRecDepth 100000

set_option maxHeartbeats 2000000 in
theorem specY_liveG (a p : Option Addr) (n c m q : Nat) (d S : Nat → Int) (L : Nat → Nat) (F : Nat → Nat → Int) (fuel : Int) (w : World) (ha : Rd .u8 w a n d) (hp : RdP w p m S L F) (hn : n ≤ 1048576) (hm : m ≤ 1048576) (hL : ∀ i, i < m → L i ≤ 1048576) (hv : VD n m S L fuel) (hf0 : fuel ≠ 0) (hf1 : -1 ≤ fuel) (hf2 : fuel ≤ 1000000) (S2 : Nat → Int) (L2 : Nat → Nat) (F2 : Nat → Nat → Int) :
    Calls Try.prog 49 #[.agg #[.slice a n c, .slice p m q, .int .i64 fuel, .bool false]] w fun e w' => RetG w e w' n (syncTo d S F m) 0 S2 L2 F2 (fuelAfter fuel) false := by
  have HA : Hid (Rd .u8 w a n d) := ha
  have HP : Hid (RdP w p m S L F) := hp
  have HLL : Hid (∀ i, i < m → L i ≤ 1048576) := hL
  have HFIN : Hid (∀ W : World, Below (w.heap.size + 2) ((w.alloc (.cells #[.slice a n c, .slice p m q, .int .i64 fuel, .bool false] 25)).alloc (.cells #[.slice none 0 0, .slice none 0 0, .int .i64 0, .bool false] 25)) W → Below w.heap.size w W) := fun W h => (below_alloc2' _ _ _).trans (h.mono (by omega))
  have HE2 : Hid (∀ o1 o2, ((w.alloc o1).alloc o2).heap.size = w.heap.size + 2) := fun _ _ => by simp
  have HV : Hid (VD n m S L fuel) := hv
  clear ha hp hL hv
  go_enter Try.func49, Try.ntmps49
  go_wp2_with fail
  refine (specValid_any a p n c m q S L F fuel false _ (HP.out.below (below_alloc2' _ _ _)) hn hm).mono ?_
  rintro e w1 ⟨h1, hb1⟩
  have e1 := ans_true' h1 HV.out
  subst e1
  rw [HE2.out] at hb1
  have K1 : Hid (Below (w.heap.size + 2) ((w.alloc (.cells #[.slice a n c, .slice p m q, .int .i64 fuel, .bool false] 25)).alloc (.cells #[.slice none 0 0, .slice none 0 0, .int .i64 0, .bool false] 25)) w1) := hb1
  have z1 : w.heap.size + 2 ≤ w1.heap.size := by have := K1.out.size; rw [HE2.out] at this; exact this
  have hc1 : ∀ b o, b < w.heap.size + 2 → w1.cell? ⟨b, o, none⟩ = _ := fun b o hb => K1.out.cell (p := ⟨b, o, none⟩) hb
  clear hb1 h1
  go_wp2_with fail
  refine (l1Step_live a p n c m q d S L F fuel false w1 (HA.out.below (HFIN.out _ K1.out)) (HP.out.below (HFIN.out _ K1.out)) hf0 hf1 hf2 hn hm HLL.out).mono ?_
  rintro e w3 ⟨a3, c3, p3, q3, A3, C3, rfl, ho3, hg3, hx3, hb3, hl3, hm3⟩
  have z3 := hb3.size
  have K3 : Below (w.heap.size + 2) ((w.alloc (.cells #[.slice a n c, .slice p m q, .int .i64 fuel, .bool false] 25)).alloc (.cells #[.slice none 0 0, .slice none 0 0, .int .i64 0, .bool false] 25)) w3 := K1.out.trans (hb3.mono (by omega))
  have HX : Hid (DkRow (w3.alloc (.cells #[.slice a3 n c3, .slice p3 m q3, .int .i64 (fuelAfter fuel), .bool false] 25)) w3.heap.size (.slice a3 n c3) (.slice p3 m q3) (fuelAfter fuel) false ∧ OwnB (w3.alloc (.cells #[.slice a3 n c3, .slice p3 m q3, .int .i64 (fuelAfter fuel), .bool false] 25)) (w.heap.size + 2) a3 n d ∧ Below (w.heap.size + 2) ((w.alloc (.cells #[.slice a n c, .slice p m q, .int .i64 fuel, .bool false] 25)).alloc (.cells #[.slice none 0 0, .slice none 0 0, .int .i64 0, .bool false] 25)) (w3.alloc (.cells #[.slice a3 n c3, .slice p3 m q3, .int .i64 (fuelAfter fuel), .bool false] 25))) :=
    ⟨rowInNew _ _ _ _ _, (ho3.mono (by omega)).below (below_alloc _ _), K3.alloc (by omega) _⟩
  have hbo : w.heap.size + 2 ≤ w3.heap.size := by omega
  clear ho3 hg3 hx3 hb3 K3 hc1
  go_wp2
  generalize hbx : w3.heap.size = bo at HX hbo ⊢
  generalize hwx : w3.alloc (.cells #[.slice a3 n c3, .slice p3 m q3, .int .i64 (fuelAfter fuel), .bool false] 25) = wx at HX ⊢
  clear hbx hwx
  go_loopw [4] (fun i wr => ∃ (k : Nat) (a' : Option Addr) (c' : Nat), k ≤ m ∧ i = .int .i64 k ∧ DkRow wr bo (.slice a' n c') (.slice p3 m q3) (fuelAfter fuel) false ∧ OwnB wr (w.heap.size + 2) a' n (syncTo d S F k) ∧ n ≤ c' ∧ c' ≤ 9223372036854775807 ∧ Below (w.heap.size + 2) ((w.alloc (.cells #[.slice a n c, .slice p m q, .int .i64 fuel, .bool false] 25)).alloc (.cells #[.slice none 0 0, .slice none 0 0, .int .i64 0, .bool false] 25)) wr) (fun i _ => m - (intOf i).toNat)
  case atStart => exact ⟨0, a3, c3, Nat.zero_le _, rfl, HX.out.1, HX.out.2.1, hl3, hm3, HX.out.2.2⟩
  case round =>
    obtain ⟨k, a', c', hkm, rfl, hrow, hown, hc1', hc2', hbel⟩ := hrel
    have K4 : Hid (Below (w.heap.size + 2) ((w.alloc (.cells #[.slice a n c, .slice p m q, .int .i64 fuel, .bool false] 25)).alloc (.cells #[.slice none 0 0, .slice none 0 0, .int .i64 0, .bool false] 25)) wr) := hbel
    have hzr : w.heap.size + 2 ≤ wr.heap.size := by have := hbel.size; rw [HE2.out] at this; exact this
    have HRW : Hid (DkRow wr bo (.slice a' n c') (.slice p3 m q3) (fuelAfter fuel) false) := hrow
    have HOW : Hid (OwnB wr (w.heap.size + 2) a' n (syncTo d S F k)) := hown
    clear hrow hown hbel HX
    obtain ⟨d0, d1, d2, d3, df, dl⟩ := HRW.out.cells
    have hc3 : ∀ b o, b < w.heap.size + 2 → wr.cell? ⟨b, o, none⟩ = _ := fun b o hb => K4.out.cell (p := ⟨b, o, none⟩) hb
    have x1 := hc3 w.heap.size 1 (by omega)
    simp at x1
    clear hc3
    by_cases hlt : k < m
    · rcases HP.out.below (HFIN.out _ K4.out) with h | ⟨b, o, hpa, hc⟩
      · omega
      subst hpa
      obtain ⟨e1, ad, cp, e2, e3⟩ := hc k hlt
      have hvp := HV.out.2 k hlt
      rw [hvp.2.2] at e2 e3
      obtain ⟨s, hs⟩ := Int.eq_ofNat_of_zero_le hvp.1
      have hfit := sectorFits hvp hs
      have HS : Hid (S k = (s : Int)) := hs
      rw [hs] at e1
      have HT : Hid (syncTo d S F (k + 1) = over (syncTo d S F k) s (F k)) := by
        show over _ _ _ = _
        rw [HS.out, Int.toNat_natCast]
      have E3 : Hid (Rd .u8 wr.drew ad 64 (F k)) := e3
      have HRD : Hid (Rd .u8 wr.drew a' n (syncTo d S F k)) := HOW.out.rd
      have hbb : b < wr.heap.size := World.block_lt_of_cell? _ _ e1
      clear hc e3 hvp hs
      have HC : Hid (∀ w4 : World, Below wr.drew.heap.size wr.drew w4 → (w4.cell? ⟨bo, 0, none⟩ = some (.slice a' n c') ∧ w4.cell? ⟨w.heap.size, 1, none⟩ = some (.slice (some ⟨b, o, none⟩) m q) ∧ w4.cell? ⟨b, o + k * 2, none⟩ = some (.int .i64 s) ∧ w4.cell? ⟨b, o + k * 2 + 1, none⟩ = some (.slice ad 64 cp)) ∧ (∀ x, w4.frozen? ⟨bo, x, none⟩ = false) ∧ bo < w4.heap.size) := by
        intro w4 hb
        refine ⟨⟨(hb.cell (p := ⟨bo, 0, none⟩) dl).trans d0, (hb.cell (p := ⟨w.heap.size, 1, none⟩) (by show w.heap.size < wr.heap.size; omega)).trans x1, (hb.cell (p := ⟨b, o + k * 2, none⟩) hbb).trans e1, (hb.cell (p := ⟨b, o + k * 2 + 1, none⟩) hbb).trans e2⟩, fun x => (hb.frozen (p := ⟨bo, x, none⟩) dl).trans (df x), Nat.lt_of_lt_of_le dl hb.size⟩
      have ik : (k : Int) < (m : Int) := by omega
      go_wp2
      refine wp_region_late (S := (fun w' => w'.cell? ⟨bo, 0, none⟩ = some (.slice a' n c') ∧ w'.cell? ⟨w.heap.size, 1, none⟩ = some (.slice (some ⟨b, o, none⟩) m q) ∧ w'.cell? ⟨b, o + k * 2, none⟩ = some (.int .i64 s) ∧ w'.cell? ⟨b, o + k * 2 + 1, none⟩ = some (.slice ad 64 cp))) 16 (by kernel_rfl) ?_ (fun hHeld => ?_)
      · ((try dsimp only); go_keep)
      refine late_take 0 .zero (v := ?_) (by kernel_rfl) (by kernel_rfl) (by kernel_rfl) (by kernel_rfl) (fun _ _ _ h => h) (by rfl) ?_ (by assumption) ?_
      rotate_left
      · (intro w hSw; (try dsimp only at hSw); go_simp) <;> with_reducible rfl
      simp only [Act.put, List.setIfInBounds_toArray, List.set_cons_zero, List.set_cons_succ]
      refine late_take 1 (.succ .zero) (v := ?_) (by kernel_rfl) (by kernel_rfl) (by kernel_rfl) (by kernel_rfl) (fun _ _ _ h => h) (by rfl) ?_ (by assumption) ?_
      rotate_left
      · (intro w hSw; (try dsimp only at hSw); go_simp) <;> with_reducible rfl
      simp only [Act.put, List.setIfInBounds_toArray, List.set_cons_zero, List.set_cons_succ]
      refine late_take 2 (.succ (.succ .zero)) (v := ?_) (by kernel_rfl) (by kernel_rfl) (by kernel_rfl) (by kernel_rfl) (fun _ _ _ h => h) (by rfl) ?_ (by assumption) ?_
      rotate_left
      · (intro w hSw; (try dsimp only at hSw); go_simp) <;> with_reducible rfl
      simp only [Act.put, List.setIfInBounds_toArray, List.set_cons_zero, List.set_cons_succ]
      refine late_take 3 (.succ (.succ (.succ .zero))) (v := ?_) (by kernel_rfl) (by kernel_rfl) (by kernel_rfl) (by kernel_rfl) (fun _ _ _ h => h) (by rfl) ?_ (by assumption) ?_
      rotate_left
      · (intro w hSw; (try dsimp only at hSw); go_simp) <;> with_reducible rfl
      simp only [Act.put, List.setIfInBounds_toArray, List.set_cons_zero, List.set_cons_succ]
      refine late_take 4 (.succ (.succ (.succ (.succ .zero)))) (v := ?_) (by kernel_rfl) (by kernel_rfl) (by kernel_rfl) (by kernel_rfl) (fun _ _ _ h => h) (by rfl) ?_ (by assumption) ?_
      rotate_left
      · (intro w hSw; (try dsimp only at hSw); go_simp) <;> with_reducible rfl
      simp only [Act.put, List.setIfInBounds_toArray, List.set_cons_zero, List.set_cons_succ]
      refine late_take 5 (.succ (.succ (.succ (.succ (.succ .zero))))) (v := ?_) (by kernel_rfl) (by kernel_rfl) (by kernel_rfl) (by kernel_rfl) (fun _ _ _ h => h) (by rfl) ?_ (by assumption) ?_
      rotate_left
      · (intro w hSw; (try dsimp only at hSw); go_simp) <;> with_reducible rfl
      simp only [Act.put, List.setIfInBounds_toArray, List.set_cons_zero, List.set_cons_succ]
      refine late_take 6 (.succ (.succ (.succ (.succ (.succ (.succ .zero)))))) (v := ?_) (by kernel_rfl) (by kernel_rfl) (by kernel_rfl) (by kernel_rfl) (fun _ _ _ h => h) (by rfl) ?_ (by assumption) ?_
      rotate_left
      · (intro w hSw; (try dsimp only at hSw); go_simp) <;> with_reducible rfl
      simp only [Act.put, List.setIfInBounds_toArray, List.set_cons_zero, List.set_cons_succ]
      refine late_take 7 (.succ (.succ (.succ (.succ (.succ (.succ (.succ .zero))))))) (v := ?_) (by kernel_rfl) (by kernel_rfl) (by kernel_rfl) (by kernel_rfl) (fun _ _ _ h => h) (by rfl) ?_ (by assumption) ?_
      rotate_left
      · (intro w hSw; (try dsimp only at hSw); go_simp) <;> with_reducible rfl
      simp only [Act.put, List.setIfInBounds_toArray, List.set_cons_zero, List.set_cons_succ]
      refine late_take 8 (.succ (.succ (.succ (.succ (.succ (.succ (.succ (.succ .zero)))))))) (v := ?_) (by kernel_rfl) (by kernel_rfl) (by kernel_rfl) (by kernel_rfl) (fun _ _ _ h => h) (by rfl) ?_ (by assumption) ?_
      rotate_left
      · (intro w hSw; (try dsimp only at hSw); go_simp) <;> with_reducible rfl
      simp only [Act.put, List.setIfInBounds_toArray, List.set_cons_zero, List.set_cons_succ]
      refine late_take 9 (.succ (.succ (.succ (.succ (.succ (.succ (.succ (.succ (.succ .zero))))))))) (v := ?_) (by kernel_rfl) (by kernel_rfl) (by kernel_rfl) (by kernel_rfl) (fun _ _ _ h => h) (by rfl) ?_ (by assumption) ?_
      rotate_left
      · (intro w hSw; (try dsimp only at hSw); go_simp) <;> with_reducible rfl
      simp only [Act.put, List.setIfInBounds_toArray, List.set_cons_zero, List.set_cons_succ]
      refine late_take 10 (.succ (.succ (.succ (.succ (.succ (.succ (.succ (.succ (.succ (.succ .zero)))))))))) (v := ?_) (by kernel_rfl) (by kernel_rfl) (by kernel_rfl) (by kernel_rfl) (fun _ _ _ h => h) (by rfl) ?_ (by assumption) ?_
      rotate_left
      · (intro w hSw; (try dsimp only at hSw); go_simp) <;> with_reducible rfl
      simp only [Act.put, List.setIfInBounds_toArray, List.set_cons_zero, List.set_cons_succ]
      refine late_take 11 (.succ (.succ (.succ (.succ (.succ (.succ (.succ (.succ (.succ (.succ (.succ .zero))))))))))) (v := ?_) (by kernel_rfl) (by kernel_rfl) (by kernel_rfl) (by kernel_rfl) (fun _ _ _ h => h) (by rfl) ?_ (by assumption) ?_
      rotate_left
      · (intro w hSw; (try dsimp only at hSw); go_simp) <;> with_reducible rfl
      simp only [Act.put, List.setIfInBounds_toArray, List.set_cons_zero, List.set_cons_succ]
      refine late_take 12 (.succ (.succ (.succ (.succ (.succ (.succ (.succ (.succ (.succ (.succ (.succ (.succ .zero)))))))))))) (v := ?_) (by kernel_rfl) (by kernel_rfl) (by kernel_rfl) (by kernel_rfl) (fun _ _ _ h => h) (by rfl) ?_ (by assumption) ?_
      rotate_left
      · (intro w hSw; (try dsimp only at hSw); go_simp) <;> with_reducible rfl
      simp only [Act.put, List.setIfInBounds_toArray, List.set_cons_zero, List.set_cons_succ]
      refine late_take 13 (.succ (.succ (.succ (.succ (.succ (.succ (.succ (.succ (.succ (.succ (.succ (.succ (.succ .zero))))))))))))) (v := ?_) (by kernel_rfl) (by kernel_rfl) (by kernel_rfl) (by kernel_rfl) (fun _ _ _ h => h) (by rfl) ?_ (by assumption) ?_
      rotate_left
      · (intro w hSw; (try dsimp only at hSw); go_simp) <;> with_reducible rfl
      simp only [Act.put, List.setIfInBounds_toArray, List.set_cons_zero, List.set_cons_succ]
      refine late_one 14 (.succ (.succ (.succ (.succ (.succ (.succ (.succ (.succ (.succ (.succ (.succ (.succ (.succ (.succ .zero)))))))))))))) (by kernel_rfl) (fun K hK => ?_)
      (refine step_l1Over (by rfl) 27 33 39 (by rfl) (.slice a' n c') (.int .i64 s) (.slice ad 64 cp) (by rfl) (by rfl) (by rfl) ?_; refine (l1Over_any a' ad n c' cp s (syncTo d S F k) (F k) wr.drew HRD.out E3.out hfit hn hc1' hc2').mono ?_; rintro e w4 ⟨a4, c4, he, ho4, hb4, hl4, hm4⟩; refine ⟨_, he, ?_⟩; clear he; obtain ⟨⟨k0, k1, k2, k3⟩, kf, kl⟩ := HC.out w4 hb4)
      refine hK.out _ _ ?_ (fun hHeld2 => ?_)
      · (intro _; (try dsimp only); go_keep)
      clear hK K
      replace hHeld := hHeld2 (by decide)
      clear hHeld2
      try simp only [Act.put, List.setIfInBounds_toArray, List.set_cons_zero, List.set_cons_succ]
      refine late_take 15 (.succ (.succ (.succ (.succ (.succ (.succ (.succ (.succ (.succ (.succ (.succ (.succ (.succ (.succ (.succ .zero))))))))))))))) (v := ?_) (by kernel_rfl) (by kernel_rfl) (by kernel_rfl) (by kernel_rfl) (fun _ _ _ h => h) (by rfl) ?_ (by assumption) ?_
      rotate_left
      · (intro w hSw; (try dsimp only at hSw); go_simp) <;> with_reducible rfl
      simp only [Act.put, List.setIfInBounds_toArray, List.set_cons_zero, List.set_cons_succ]
      refine late_one 16 (.succ (.succ (.succ (.succ (.succ (.succ (.succ (.succ (.succ (.succ (.succ (.succ (.succ (.succ (.succ (.succ .zero)))))))))))))))) (by kernel_rfl) (fun K hK => ?_)
      go_simp
      refine hK.out _ _ ?_ (fun hHeld2 => ?_)
      · (intro hne; exact absurd rfl hne)
      clear hK K hHeld2
      refine wpLate_done (by kernel_rfl) ?_ _
      have HY : Hid (DkRow (w4.setCell ⟨bo, 0, none⟩ (.slice a4 n c4)) bo (.slice a4 n c4) (.slice p3 m q3) (fuelAfter fuel) false ∧ OwnB (w4.setCell ⟨bo, 0, none⟩ (.slice a4 n c4)) (w.heap.size + 2) a4 n (syncTo d S F (k + 1)) ∧ n ≤ c4 ∧ c4 ≤ 9223372036854775807 ∧ Below (w.heap.size + 2) ((w.alloc (.cells #[.slice a n c, .slice (some ⟨b, o, none⟩) m q, .int .i64 fuel, .bool false] 25)).alloc (.cells #[.slice none 0 0, .slice none 0 0, .int .i64 0, .bool false] 25)) (w4.setCell ⟨bo, 0, none⟩ (.slice a4 n c4))) := by
        have hd4 : DkRow w4 bo (.slice a' n c') (.slice p3 m q3) (fuelAfter fuel) false := HRW.out.below (w' := w4) ((Below.refl _ _).drew.trans hb4)
        refine ⟨hd4.setData _, ?_, hl4, hm4, (K4.out.drew.trans (hb4.mono hzr)).setCell (by simpa using hbo) _⟩
        rw [HT.out]
        exact (ho4.mono hzr).onlyDk hd4 ((OnlyAt.refl _ _).setCell 0 _)
      clear hb4 ho4 k0 k1 k2 k3 kf kl hHeld HC E3 HRD d0 d1 d2 d3 df x1 e1 e2
      go_wp2
      go_roundw
      case rel => exact ⟨k + 1, a4, c4, by omega, by go_num, HY.out⟩
      case measure => simp [intOf]; omega
    · have e : k = m := by omega
      subst e
      obtain ⟨r0, r1, r2, r3, rf, rl⟩ := (box_res K4.out).cells
      have HF : Hid (OwnB wr (w.heap.size + 2) a' n (syncTo d S F k) ∧ Below w.heap.size w wr) := ⟨HOW.out, HFIN.out _ K4.out⟩
      go_wp2
      have DR : Hid (DkRow ((set4 (wr.setCell ⟨bo, 1, none⟩ (.slice (some ⟨wr.heap.size, 0, none⟩) 0 0)) (w.heap.size + 1) (.slice a' n c') (.slice (some ⟨wr.heap.size, 0, none⟩) 0 0) (fuelAfter fuel) false).alloc (.cells #[] 49)) (w.heap.size + 1) (.slice a' n c') (.slice (some ⟨wr.heap.size, 0, none⟩) 0 0) (fuelAfter fuel) false) := (dk_set4 ((box_res K4.out).setOther (by simp; omega) _)).below (below_alloc _ _)
      obtain ⟨y0, y1, y2, y3, yf, yl⟩ := DR.out.cells
      unfold set4 at y0 y1 y2 y3
      clear r0 r1 r2 r3 rf d0 d1 d2 d3 df
      refine bodyPost_ret (v := .agg #[.slice a' n c', .slice (some ⟨wr.heap.size, 0, none⟩) 0 0, .int .i64 (fuelAfter fuel), .bool false]) (by simp [results, Try.results49, go_sem, y0, y1, y2, y3]) rfl ⟨a', c', some ⟨wr.heap.size, 0, none⟩, 0, fun _ => none, fun _ => 0, rfl, ?_, ⟨?_, fun i hi => absurd hi (Nat.not_lt_zero _), fun i j hi => absurd hi (Nat.not_lt_zero _)⟩, fun _ i hi => absurd hi (Nat.not_lt_zero _), ?_, hc1', hc2'⟩
      · exact ((((((HOW.out.onlyDk HRW.out ((OnlyAt.refl _ _).setCell 1 _)).setOther (by simp) _).setOther (by simp) _).setOther (by simp) _).setOther (by simp) _).below (below_alloc _ _)).mono (by omega)
      · refine ⟨rfl, Or.inr ⟨wr.heap.size, 0, #[], rfl, by omega, ?_, Nat.le_refl _, Nat.zero_le _, rfl, rfl⟩⟩
        have hz : ((((((wr.setCell ⟨bo, 1, none⟩ (.slice (some ⟨wr.heap.size, 0, none⟩) 0 0)).setCell ⟨w.heap.size + 1, 0, none⟩ (.slice a' n c')).setCell ⟨w.heap.size + 1, 1, none⟩ (.slice (some ⟨wr.heap.size, 0, none⟩) 0 0)).setCell ⟨w.heap.size + 1, 2, none⟩ (.int .i64 (fuelAfter fuel))).setCell ⟨w.heap.size + 1, 3, none⟩ (.bool false))).heap.size = wr.heap.size := by simp [World.setCell]
        have h1 := World.alloc_heap_new (((((wr.setCell ⟨bo, 1, none⟩ (.slice (some ⟨wr.heap.size, 0, none⟩) 0 0)).setCell ⟨w.heap.size + 1, 0, none⟩ (.slice a' n c')).setCell ⟨w.heap.size + 1, 1, none⟩ (.slice (some ⟨wr.heap.size, 0, none⟩) 0 0)).setCell ⟨w.heap.size + 1, 2, none⟩ (.int .i64 (fuelAfter fuel))).setCell ⟨w.heap.size + 1, 3, none⟩ (.bool false)) (.cells #[] 49)
        rw [hz] at h1
        exact h1
      · exact ((((((HF.out.2.setCell (by simp; omega) _).setCell (by simp) _).setCell (by simp) _).setCell (by simp) _).setCell (by simp) _).alloc (by simpa using HF.out.2.size) _)
end Go.Proofs.Ytlcamfkgkcjehaa

namespace Go.Proofs.Ytlcamfkgkcjehaa
open Go.RowKit Go.Deep
set_option linter.unusedVariables false
set_option maxRecDepth 100000

/-- A disk in the call's own memory whose cache can grow. -/
structure OwnQ (w : World) (B : Nat) (a : Option Addr) (n c : Nat) (d : Nat → Int) (p : Option Addr) (m q : Nat) (S : Nat → Int) (L : Nat → Nat) (F : Nat → Nat → Int) (A : Nat → Option Addr) : Prop where
  data : OwnB w B a n d
  cache : ∃ C, Gath w B (.slice p m q) m S L F A C
  apart : n ≠ 0 → ∀ i, i < m → L i ≠ 0 → A i ≠ a
  caps : n ≤ c ∧ c ≤ 9223372036854775807

section
variable {w w' : World} {B B' g b o n c m q : Nat} {a p : Option Addr} {d S : Nat → Int} {L : Nat → Nat} {F : Nat → Nat → Int} {A : Nat → Option Addr} {v0 v1 : Value} {fuel : Int} {dead : Bool}

theorem gath_keep {v : Value} {C : Nat → Nat} (h : Gath w B v m S L F A C) (hk : ∀ k, B ≤ k → k < w.heap.size → (∃ c, w.heap[k]? = some (.cells c 49 (0, 0))) ∨ (∃ c, w.heap[k]? = some (.cells c 5 (0, 0))) → w'.heap[k]? = w.heap[k]?) : Gath w' B v m S L F A C := by
  refine ⟨⟨h.row.1, ?_⟩, fun i hi => ?_, h.apart⟩
  · rcases h.row.2 with h2 | ⟨g, cap, cur, hv, hg, hh, r⟩
    · exact Or.inl h2
    · exact Or.inr ⟨g, cap, cur, hv, hg, (hk g hg (Array.getElem?_eq_some_iff.1 hh).1 (Or.inl ⟨cur, hh⟩)).trans hh, r⟩
  · rcases h.each i hi with h2 | ⟨g, e, hg, hr⟩
    · exact Or.inl h2
    · obtain ⟨cur, hh, q1, q2⟩ := hr
      exact Or.inr ⟨g, e, hg, cur, (hk g hg (Array.getElem?_eq_some_iff.1 hh).1 (Or.inr ⟨cur, hh⟩)).trans hh, q1, q2⟩

theorem OwnQ.own (h : OwnQ w B a n c d p m q S L F A) : OwnD w B a n d p m S L F A := by
  obtain ⟨C, hc⟩ := h.cache
  obtain ⟨p', q', e, ho⟩ := hc.ownP
  injection e with e1 e2 e3
  subst e1
  exact ⟨h.data, ho, h.apart⟩
theorem OwnQ.below (h : OwnQ w B a n c d p m q S L F A) (hb : Below w.heap.size w w') : OwnQ w' B a n c d p m q S L F A := by
  obtain ⟨C, hc⟩ := h.cache
  exact ⟨h.data.below hb, ⟨C, hc.below hb⟩, h.apart, h.caps⟩
theorem OwnQ.mono (h : OwnQ w B a n c d p m q S L F A) (hB : B' ≤ B) : OwnQ w B' a n c d p m q S L F A := by
  obtain ⟨C, hc⟩ := h.cache
  exact ⟨h.data.mono hB, ⟨C, hc.mono hB⟩, h.apart, h.caps⟩
theorem OwnQ.setOther (h : OwnQ w B a n c d p m q S L F A) {x : Addr} (hx : x.block < B) (v : Value) : OwnQ (w.setCell x v) B a n c d p m q S L F A := by
  obtain ⟨C, hc⟩ := h.cache
  exact ⟨h.data.setOther hx v, ⟨C, hc.setOther hx v⟩, h.apart, h.caps⟩
theorem OwnQ.belC (h : OwnQ w B a n c d p m q S L F A) (hg : g < B) (hb : BelC w.heap.size g w w') : OwnQ w' B a n c d p m q S L F A := by
  obtain ⟨C, hc⟩ := h.cache
  exact ⟨h.data.belC hg hb, ⟨C, gath_keep hc (fun k hk hl _ => hb.block k hl (by omega))⟩, h.apart, h.caps⟩
theorem OwnQ.onlyDk (h : OwnQ w B a n c d p m q S L F A) (hd : DkRow w b v0 v1 fuel dead) (ho : OnlyAt (some ⟨b, 0, none⟩) w w') : OwnQ w' B a n c d p m q S L F A := by
  obtain ⟨C, hc⟩ := h.cache
  exact ⟨h.data.onlyDk hd ho, ⟨C, hc.onlyDk hd ho⟩, h.apart, h.caps⟩
end

/-- A disk handed back whose cache can grow. -/
def Stt.retQ (t : Stt) (n : Nat) (w : World) (e : Ending) (w' : World) : Prop :=
  ∃ a c p q A, e = .returned (.agg #[.slice a n c, .slice p t.m q, .int .i64 t.fuel, .bool t.dead]) ∧ OwnQ w' w.heap.size a n c t.d p t.m q t.S t.L t.F A ∧ Below w.heap.size w w'
/-- A disk that lives, its fuel unbounded. -/
def Stt.live (j : Nat) (t : Stt) : Prop := t.dead = false ∧ t.fuel = -1 ∧ t.m ≤ j

theorem Stt.live.write {j : Nat} {t : Stt} (h : t.live j) (hj : j < 2000) (s : Int) (f : Nat → Int) : t.write s f = t.push s f ∧ (t.push s f).live (j + 1) := by
  obtain ⟨h1, h2, h3⟩ := h
  refine ⟨?_, rfl, ?_, by show t.m + 1 ≤ j + 1; omega⟩
  · unfold Stt.write
    rw [if_neg (by rw [h1]; decide), if_neg (by omega), if_neg (by rw [h2]; decide)]
  · show fuelAfter t.fuel = -1
    rw [h2]; rfl
theorem Stt.live.sync {j : Nat} {t : Stt} (h : t.live j) : t.sync = t.flush ∧ t.flush.live j := by
  obtain ⟨h1, h2, h3⟩ := h
  refine ⟨?_, rfl, ?_, Nat.zero_le _⟩
  · unfold Stt.sync
    rw [if_neg (by rw [h1]; decide), if_neg (by rw [h2]; decide)]
  · show fuelAfter t.fuel = -1
    rw [h2]; rfl

theorem specW_q (t : Stt) (a p ad : Option Addr) (n c q cp : Nat) (s : Int) (f : Nat → Int) (w : World) (ha : Rd .u8 w a n t.d) (hp : RdP w p t.m t.S t.L t.F) (hrd : Rd .u8 w ad 64 f) (hv : t.ok n) (s0 : 0 ≤ s) (s1 : s < (n : Int) / 64) (j : Nat) (hl : t.live j) (hj : j < 2000) :
    Calls Try.prog 48 #[.agg #[.slice a n c, .slice p t.m q, .int .i64 t.fuel, .bool t.dead], .int .i64 s, .slice ad 64 cp] w ((t.push s f).retQ n w) := by
  obtain ⟨d, m, S, L, F, fuel, dead⟩ := t
  have hv' : VD n m S L fuel := hv
  obtain ⟨hn, hm, hL⟩ := stt_vd_lens hv'
  obtain ⟨h1, h2, h3⟩ := hl
  dsimp only at h1 h2 h3
  subst h1 h2
  refine (specW_live a p ad n c m q cp d S L F (-1) s w ha hp hn hm hL f hrd hv' (by omega) (by omega) (by omega) (by omega) (by omega) (by omega)).mono ?_
  rintro e w' ⟨a', c', p', q', A', C', he, q1, q2, q3, q4, q5, q6⟩
  exact ⟨a', c', p', q', A', he, ⟨q1, ⟨C', q2⟩, q3, q5, q6⟩, q4⟩

theorem specY_q (t : Stt) (a p : Option Addr) (n c q : Nat) (w : World) (ha : Rd .u8 w a n t.d) (hp : RdP w p t.m t.S t.L t.F) (hv : t.ok n) (j : Nat) (hl : t.live j) :
    Calls Try.prog 49 #[.agg #[.slice a n c, .slice p t.m q, .int .i64 t.fuel, .bool t.dead]] w (t.flush.retQ n w) := by
  obtain ⟨d, m, S, L, F, fuel, dead⟩ := t
  have hv' : VD n m S L fuel := hv
  obtain ⟨hn, hm, hL⟩ := stt_vd_lens hv'
  obtain ⟨h1, h2, h3⟩ := hl
  dsimp only at h1 h2 h3
  subst h1 h2
  refine (specY_liveG a p n c m q d S L F (-1) w ha hp hn hm hL hv' (by omega) (by omega) (by omega) (fun _ => 0) (fun _ => 0) (fun _ _ => 0)).mono ?_
  rintro e w' ⟨a', c', p', q', A', C', he, q1, q2, q3, q4, q5, q6⟩
  exact ⟨a', c', p', q', A', he, ⟨q1, ⟨C', q2⟩, q3, q5, q6⟩, q4⟩

set_option maxHeartbeats 400000 in
theorem zeros_c (n : Nat) (w : World) (hn : n ≤ 1048576) :
    Calls Try.prog 41 #[.int .i64 n] w fun e w' => ∃ a c, e = .returned (.slice a n c) ∧ OwnB w' w.heap.size a n (fun _ => 0) ∧ Below w.heap.size w w' ∧ n ≤ c ∧ c ≤ 9223372036854775807 := by
  obtain ⟨i0, hi, hz0, hz1, hz2⟩ := info_parts Try.info5
  have HI : Hid (Try.prog.info? 5 = some i0 ∧ i0.zero = some (.int .u8 0) ∧ i0.size = 1 ∧ i0.bytes = 1) := ⟨hi, hz0, hz1, hz2⟩
  clear hi hz0 hz1 hz2
  go_enter Try.func41, Try.ntmps41
  go_wp2
  go_loopw [3, 4] (fun v i wr => ∃ k : Nat, k ≤ n ∧ i = .int .i64 k ∧ wr.ownsRow w.heap.size 5 1 v k (List.replicate k (.int .u8 0)) ∧ Below w.heap.size w wr) (fun _ i _ => n - (intOf i).toNat)
  case atStart => exact ⟨0, Nat.zero_le _, rfl, World.ownsRow_lit w #[] 0 (Nat.le_refl _) (Nat.zero_le _) rfl, (Below.refl _ _).alloc (Nat.le_refl _) _⟩
  case round =>
    obtain ⟨k, hk, rfl, hown, hbel⟩ := hrel
    by_cases hlt : k < n
    · have hsz := hbel.size
      have HB : Hid (Below w.heap.size w wr) := hbel
      have HO : Hid (wr.ownsRow w.heap.size 5 1 u3 k (List.replicate k (.int .u8 0))) := hown
      clear hbel hown
      go_wp2_with (at_builtin; refine wpList_append_own _ rfl _ _ 22 rfl w.heap.size 5 i0 (.int .u8 0) 1 1 Try.underlying22 HI.out.1 HI.out.2.1 HI.out.2.2.1 HI.out.2.2.2 rfl (by decide) _ k (List.replicate k (.int .u8 0)) rfl (HO.out.alloc _) ⟨wr.heap.size, 0, none⟩ 1 1 [.int .u8 0] rfl rfl ?c1 ?c2 ?c3 ?c4 ?c5 ?_)
      case c1 => exact cell_one_new _ _ _
      case c2 => intro u hu; simp at hu; subst hu; rfl
      case c3 => unfold maxLen; omega
      case c4 => omega
      case c5 => simp; omega
      · intro v' w1 hown' hgrow _
        have HX : Hid (w1.ownsRow w.heap.size 5 1 v' (k + 1) (List.replicate (k + 1) (.int .u8 0)) ∧ Below w.heap.size w w1) :=
          ⟨by rw [List.replicate_succ']; exact hown', (HB.out.alloc hsz _).grown hgrow (by simp; omega) (fun b e => (HO.out.lt b e).1)⟩
        clear hown' hgrow HO HB
        go_wp2
        go_roundw
        case rel => exact ⟨k + 1, by omega, by go_num, HX.out⟩
        case measure => simp [intOf]; omega
    · have e : k = n := by omega
      subst e
      go_wp2
      go_ret
      obtain ⟨a, c, rfl, h1, h2, h3⟩ := ownB_ofOwns (f := fun _ => 0) hown (fun i hi => by simp [hi])
      exact ⟨a, c, rfl, h1, hbel, h2, h3⟩

theorem zeros_cat (x : Int) (n : Nat) (w : World) (hx : x = (n : Int)) (hn : n ≤ 1048576) :
    Calls Try.prog 41 #[.int .i64 x] w fun e w' => ∃ a c, e = .returned (.slice a n c) ∧ OwnB w' w.heap.size a n (fun _ => 0) ∧ Below w.heap.size w w' ∧ n ≤ c ∧ c ≤ 9223372036854775807 := by
  subst hx
  exact zeros_c n w hn

set_option maxHeartbeats 400000 in
theorem specNew_c (n : Nat) (w : World) (h1 : 16 ≤ n) (h2 : n ≤ 1024) :
    Calls Try.prog 59 #[.int .i64 n] w fun e w' => ∃ a c, e = .returned (.agg #[.slice a (n * 64) c, .slice none 0 0, .int .i64 (-1), .bool false]) ∧ OwnB w' w.heap.size a (n * 64) (fun _ => 0) ∧ Below w.heap.size w w' ∧ n * 64 ≤ c ∧ c ≤ 9223372036854775807 := by
  have hlo : ¬ (n : Int) < 16 := by omega
  have hhi : ¬ (1024 : Int) < (n : Int) := by omega
  go_enter Try.func59, Try.ntmps59
  go_wp2_with fail
  refine (zeros_cat _ (n * 64) _ (by omega) (by omega)).mono ?_
  rintro e w1 ⟨a, c, rfl, ho, hb, hc1, hc2⟩
  have HO : Hid (OwnB w1 w.heap.size a (n * 64) (fun _ => 0)) := ho.mono (by simp)
  have hz : w.heap.size < w1.heap.size := by have := hb.size; simp at this; omega
  have HB : Hid (Below w.heap.size w w1) := ((Below.refl _ _).alloc (Nat.le_refl _) _).trans (hb.mono (by simp))
  obtain ⟨hc, hf⟩ := bcell hb
  have HO1 : Hid (OwnB w1 (w.heap.size + 1) a (n * 64) (fun _ => 0)) := ho.mono (by simp)
  clear ho hb
  go_wp2
  refine bodyPost_ret (v := .agg #[.slice a (n * 64) c, .slice none 0 0, .int .i64 (-1), .bool false]) (by simp [results, Try.results59, go_sem, hc]) rfl ⟨a, c, rfl, ?_, ?_, hc1, hc2⟩
  · exact ((((HO1.out.setOther (by simp) _).setOther (by simp) _).setOther (by simp) _).setOther (by simp) _).mono (by omega)
  · exact (((HB.out.setCell (by simp) _).setCell (by simp) _).setCell (by simp) _).setCell (by simp) _

theorem specNew_cat (y : Int) (n : Nat) (w : World) (hy : y = (n : Int)) (h1 : 16 ≤ n) (h2 : n ≤ 1024) :
    Calls Try.prog 59 #[.int .i64 y] w fun e w' => ∃ a c, e = .returned (.agg #[.slice a (n * 64) c, .slice none 0 0, .int .i64 (-1), .bool false]) ∧ OwnB w' w.heap.size a (n * 64) (fun _ => 0) ∧ Below w.heap.size w w' ∧ n * 64 ≤ c ∧ c ≤ 9223372036854775807 := by
  subst hy
  exact specNew_c n w h1 h2
end Go.Proofs.Ytlcamfkgkcjehaa

namespace Go.Proofs.Ytlcamfkgkcjehaa
open Go.RowKit Go.Deep
set_option linter.unusedVariables false
set_option maxRecDepth 100000

/-- What l1Disk's variables are between two statements. -/
structure QSt (w W : World) (g : Nat) (b : Option Addr) (n c : Nat) (f : Nat → Int) (bx nn : Nat) (t : Stt) : Prop where
  cur : DrwL W w.heap.size g b n c f
  box : ∃ a c' p q A, DkRow W bx (.slice a nn c') (.slice p t.m q) t.fuel t.dead ∧ OwnQ W w.heap.size a nn c' t.d p t.m q t.S t.L t.F A
  ok : t.ok nn
  res : DkRow W w.heap.size (.slice none 0 0) (.slice none 0 0) 0 false
  bel : BelC w.heap.size g w W
  lt : w.heap.size < bx

theorem QSt.move {w W W' : World} {g : Nat} {b : Option Addr} {n c : Nat} {f : Nat → Int} {bx nn : Nat} {t : Stt} (h : QSt w W g b n c f bx nn t) (hb : BelC W.heap.size g W W') (hd : Drw W' g b n c f) : QSt w W' g b n c f bx nn t := by
  obtain ⟨h1, ⟨a, c', p, q, A, h2, h3⟩, h4, h5, h6, h7⟩ := h
  have hg := h1.cur
  have hz : w.heap.size < W.heap.size := rowIn.lt h5
  exact ⟨⟨hd, hg, h1.bytes⟩, ⟨a, c', p, q, A, rowIn.belC h2 (by omega) hb, h3.belC hg hb⟩, h4, rowIn.belC h5 (by omega) hb, h6.trans (hb.mono (by omega)), h7⟩

theorem QSt.next {w W w4 : World} {g : Nat} {b : Option Addr} {n c : Nat} {f : Nat → Int} {bx nn c' q : Nat} {t t2 : Stt} {a p : Option Addr} {A : Nat → Option Addr} (h : QSt w W g b n c f bx nn t) (hb : Below W.heap.size W w4) (ho : OwnQ w4 W.heap.size a nn c' t2.d p t2.m q t2.S t2.L t2.F A) (hk : t2.ok nn) :
    QSt w ((((w4.setCell ⟨bx, 0, none⟩ (.slice a nn c')).setCell ⟨bx, 1, none⟩ (.slice p t2.m q)).setCell ⟨bx, 2, none⟩ (.int .i64 t2.fuel)).setCell ⟨bx, 3, none⟩ (.bool t2.dead)) g b n c f bx nn t2 := by
  obtain ⟨h1, ⟨a0, c0, p0, q0, A0, h2, h3⟩, h4, h5, h6, h7⟩ := h
  have hg := h1.cur
  have hz : w.heap.size < W.heap.size := rowIn.lt h5
  have hl2 : bx < W.heap.size := rowIn.lt h2
  have hbT : Below (w.heap.size + 1) W w4 := hb.mono (by omega)
  have hs : Below (w.heap.size + 1) W ((((w4.setCell ⟨bx, 0, none⟩ (.slice a nn c')).setCell ⟨bx, 1, none⟩ (.slice p t2.m q)).setCell ⟨bx, 2, none⟩ (.int .i64 t2.fuel)).setCell ⟨bx, 3, none⟩ (.bool t2.dead)) :=
    (((hbT.setCell (by show w.heap.size + 1 ≤ bx; omega) _).setCell (by show w.heap.size + 1 ≤ bx; omega) _).setCell (by show w.heap.size + 1 ≤ bx; omega) _).setCell (by show w.heap.size + 1 ≤ bx; omega) _
  refine ⟨h1.below (hs.mono (by omega)), ⟨a, c', p, q, A, dk_set4 (h2.below hb), ?_⟩, hk, rowIn.of_block h5 (hs.block w.heap.size (by omega)), h6.trans (BelC.ofBelow hs (by omega)), h7⟩
  exact ((((ho.setOther (x := ⟨bx, 0, none⟩) hl2 _).setOther (x := ⟨bx, 1, none⟩) hl2 _).setOther (x := ⟨bx, 2, none⟩) hl2 _).setOther (x := ⟨bx, 3, none⟩) hl2 _).mono (by omega)

/-- New blocks may be written over. -/
theorem S10mkQ {w wr W W' : World} {g : Nat} {b : Option Addr} {n c : Nat} {f : Nat → Int} {bx nn : Nat} {t : Stt} (h : QSt w wr g b n c f bx nn t) (k : QSt w W g b n c f bx nn t) (hb : Below wr.heap.size W W') (hc : BelC wr.heap.size g wr W) : QSt w W' g b n c f bx nn t := by
  have hz : w.heap.size < wr.heap.size := rowIn.lt h.res
  exact h.move (hc.trans (BelC.ofBelow hb (Nat.le_refl _))) (k.cur.below (hb.mono (by omega))).drw

/-- What l1Disk hands back. -/
def RetDrQ (w : World) (g : Nat) (b : Option Addr) (n c : Nat) (f : Nat → Int) (e : Ending) (w' : World) : Prop :=
  ∃ (nn : Nat) (t : Stt) (a p : Option Addr) (c' q : Nat) (A : Nat → Option Addr), e = .returned (.agg #[.slice a nn c', .slice p t.m q, .int .i64 t.fuel, .bool t.dead]) ∧ OwnQ w' w.heap.size a nn c' t.d p t.m q t.S t.L t.F A ∧ t.ok nn ∧ Drw w' g b n c f ∧ BelC w.heap.size g w w'

set_option maxHeartbeats 400000 in
theorem l1Disk_q (g : Nat) (b : Option Addr) (n c : Nat) (f : Nat → Int) (w : World) (h : Drw w g b n c f) :
    Calls Try.prog 56 #[.pointer (some ⟨g, 0, none⟩)] w (RetDrQ w g b n c f) := by
  have HW : Hid (DrwL w w.heap.size g b n c f) := DrwL.of h
  clear h
  go_enter Try.func56, Try.ntmps56
  go_wp2_with fail
  refine (l1Below_any g b n c f 4 _ (HW.out.drw.below (below_alloc _ _)) (by omega) (by omega)).mono ?_
  rintro e w1 ⟨x, rfl, hx0, hx1, hd1, ho1⟩
  have z1 : w1.heap.size = w.heap.size + 1 := by rw [ho1.size]; simp
  have hgl := HW.out.cur
  have R1 : Hid (DkRow w1 w.heap.size (.slice none 0 0) (.slice none 0 0) 0 false) := rowIn.of_block (rowInNew w _ _ _ _) (ho1.block w.heap.size (fun y e => by injection e with e; subst e; show g ≠ w.heap.size; omega))
  have B1 : Hid (BelC w.heap.size g w w1) := (BelC.ofBelow (below_alloc _ _) (Nat.le_refl _)).trans (BelC.ofOnly ho1)
  have D1 : Hid (Drw w1 g b n c f) := hd1
  have e1 : IntKind.i64.wrap (16 + x) = 16 + x := by rw [IntKind.wrap_i64]; omega
  clear hd1 ho1
  obtain ⟨N, hN⟩ : ∃ N : Nat, (16 + x) = (N : Int) := Int.eq_ofNat_of_zero_le (by omega)
  have HNN : Hid ((16 + x) = (N : Int)) := hN
  have HN16 : Hid (16 ≤ N ∧ N ≤ 20) := ⟨by omega, by omega⟩
  clear hN
  go_wp2_with fail
  refine (specNew_cat (16 + x) N w1 HNN.out HN16.out.1 (by have := HN16.out; omega)).mono ?_
  rintro e w2 ⟨a2, c2, rfl, ho2, hb2, hcp2⟩
  have z2 := hb2.size
  have S3 : Hid (QSt w (w2.alloc (.cells #[.slice a2 (N * 64) c2, .slice none 0 0, .int .i64 (-1), .bool false] 25)) g b n c f w2.heap.size (N * 64) ⟨fun _ => 0, 0, fun _ => 0, fun _ => 0, fun _ _ => 0, -1, false⟩) := by
    have hb3 : Below w1.heap.size w1 (w2.alloc (.cells #[.slice a2 (N * 64) c2, .slice none 0 0, .int .i64 (-1), .bool false] 25)) := hb2.alloc z2 _
    refine ⟨⟨D1.out.below hb3, hgl, HW.out.bytes⟩, ⟨a2, c2, none, 0, fun _ => none, rowInNew _ _ _ _ _, ⟨(ho2.mono (by omega)).below (below_alloc _ _), ⟨_, Gath.start _ _ _ _ _⟩, fun _ i hi => absurd hi (Nat.not_lt_zero _), hcp2⟩⟩, ?_, rowIn.below R1.out hb3, B1.out.trans (BelC.ofBelow hb3 (by omega)), by omega⟩
    refine ⟨?_, fun i hi => absurd hi (Nat.not_lt_zero _)⟩
    have := HN16.out
    show VH (N * 64) 0 (-1)
    unfold VH
    omega
  clear ho2 hb2 R1 B1 D1 hcp2
  obtain ⟨W3, hW3⟩ : ∃ W3, W3 = w2.alloc (.cells #[.slice a2 (N * 64) c2, .slice none 0 0, .int .i64 (-1), .bool false] 25) := ⟨_, rfl⟩
  rw [← hW3] at S3
  obtain ⟨bx, hbx⟩ : ∃ bx, bx = w2.heap.size := ⟨_, rfl⟩
  rw [← hbx] at S3
  go_wp2_with fail
  rw [← hW3, ← hbx]
  clear hW3 hbx
  refine (l1Below_any g b n c f 7 W3 S3.out.cur.drw (by omega) (by omega)).mono ?_
  rintro e w4 ⟨y, rfl, hy0, hy1, hd4, ho4⟩
  have S4 : Hid (QSt w w4 g b n c f bx (N * 64) ⟨fun _ => 0, 0, fun _ => 0, fun _ => 0, fun _ _ => 0, -1, false⟩) := S3.out.move (BelC.ofOnly ho4) hd4
  clear S3 hd4 ho4
  go_wp2
  go_loopw [5, 6, 7, 8, 9] (fun i _ _ _ _ wr => ∃ (j : Nat) (t : Stt), (j : Int) ≤ y ∧ i = .int .i64 j ∧ QSt w wr g b n c f bx (N * 64) t ∧ t.live j) (fun i _ _ _ _ _ => (y - intOf i).toNat)
  case atStart => exact ⟨0, _, by omega, rfl, S4.out, rfl, rfl, Nat.le_refl _⟩
  case round =>
    obtain ⟨j, t, hj, rfl, hst, hlv⟩ := hrel
    have HLV : Hid (t.live j) := hlv
    clear hlv
    have SR : Hid (QSt w wr g b n c f bx (N * 64) t) := hst
    have hN4 : 16 ≤ N ∧ N ≤ 20 := HN16.out
    clear hst
    by_cases hlt : (j : Int) < y
    · obtain ⟨a0, c0, p0, q0, A0, hrow, -⟩ := SR.out.box
      obtain ⟨x0, x1, x2, x3, xf, xl⟩ := hrow.cells
      have hres : w.heap.size < wr.heap.size := rowIn.lt SR.out.res
      clear hrow
      go_wp2_with fail
      refine (l1Sectors_any a0 p0 (N * 64) c0 t.m q0 t.fuel t.dead wr (by omega)).mono ?_
      rintro e w5 ⟨rfl, hb5⟩
      have z5 := hb5.size
      have B5 : Hid (BelC wr.heap.size g wr w5) := BelC.ofBelow hb5 (Nat.le_refl _)
      have D5 : Hid (Drw w5 g b n c f) := SR.out.cur.drw.below hb5
      have es : ((N * 64 : Nat) : Int) / 64 = (N : Int) := by omega
      rw [es]
      clear hb5 x0 x1 x2 x3 xf es
      go_wp2_with fail
      refine (l1Below_any g b n c f (N : Int) w5 D5.out (by omega) (by omega)).mono ?_
      rintro e w6 ⟨s, rfl, s0, s1, hd6, ho6⟩
      have z6 : w6.heap.size = w5.heap.size := ho6.size
      have B6 : Hid (BelC wr.heap.size g wr w6) := B5.out.trans (BelC.ofOnly ho6)
      have D6 : Hid (Drw w6 g b n c f) := hd6
      clear hd6 ho6 B5 D5
      go_wp2_with fail
      refine (zeros_at 64 64 w6 (by rfl) (by omega)).mono ?_
      rintro e w7 ⟨a7, c7, rfl, ho7, hb7⟩
      rcases ho7 with h0 | ⟨gd, rfl, hgd, hr7⟩
      · exact absurd h0 (by decide)
      have z7 := hb7.size
      have B7 : Hid (BelC wr.heap.size g wr w7) := B6.out.trans (BelC.ofBelow hb7 (by omega))
      have D7 : Hid (Drw w7 g b n c f) := D6.out.below hb7
      have R7 : Hid (rowIn w7 gd 5 64 (fun i => .int .u8 0)) := hr7
      have hgl := SR.out.cur.cur
      have hbxl : w.heap.size < bx := SR.out.lt
      clear hr7 hb7 B6 D6
      go_wp2_with fail
      refine (l1Below_any g b n c f 64 w7 D7.out (by omega) (by omega)).mono ?_
      rintro e w8 ⟨k, rfl, k0, k1, hd8, ho8⟩
      have z8 : w8.heap.size = w7.heap.size := ho8.size
      have B8 : Hid (BelC wr.heap.size g wr w8) := B7.out.trans (BelC.ofOnly ho8)
      have D8 : Hid (Drw w8 g b n c f) := hd8
      have R8 : Hid (rowIn w8 gd 5 64 (fun i => .int .u8 0)) := R7.out.of_block (ho8.block gd (fun y e => by injection e with e; subst e; show g ≠ gd; omega))
      clear hd8 ho8 B7 D7 R7
      go_wp2_with fail
      refine (D8.out.byte).mono ?_
      rintro e w9 ⟨xb, rfl, xb0, xb1, hd9, ho9⟩
      have z9 : w9.heap.size = w8.heap.size := ho9.size
      have S9 : Hid (QSt w w9 g b n c f bx (N * 64) t) := SR.out.move (B8.out.trans (BelC.ofOnly ho9)) hd9
      have R9 : Hid (rowIn w9 gd 5 64 (fun i => .int .u8 0)) := R8.out.of_block (ho9.block gd (fun y e => by injection e with e; subst e; show g ≠ gd; omega))
      have B9 : Hid (BelC wr.heap.size g wr w9) := B8.out.trans (BelC.ofOnly ho9)
      clear hd9 ho9 B8 D8 R8
      have hne1 : ¬ gd = bx := by obtain ⟨_, _, _, _, _, hh, _⟩ := SR.out.box; have := rowIn.lt hh; omega
      have hne2 : ¬ bx = gd := fun e => hne1 e.symm
      have hc9 : w9.cell? ⟨gd, k.toNat, none⟩ = some (.int .u8 0) := R9.out.cell (by omega)
      have hf9 : ∀ o, w9.frozen? ⟨gd, o, none⟩ = false := fun o => R9.out.frozen o
      have wx : IntKind.u8.wrap xb = xb := by rw [IntKind.wrap_u8]; omega
      have wj : IntKind.u8.wrap (j : Int) = (j : Int) := by rw [IntKind.wrap_u8]; omega
      go_upto_region 11 with fail
      obtain ⟨Wa, hWa⟩ : ∃ Wa, Wa = w9.setCell ⟨gd, k.toNat, none⟩ (.int .u8 xb) := ⟨_, rfl⟩
      rw [← hWa]
      have Ra : Hid (rowIn Wa gd 5 64 (fun i => if i = k.toNat then .int .u8 xb else .int .u8 0)) := by
        show rowIn _ _ _ _ _
        rw [hWa]
        exact R9.out.set k.toNat _
      have Ba : Hid (Below wr.heap.size w9 Wa) := by
        show Below _ _ _
        rw [hWa]
        exact (Below.refl _ _).setCell (by show wr.heap.size ≤ gd; omega) _
      obtain ⟨z63, hz63⟩ : ∃ z63 : Int, Wa.cell? ⟨gd, 63, none⟩ = some (.int .u8 z63) := by
        have := Ra.out.cell (i := 63) (by omega)
        by_cases e : 63 = k.toNat
        · exact ⟨xb, by rw [this]; simp only [if_pos e]⟩
        · exact ⟨0, by rw [this]; simp only [if_neg e]⟩
      have hfa : ∀ o, Wa.frozen? ⟨gd, o, none⟩ = false := fun o => Ra.out.frozen o
      clear hWa hc9 hf9
      go_upto_region 12 with fail
      obtain ⟨Wb, hWb⟩ : ∃ Wb, Wb = Wa.setCell ⟨gd, 63, none⟩ (.int .u8 (j : Int)) := ⟨_, rfl⟩
      rw [← hWb]
      have RD : Hid (Rd .u8 Wb (some ⟨gd, 0, none⟩) 64 (fun i => if i = 63 then (j : Int) else if i = k.toNat then xb else 0)) := by
        show Rd _ _ _ _ _
        rw [hWb]
        have r2 := Ra.out.set 63 (.int .u8 (j : Int))
        refine Or.inr ⟨gd, 0, rfl, fun i hi => ?_⟩
        have r3 := r2.cell (i := i) hi
        rw [Nat.zero_add, r3]
        by_cases e1 : i = 63
        · simp only [if_pos e1]
        · by_cases e2 : i = k.toNat
          · simp only [if_neg e1, if_pos e2]
          · simp only [if_neg e1, if_neg e2]
      have S10 : Hid (QSt w Wb g b n c f bx (N * 64) t) := by
        have hb : Below wr.heap.size w9 Wb := by
          rw [hWb]
          exact Ba.out.setCell (by show wr.heap.size ≤ gd; omega) _
        exact S10mkQ SR.out S9.out hb B9.out
      clear hWb hz63 hfa Ra Ba R9
      obtain ⟨a1, c1, p1, q1, A1, hrow, hown⟩ := S10.out.box
      have HR10 : Hid (Rd .u8 Wb a1 (N * 64) t.d ∧ RdP Wb p1 t.m t.S t.L t.F ∧ DkRow Wb bx (.slice a1 (N * 64) c1) (.slice p1 t.m q1) t.fuel t.dead) := ⟨hown.data.rd, hown.own.cache.rd, hrow⟩
      obtain ⟨x0, x1, x2, x3, xf, xl⟩ := hrow.cells
      clear hrow hown
      go_wp2_with fail
      refine (specW_q t a1 p1 (some ⟨gd, 0, none⟩) (N * 64) c1 q1 c7 s (fun i => if i = 63 then (j : Int) else if i = k.toNat then xb else 0) Wb HR10.out.1 HR10.out.2.1 RD.out SR.out.ok s0 (by omega) j HLV.out (by omega)).mono ?_
      rintro e w11 ⟨a9, c9, p9, q9, A9, rfl, ho9, hb9⟩
      obtain ⟨y0, y1, y2, y3, yf, yl⟩ := (HR10.out.2.2.below hb9).cells
      obtain ⟨t1, ht1⟩ : ∃ t1, t1 = t.push s (fun i => if i = 63 then (j : Int) else if i = k.toNat then xb else 0) := ⟨_, rfl⟩
      have hok1 : t1.ok (N * 64) := by rw [ht1, ← (HLV.out.write (by omega) _ _).1]; exact SR.out.ok.write _ s0 (by omega)
      have HL1 : Hid (t1.live (j + 1)) := by show Stt.live _ _; rw [ht1]; exact (HLV.out.write (by omega) _ _).2
      rw [← ht1] at ho9 ⊢
      have S11 : Hid (QSt w ((((w11.setCell ⟨bx, 0, none⟩ (.slice a9 (N * 64) c9)).setCell ⟨bx, 1, none⟩ (.slice p9 t1.m q9)).setCell ⟨bx, 2, none⟩ (.int .i64 t1.fuel)).setCell ⟨bx, 3, none⟩ (.bool t1.dead)) g b n c f bx (N * 64) t1) := S10.out.next hb9 ho9 hok1
      clear ho9 hb9 ht1 hok1 x0 x1 x2 x3 xf xl S10 S9 HR10 RD
      go_upto_region 13 with fail
      obtain ⟨Wc, hWc⟩ : ∃ Wc, Wc = ((((w11.setCell ⟨bx, 0, none⟩ (.slice a9 (N * 64) c9)).setCell ⟨bx, 1, none⟩ (.slice p9 t1.m q9)).setCell ⟨bx, 2, none⟩ (.int .i64 t1.fuel)).setCell ⟨bx, 3, none⟩ (.bool t1.dead)) := ⟨_, rfl⟩
      rw [← hWc] at S11 ⊢
      clear hWc y0 y1 y2 y3 yf yl
      go_wp2_with fail
      refine (l1Once_any g b n c f 4 Wc S11.out.cur.drw (by omega) (by omega)).mono ?_
      rintro e w12 ⟨o, rfl, hd12, ho12⟩
      have S12 : Hid (QSt w w12 g b n c f bx (N * 64) t1) := S11.out.move (BelC.ofOnly ho12) hd12
      clear hd12 ho12 S11
      cases o with
      | false =>
        go_wp2
        go_roundw
        case rel => exact ⟨j + 1, t1, by omega, by go_num, S12.out, HL1.out⟩
        case measure => simp [intOf]; omega
      | true =>
        obtain ⟨a1, c1, p1, q1, A1, hrow, hown⟩ := S12.out.box
        have HR12 : Hid (Rd .u8 w12 a1 (N * 64) t1.d ∧ RdP w12 p1 t1.m t1.S t1.L t1.F ∧ DkRow w12 bx (.slice a1 (N * 64) c1) (.slice p1 t1.m q1) t1.fuel t1.dead) := ⟨hown.data.rd, hown.own.cache.rd, hrow⟩
        obtain ⟨x0, x1, x2, x3, xf, xl⟩ := hrow.cells
        clear hrow hown
        go_wp2_with fail
        refine (specY_q t1 a1 p1 (N * 64) c1 q1 w12 HR12.out.1 HR12.out.2.1 S12.out.ok (j + 1) HL1.out).mono ?_
        rintro e w13 ⟨a9, c9, p9, q9, A9, rfl, ho9, hb9⟩
        obtain ⟨y0, y1, y2, y3, yf, yl⟩ := (HR12.out.2.2.below hb9).cells
        have S13 : Hid (QSt w ((((w13.setCell ⟨bx, 0, none⟩ (.slice a9 (N * 64) c9)).setCell ⟨bx, 1, none⟩ (.slice p9 t1.flush.m q9)).setCell ⟨bx, 2, none⟩ (.int .i64 t1.flush.fuel)).setCell ⟨bx, 3, none⟩ (.bool t1.flush.dead)) g b n c f bx (N * 64) t1.flush) := S12.out.next hb9 ho9 (by rw [← HL1.out.sync.1]; exact S12.out.ok.sync)
        clear ho9 hb9 x0 x1 x2 x3 xf xl S12 HR12
        go_wp2
        go_roundw
        case rel => exact ⟨j + 1, t1.flush, by omega, by go_num, S13.out, HL1.out.sync.2⟩
        case measure => simp [intOf]; omega
    · have SE : Hid (QSt w wr g b n c f bx (N * 64) t) := SR.out
      clear SR S4
      go_upto_region 15 with fail
      go_wp2_with fail
      refine (l1Below_any g b n c f 8 wr SE.out.cur.drw (by omega) (by omega)).mono ?_
      rintro e w5 ⟨kk, rfl, kk0, kk1, hd5, ho5⟩
      have S5 : Hid (QSt w w5 g b n c f bx (N * 64) t) := SE.out.move (BelC.ofOnly ho5) hd5
      clear hd5 ho5 SE
      obtain ⟨a1, c1, p1, q1, A1, hrow, hown⟩ := S5.out.box
      have HB5 : Hid (DkRow w5 bx (.slice a1 (N * 64) c1) (.slice p1 t.m q1) t.fuel t.dead ∧ OwnQ w5 w.heap.size a1 (N * 64) c1 t.d p1 t.m q1 t.S t.L t.F A1) := ⟨hrow, hown⟩
      obtain ⟨x0, x1, x2, x3, xf, xl⟩ := hrow.cells
      have hbl := S5.out.lt
      clear hrow hown
      by_cases h3 : kk < 3
      · have h33 : ¬ kk = 3 := by omega
        have h34 : (kk == 3) = false := by simp; omega
        have HS6 : Hid (QSt w (w5.setCell ⟨bx, 2, none⟩ (.int .i64 kk)) g b n c f bx (N * 64) ⟨t.d, t.m, t.S, t.L, t.F, kk, t.dead⟩) := by
          have ho : OnlyAt (some ⟨bx, 0, none⟩) w5 (w5.setCell ⟨bx, 2, none⟩ (.int .i64 kk)) := (OnlyAt.refl _ _).setCell 2 _
          have hlo : Below (w.heap.size + 1) w5 (w5.setCell ⟨bx, 2, none⟩ (.int .i64 kk)) := (Below.refl _ _).setCell (by show w.heap.size + 1 ≤ bx; omega) _
          refine ⟨S5.out.cur.below (hlo.mono (by omega)), ⟨a1, c1, p1, q1, A1, ?_, HB5.out.2.onlyDk HB5.out.1 ho⟩, ?_, rowIn.of_block S5.out.res (hlo.block _ (by omega)), S5.out.bel.trans (BelC.ofBelow hlo (by omega)), hbl⟩
          · exact (rowIn.set HB5.out.1 2 _).congr (fun i hi => by match i, hi with
              | 0, _ => rfl
              | 1, _ => rfl
              | 2, _ => rfl
              | 3, _ => rfl)
          · refine ⟨?_, S5.out.ok.2⟩
            have := S5.out.ok.1
            unfold VH at this ⊢
            dsimp only
            omega
        clear HB5
        go_upto_region 18 with fail
        obtain ⟨W6, hW6⟩ : ∃ W6, W6 = w5.setCell ⟨bx, 2, none⟩ (.int .i64 kk) := ⟨_, rfl⟩
        rw [← hW6] at HS6 ⊢
        clear hW6 x0 x1 x2 x3 xf xl
        have HR : Hid (QSt w W6 g b n c f bx (N * 64) (Stt.mk t.d t.m t.S t.L t.F kk t.dead)) := HS6.out
        obtain ⟨ar, cr, pr, qr, Ar, hrow, hown⟩ := HR.out.box
        obtain ⟨x0, x1, x2, x3, xf, xl⟩ := hrow.cells
        obtain ⟨y0, y1, y2, y3, yf, yl⟩ := HR.out.res.cells
        have HO : Hid (OwnQ W6 w.heap.size ar (N * 64) cr (Stt.mk t.d t.m t.S t.L t.F kk t.dead).d pr (Stt.mk t.d t.m t.S t.L t.F kk t.dead).m qr (Stt.mk t.d t.m t.S t.L t.F kk t.dead).S (Stt.mk t.d t.m t.S t.L t.F kk t.dead).L (Stt.mk t.d t.m t.S t.L t.F kk t.dead).F Ar) := hown
        clear hrow hown
        go_wp2
        refine bodyPost_ret (v := .agg #[.slice ar (N * 64) cr, .slice pr (Stt.mk t.d t.m t.S t.L t.F kk t.dead).m qr, .int .i64 (Stt.mk t.d t.m t.S t.L t.F kk t.dead).fuel, .bool (Stt.mk t.d t.m t.S t.L t.F kk t.dead).dead]) (by simp [results, Try.results56, go_sem, y0, y1, y2, y3]) rfl ⟨N * 64, (Stt.mk t.d t.m t.S t.L t.F kk t.dead), ar, pr, cr, qr, Ar, rfl, ?_, HR.out.ok, ?_, ?_⟩
        · exact HO.out.onlyDk HR.out.res (((((OnlyAt.refl _ _).setCell 0 _).setCell 1 _).setCell 2 _).setCell 3 _)
        · exact (HR.out.cur.below (((((Below.refl _ _).setCell (by show w.heap.size ≤ w.heap.size; omega) _).setCell (by show w.heap.size ≤ w.heap.size; omega) _).setCell (by show w.heap.size ≤ w.heap.size; omega) _).setCell (by show w.heap.size ≤ w.heap.size; omega) _)).drw
        · exact ((((HR.out.bel.setCell (by show w.heap.size ≤ w.heap.size; omega) _).setCell (by show w.heap.size ≤ w.heap.size; omega) _).setCell (by show w.heap.size ≤ w.heap.size; omega) _).setCell (by show w.heap.size ≤ w.heap.size; omega) _)
      · by_cases h33 : kk = 3
        · have h34 : (kk == 3) = true := by simp; omega
          have HS6 : Hid (QSt w (w5.setCell ⟨bx, 3, none⟩ (.bool true)) g b n c f bx (N * 64) ⟨t.d, t.m, t.S, t.L, t.F, t.fuel, true⟩) := by
            have ho : OnlyAt (some ⟨bx, 0, none⟩) w5 (w5.setCell ⟨bx, 3, none⟩ (.bool true)) := (OnlyAt.refl _ _).setCell 3 _
            have hlo : Below (w.heap.size + 1) w5 (w5.setCell ⟨bx, 3, none⟩ (.bool true)) := (Below.refl _ _).setCell (by show w.heap.size + 1 ≤ bx; omega) _
            refine ⟨S5.out.cur.below (hlo.mono (by omega)), ⟨a1, c1, p1, q1, A1, ?_, HB5.out.2.onlyDk HB5.out.1 ho⟩, S5.out.ok, rowIn.of_block S5.out.res (hlo.block _ (by omega)), S5.out.bel.trans (BelC.ofBelow hlo (by omega)), hbl⟩
            exact (rowIn.set HB5.out.1 3 _).congr (fun i hi => by match i, hi with
              | 0, _ => rfl
              | 1, _ => rfl
              | 2, _ => rfl
              | 3, _ => rfl)
          clear HB5
          go_upto_region 20 with fail
          obtain ⟨W6, hW6⟩ : ∃ W6, W6 = w5.setCell ⟨bx, 3, none⟩ (.bool true) := ⟨_, rfl⟩
          rw [← hW6] at HS6 ⊢
          clear hW6 x0 x1 x2 x3 xf xl
          have HR : Hid (QSt w W6 g b n c f bx (N * 64) (Stt.mk t.d t.m t.S t.L t.F t.fuel true)) := HS6.out
          obtain ⟨ar, cr, pr, qr, Ar, hrow, hown⟩ := HR.out.box
          obtain ⟨x0, x1, x2, x3, xf, xl⟩ := hrow.cells
          obtain ⟨y0, y1, y2, y3, yf, yl⟩ := HR.out.res.cells
          have HO : Hid (OwnQ W6 w.heap.size ar (N * 64) cr (Stt.mk t.d t.m t.S t.L t.F t.fuel true).d pr (Stt.mk t.d t.m t.S t.L t.F t.fuel true).m qr (Stt.mk t.d t.m t.S t.L t.F t.fuel true).S (Stt.mk t.d t.m t.S t.L t.F t.fuel true).L (Stt.mk t.d t.m t.S t.L t.F t.fuel true).F Ar) := hown
          clear hrow hown
          go_wp2
          refine bodyPost_ret (v := .agg #[.slice ar (N * 64) cr, .slice pr (Stt.mk t.d t.m t.S t.L t.F t.fuel true).m qr, .int .i64 (Stt.mk t.d t.m t.S t.L t.F t.fuel true).fuel, .bool (Stt.mk t.d t.m t.S t.L t.F t.fuel true).dead]) (by simp [results, Try.results56, go_sem, y0, y1, y2, y3]) rfl ⟨N * 64, (Stt.mk t.d t.m t.S t.L t.F t.fuel true), ar, pr, cr, qr, Ar, rfl, ?_, HR.out.ok, ?_, ?_⟩
          · exact HO.out.onlyDk HR.out.res (((((OnlyAt.refl _ _).setCell 0 _).setCell 1 _).setCell 2 _).setCell 3 _)
          · exact (HR.out.cur.below (((((Below.refl _ _).setCell (by show w.heap.size ≤ w.heap.size; omega) _).setCell (by show w.heap.size ≤ w.heap.size; omega) _).setCell (by show w.heap.size ≤ w.heap.size; omega) _).setCell (by show w.heap.size ≤ w.heap.size; omega) _)).drw
          · exact ((((HR.out.bel.setCell (by show w.heap.size ≤ w.heap.size; omega) _).setCell (by show w.heap.size ≤ w.heap.size; omega) _).setCell (by show w.heap.size ≤ w.heap.size; omega) _).setCell (by show w.heap.size ≤ w.heap.size; omega) _)
        · have h34 : (kk == 3) = false := by simp; omega
          clear HB5 x0 x1 x2 x3 xf xl
          have HR : Hid (QSt w w5 g b n c f bx (N * 64) t) := S5.out
          obtain ⟨ar, cr, pr, qr, Ar, hrow, hown⟩ := HR.out.box
          obtain ⟨x0, x1, x2, x3, xf, xl⟩ := hrow.cells
          obtain ⟨y0, y1, y2, y3, yf, yl⟩ := HR.out.res.cells
          have HO : Hid (OwnQ w5 w.heap.size ar (N * 64) cr t.d pr t.m qr t.S t.L t.F Ar) := hown
          clear hrow hown
          go_wp2
          refine bodyPost_ret (v := .agg #[.slice ar (N * 64) cr, .slice pr t.m qr, .int .i64 t.fuel, .bool t.dead]) (by simp [results, Try.results56, go_sem, y0, y1, y2, y3]) rfl ⟨N * 64, t, ar, pr, cr, qr, Ar, rfl, ?_, HR.out.ok, ?_, ?_⟩
          · exact HO.out.onlyDk HR.out.res (((((OnlyAt.refl _ _).setCell 0 _).setCell 1 _).setCell 2 _).setCell 3 _)
          · exact (HR.out.cur.below (((((Below.refl _ _).setCell (by show w.heap.size ≤ w.heap.size; omega) _).setCell (by show w.heap.size ≤ w.heap.size; omega) _).setCell (by show w.heap.size ≤ w.heap.size; omega) _).setCell (by show w.heap.size ≤ w.heap.size; omega) _)).drw
          · exact ((((HR.out.bel.setCell (by show w.heap.size ≤ w.heap.size; omega) _).setCell (by show w.heap.size ≤ w.heap.size; omega) _).setCell (by show w.heap.size ≤ w.heap.size; omega) _).setCell (by show w.heap.size ≤ w.heap.size; omega) _)
end Go.Proofs.Ytlcamfkgkcjehaa
