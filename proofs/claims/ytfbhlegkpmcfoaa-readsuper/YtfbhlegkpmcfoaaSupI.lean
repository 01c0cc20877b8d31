import Derived.Test.YtfbhlegkpmcfoaaSupR
namespace Go.Proofs.Ytfbhlegkpmcfoaa
open Go.RowKit Go.Deep
set_option linter.unusedVariables false
set_option maxRecDepth 100000

theorem ret4' {fn : Func} {p : Tmp} (h : fn.results = #[.cell p 36]) (tmps : Array Value) (w : World) (g : Nat) (hp : tmps.getD p undef = .pointer (some ⟨g, 0, none⟩)) {u0 u1 u2 u3 v0 v1 v2 v3 : Value} (hb : w.heap[g]? = some (.cells #[u0, u1, u2, u3] 36 (0, 0))) :
    (results fn tmps).run Try.prog ((((w.setCell ⟨g, 0, none⟩ v0).setCell ⟨g, 1, none⟩ v1).setCell ⟨g, 2, none⟩ v2).setCell ⟨g, 3, none⟩ v3) = .ok (.agg #[v0, v1, v2, v3]) ((((w.setCell ⟨g, 0, none⟩ v0).setCell ⟨g, 1, none⟩ v1).setCell ⟨g, 2, none⟩ v2).setCell ⟨g, 3, none⟩ v3) := by
  refine results_cell_row h tmps _ g 36 #[v0, v1, v2, v3] (0, 0) (.struct (Try.prog.fieldsOf 36)) hp ?_ (by kernel_rfl) rfl (by kernel_rfl)
  simp [World.setCell, Array.getElem?_modify, hb]

set_option maxHeartbeats 1000000 in
theorem implSuper_bad (a p : Option Addr) (n c m q : Nat) (S : Nat → Int) (L : Nat → Nat) (F : Nat → Nat → Int) (fuel : Int) (dead : Bool) (w : World) (hp : RdP w p m S L F) (hv : ¬ VD n m S L fuel) (hn : n ≤ 1048576) (hm : m ≤ 1048576) :
    Calls Try.prog 12 #[.agg #[.slice a n c, .slice p m q, .int .i64 fuel, .bool dead]] w fun e w' => e = .returned (srV false 0 0 0) ∧ Below w.heap.size w w' := by
  have HP : Hid (RdP w p m S L F) := hp
  have HV : Hid (¬ VD n m S L fuel) := hv
  have HE2 : Hid (∀ o1 o2, ((w.alloc o1).alloc o2).heap.size = w.heap.size + 2) := fun _ _ => by simp
  clear hp hv
  go_enter Try.func12, Try.ntmps12
  go_wp2_with fail
  refine (implValid_any a p n c m q S L F fuel dead _ (HP.out.below (below2 _ _ _)) hn hm).mono ?_
  rintro e w1 ⟨hx1, hb1⟩
  have := ans_false hx1 HV.out
  subst this
  rw [HE2.out] at hb1
  have hc1 : ∀ b o, b < w.heap.size + 2 → w1.cell? ⟨b, o, none⟩ = _ := fun b o hb => hb1.cell (p := ⟨b, o, none⟩) hb
  have hf1 : ∀ b o, b < w.heap.size + 2 → w1.frozen? ⟨b, o, none⟩ = _ := fun b o hb => hb1.frozen (p := ⟨b, o, none⟩) hb
  have hz : w.heap.size + 1 < w1.heap.size := by have := hb1.size; rw [HE2.out] at this; omega
  have HB1 : Hid (Below w.heap.size w w1) := (below2 _ _ _).trans (hb1.mono (by omega))
  clear hb1 hx1
  go_wp2
  refine bodyPost_ret (v := srV false 0 0 0) (by simp [srV, results, Try.results12, go_sem, hc1]) rfl ⟨rfl, ?_⟩
  exact (((HB1.out.setCell (by simp) _).setCell (by simp) _).setCell (by simp) _).setCell (by simp) _

set_option maxHeartbeats 8000000 in
theorem implSuper_good (a p : Option Addr) (n c m q : Nat) (d S : Nat → Int) (L : Nat → Nat) (F : Nat → Nat → Int) (fuel : Int) (dead : Bool) (w : World) (ha : Rd .u8 w a n d) (hp : RdP w p m S L F) (hv : VD n m S L fuel) (hn : n ≤ 1048576) (hnc : n ≤ c) (hcm : c ≤ 9223372036854775807) (hm : m ≤ 1048576) (hr : ∀ s, s < n / 64 → ∀ i, i < 64 → 0 ≤ secF d S F m s i ∧ secF d S F m s i < 256)
    (k0 k1 : Bool) (G0 A0 F0 G1 A1 F1 : Int) (h0 : supV (secF d S F m 0) 0 = srV k0 G0 A0 F0) (h1 : supV (secF d S F m 1) 1 = srV k1 G1 A1 F1) (hz0 : k0 = false → G0 = 0 ∧ A0 = 0 ∧ F0 = 0) :
    Calls Try.prog 12 #[.agg #[.slice a n c, .slice p m q, .int .i64 fuel, .bool dead]] w fun e w' => e = .returned (if betterB k0 k1 G0 G1 = true then srV k1 G1 A1 F1 else srV k0 G0 A0 F0) ∧ Below w.heap.size w w' := by
  have HA : Hid (Rd .u8 w a n d) := ha
  have HP : Hid (RdP w p m S L F) := hp
  have HV : Hid (VD n m S L fuel) := hv
  have HR : Hid (∀ s, s < n / 64 → ∀ i, i < 64 → 0 ≤ secF d S F m s i ∧ secF d S F m s i < 256) := hr
  have hpos : 1024 ≤ n := by have := hv.1; unfold VH at this; omega
  have H0 : Hid (supV (secF d S F m 0) (0 : Nat) = .agg #[.bool k0, .int .i64 G0, .int .i64 A0, .int .i64 F0]) := h0
  have H1 : Hid (supV (secF d S F m 1) (1 : Nat) = .agg #[.bool k1, .int .i64 G1, .int .i64 A1, .int .i64 F1]) := h1
  have HE2 : Hid (∀ o1 o2, ((w.alloc o1).alloc o2).heap.size = w.heap.size + 2) := fun _ _ => by simp
  clear ha hp hv hr h0 h1
  go_enter Try.func12, Try.ntmps12
  go_wp2_with fail
  refine (implValid_any a p n c m q S L F fuel dead _ (HP.out.below (below2 _ _ _)) hn hm).mono ?_
  rintro e w1 ⟨hx1, hb1⟩
  have := ans_true hx1 HV.out
  subst this
  rw [HE2.out] at hb1
  have K1 : Hid (Below (w.heap.size + 2) ((w.alloc (.cells #[.slice a n c, .slice p m q, .int .i64 fuel, .bool dead] 40)).alloc (.cells #[.bool false, .int .i64 0, .int .i64 0, .int .i64 0] 36)) w1) := hb1
  have HFIN : Hid (∀ W, Below (w.heap.size + 2) ((w.alloc (.cells #[.slice a n c, .slice p m q, .int .i64 fuel, .bool dead] 40)).alloc (.cells #[.bool false, .int .i64 0, .int .i64 0, .int .i64 0] 36)) W → Below w.heap.size w W) := fun W h => (below2 _ _ _).trans (h.mono (by omega))
  have z1 : w.heap.size + 2 ≤ w1.heap.size := by have := K1.out.size; rw [HE2.out] at this; exact this
  have hc1 : ∀ b o, b < w.heap.size + 2 → w1.cell? ⟨b, o, none⟩ = _ := fun b o hb => K1.out.cell (p := ⟨b, o, none⟩) hb
  have z01 : w.heap.size < w1.heap.size := by omega
  clear hb1 hx1
  go_wp2
  refine wp_loop_rounds 3 ?_
  rw [rounds_succ]
  go_wp2_with fail
  refine (readSuperAt_any a p n c m q d S L F fuel dead 0 _ ((HA.out.below (HFIN.out _ K1.out)).below (below_alloc _ _)) ((HP.out.below (HFIN.out _ K1.out)).below (below_alloc _ _)) HV.out (by omega) hn hnc hcm hm (HR.out 0 (by omega))).mono ?_
  rintro e w2 ⟨rfl, hb2⟩
  rw [H0.out]
  rw [World.size_alloc] at hb2
  obtain ⟨y0, y1, y2, y3, yz⟩ := box4 hb2
  have HBLK : Hid (w2.heap[w1.heap.size]? = some (.cells #[.bool false, .int .i64 0, .int .i64 0, .int .i64 0] 36 (0, 0))) := (hb2.block _ (by omega)).trans (blk_alloc_new _ _)
  have yf : ∀ o, w2.frozen? ⟨w1.heap.size, o, none⟩ = false := fun o => by rw [hb2.frozen (by simp)]; simp
  have K2 : Hid (Below (w.heap.size + 2) ((w.alloc (.cells #[.slice a n c, .slice p m q, .int .i64 fuel, .bool dead] 40)).alloc (.cells #[.bool false, .int .i64 0, .int .i64 0, .int .i64 0] 36)) w2) := (K1.out.alloc (by omega) _).trans (hb2.mono (by omega))
  clear hc1 hb2
  have hc2 : ∀ b o, b < w.heap.size + 2 → w2.cell? ⟨b, o, none⟩ = _ := fun b o hb => K2.out.cell (p := ⟨b, o, none⟩) hb
  have z02 : w.heap.size < w2.heap.size := by omega
  have z12 : w1.heap.size < w2.heap.size := yz
  have hne : ¬ w1.heap.size = w.heap.size := by omega
  have hne' : ¬ w.heap.size = w1.heap.size := by omega
  cases k0 with
  | false =>
    obtain ⟨rfl, rfl, rfl⟩ := hz0 rfl
    have HBL2 : Hid (w2.heap[w1.heap.size]? = some (.cells #[.bool false, .int .i64 0, .int .i64 0, .int .i64 0] 36 (0, 0))) := HBLK.out
    go_wp2
    rw [rounds_succ]
    go_wp2_with fail
    obtain ⟨W3, hW3⟩ : ∃ W, W = w2.alloc (.cells #[.bool false, .int .i64 0, .int .i64 0, .int .i64 0] 36) := ⟨_, rfl⟩
    rw [← hW3]
    have HB : Hid ((W3.heap[w1.heap.size]? = some (.cells #[.bool false, .int .i64 0, .int .i64 0, .int .i64 0] 36 (0, 0))) ∧ Below (w.heap.size + 2) ((w.alloc (.cells #[.slice a n c, .slice p m q, .int .i64 fuel, .bool dead] 40)).alloc (.cells #[.bool false, .int .i64 0, .int .i64 0, .int .i64 0] 36)) W3) := by
      rw [hW3]
      exact ⟨(Below.heap_alloc _ _ _ z12).trans HBL2.out, K2.out.alloc (by omega) _⟩
    have z3 := HB.out.2.size
    rw [HE2.out] at z3
    clear hW3 y0 y1 y2 y3 yf hc2
    refine (readSuperAt_any a p n c m q d S L F fuel dead 1 W3 (HA.out.below (HFIN.out _ HB.out.2)) (HP.out.below (HFIN.out _ HB.out.2)) HV.out (by omega) hn hnc hcm hm (HR.out 1 (by omega))).mono ?_
    rintro e w4 ⟨rfl, hb4⟩
    rw [H1.out]
    have hbk : w4.heap[w1.heap.size]? = some (.cells #[.bool false, .int .i64 0, .int .i64 0, .int .i64 0] 36 (0, 0)) := (hb4.block _ (Array.getElem?_eq_some_iff.1 HB.out.1).1).trans HB.out.1
    have x0 : w4.cell? ⟨w1.heap.size, 0, none⟩ = some (.bool false) := by simp [World.cell?, hbk]
    have x1 : w4.cell? ⟨w1.heap.size, 1, none⟩ = some (.int .i64 0) := by simp [World.cell?, hbk]
    have x2 : w4.cell? ⟨w1.heap.size, 2, none⟩ = some (.int .i64 0) := by simp [World.cell?, hbk]
    have x3 : w4.cell? ⟨w1.heap.size, 3, none⟩ = some (.int .i64 0) := by simp [World.cell?, hbk]
    have xf : ∀ o, w4.frozen? ⟨w1.heap.size, o, none⟩ = false := fun o => by simp [World.frozen?, hbk]
    have K4 : Hid (Below (w.heap.size + 2) ((w.alloc (.cells #[.slice a n c, .slice p m q, .int .i64 fuel, .bool dead] 40)).alloc (.cells #[.bool false, .int .i64 0, .int .i64 0, .int .i64 0] 36)) w4) := HB.out.2.trans (hb4.mono z3)
    have z4 := hb4.size
    have hz4 : w1.heap.size < w4.heap.size := (Array.getElem?_eq_some_iff.1 hbk).1
    have HBK4 : Hid (w4.heap[w1.heap.size]? = some (.cells #[.bool false, .int .i64 0, .int .i64 0, .int .i64 0] 36 (0, 0))) := hbk
    clear hbk hb4 HA HP HV HR H0 H1
    have hc4 : ∀ b o, b < w.heap.size + 2 → w4.cell? ⟨b, o, none⟩ = _ := fun b o hb => K4.out.cell (p := ⟨b, o, none⟩) hb
    have hf4 : ∀ b o, b < w.heap.size + 2 → w4.frozen? ⟨b, o, none⟩ = _ := fun b o hb => K4.out.frozen (p := ⟨b, o, none⟩) hb
    have hz14 : w.heap.size + 1 < w4.heap.size := by omega
    have hne1 : ¬ w1.heap.size = w.heap.size + 1 := by omega
    have hne2 : ¬ w.heap.size + 1 = w1.heap.size := by omega
    have HB4 : Hid (Below w.heap.size w w4) := HFIN.out _ K4.out
    have HBK : Hid (w4.heap[w.heap.size + 1]? = some (.cells #[.bool false, .int .i64 0, .int .i64 0, .int .i64 0] 36 (0, 0))) := (K4.out.block _ (by omega)).trans (by have := blk_alloc_new (w.alloc (.cells #[.slice a n c, .slice p m q, .int .i64 fuel, .bool dead] 40)) (.cells #[.bool false, .int .i64 0, .int .i64 0, .int .i64 0] 36); rw [World.size_alloc] at this; exact this)
    cases k1 with
    | false =>
      have hB : betterB false false 0 G1 = false := rfl
      go_wp2
      rw [rounds_succ]
      go_wp2
      refine bodyPost_ret (v := .agg #[.bool false, .int .i64 0, .int .i64 0, .int .i64 0]) (ret4 rfl _ w4 (w.heap.size + 1) rfl HBK.out _) rfl ⟨rfl, ?_⟩
      exact ((((HB4.out.setCell (by simp) _).setCell (by simp) _).setCell (by simp) _).setCell (by simp) _).alloc (by have := HB4.out.size; simp; omega) _
    | true =>
      have hB : betterB false true 0 G1 = true := rfl
      go_wp2
      obtain ⟨W5, hW5⟩ : ∃ W, W = ((((w4.setCell ⟨w1.heap.size, 0, none⟩ (.bool true)).setCell ⟨w1.heap.size, 1, none⟩ (.int .i64 G1)).setCell ⟨w1.heap.size, 2, none⟩ (.int .i64 A1)).setCell ⟨w1.heap.size, 3, none⟩ (.int .i64 F1)).alloc (.cells #[.bool true, .int .i64 G1, .int .i64 A1, .int .i64 F1] 36) := ⟨_, rfl⟩
      rw [← hW5]
      have HX5 : Hid (W5.heap[w1.heap.size]? = some (.cells #[.bool true, .int .i64 G1, .int .i64 A1, .int .i64 F1] 36 (0, 0)) ∧ W5.heap[w.heap.size + 1]? = some (.cells #[.bool false, .int .i64 0, .int .i64 0, .int .i64 0] 36 (0, 0)) ∧ Below w.heap.size w W5) := by
        have hb4 := HBK4.out
        rw [hW5]
        refine ⟨?_, ?_, ((((HB4.out.setCell (by simp; omega) _).setCell (by simp; omega) _).setCell (by simp; omega) _).setCell (by simp; omega) _).alloc (by have := HB4.out.size; simp; omega) _⟩
        · rw [Below.heap_alloc _ _ _ (by simpa using hz4)]
          simp [World.setCell, Array.getElem?_modify, hb4]
        · rw [Below.heap_alloc _ _ _ (by simpa using hz14)]
          simp [World.setCell, Array.getElem?_modify, hne1, HBK.out]
      clear hW5 x0 x1 x2 x3 xf hc4 hf4
      obtain ⟨q1, q2, q3⟩ := HX5.out
      have x0 : W5.cell? ⟨w1.heap.size, 0, none⟩ = some (.bool true) := by simp [World.cell?, q1]
      have x1 : W5.cell? ⟨w1.heap.size, 1, none⟩ = some (.int .i64 G1) := by simp [World.cell?, q1]
      have x2 : W5.cell? ⟨w1.heap.size, 2, none⟩ = some (.int .i64 A1) := by simp [World.cell?, q1]
      have x3 : W5.cell? ⟨w1.heap.size, 3, none⟩ = some (.int .i64 F1) := by simp [World.cell?, q1]
      have r0 : W5.cell? ⟨w.heap.size + 1, 0, none⟩ = some (.bool false) := by simp [World.cell?, q2]
      have r1 : W5.cell? ⟨w.heap.size + 1, 1, none⟩ = some (.int .i64 0) := by simp [World.cell?, q2]
      have r2 : W5.cell? ⟨w.heap.size + 1, 2, none⟩ = some (.int .i64 0) := by simp [World.cell?, q2]
      have r3 : W5.cell? ⟨w.heap.size + 1, 3, none⟩ = some (.int .i64 0) := by simp [World.cell?, q2]
      have rf : ∀ o, W5.frozen? ⟨w.heap.size + 1, o, none⟩ = false := fun o => by simp [World.frozen?, q2]
      clear q1 q2 q3
      rw [rounds_succ]
      go_wp2
      refine bodyPost_ret (v := .agg #[.bool true, .int .i64 G1, .int .i64 A1, .int .i64 F1]) (ret4' rfl _ W5 (w.heap.size + 1) rfl HX5.out.2.1) rfl ⟨rfl, ?_⟩
      exact (((HX5.out.2.2.setCell (by simp) _).setCell (by simp) _).setCell (by simp) _).setCell (by simp) _
  | true =>
    go_wp2
    rw [rounds_succ]
    go_wp2_with fail
    obtain ⟨W3, hW3⟩ : ∃ W, W = ((((w2.setCell ⟨w1.heap.size, 0, none⟩ (.bool true)).setCell ⟨w1.heap.size, 1, none⟩ (.int .i64 G0)).setCell ⟨w1.heap.size, 2, none⟩ (.int .i64 A0)).setCell ⟨w1.heap.size, 3, none⟩ (.int .i64 F0)).alloc (.cells #[.bool true, .int .i64 G0, .int .i64 A0, .int .i64 F0] 36) := ⟨_, rfl⟩
    rw [← hW3]
    have HB : Hid ((W3.heap[w1.heap.size]? = some (.cells #[.bool true, .int .i64 G0, .int .i64 A0, .int .i64 F0] 36 (0, 0))) ∧ Below (w.heap.size + 2) ((w.alloc (.cells #[.slice a n c, .slice p m q, .int .i64 fuel, .bool dead] 40)).alloc (.cells #[.bool false, .int .i64 0, .int .i64 0, .int .i64 0] 36)) W3) := by
      rw [hW3]
      refine ⟨?_, ((((K2.out.setCell (by simpa using z1) _).setCell (by simpa using z1) _).setCell (by simpa using z1) _).setCell (by simpa using z1) _).alloc (by simp; omega) _⟩
      have hq := HBLK.out
      rw [Below.heap_alloc _ _ _ (by simpa using z12)]
      simp [World.setCell, Array.getElem?_modify, hq]
    have z3 := HB.out.2.size
    rw [HE2.out] at z3
    clear hW3 y0 y1 y2 y3 yf hc2
    refine (readSuperAt_any a p n c m q d S L F fuel dead 1 W3 (HA.out.below (HFIN.out _ HB.out.2)) (HP.out.below (HFIN.out _ HB.out.2)) HV.out (by omega) hn hnc hcm hm (HR.out 1 (by omega))).mono ?_
    rintro e w4 ⟨rfl, hb4⟩
    rw [H1.out]
    have hbk : w4.heap[w1.heap.size]? = some (.cells #[.bool true, .int .i64 G0, .int .i64 A0, .int .i64 F0] 36 (0, 0)) := (hb4.block _ (Array.getElem?_eq_some_iff.1 HB.out.1).1).trans HB.out.1
    have x0 : w4.cell? ⟨w1.heap.size, 0, none⟩ = some (.bool true) := by simp [World.cell?, hbk]
    have x1 : w4.cell? ⟨w1.heap.size, 1, none⟩ = some (.int .i64 G0) := by simp [World.cell?, hbk]
    have x2 : w4.cell? ⟨w1.heap.size, 2, none⟩ = some (.int .i64 A0) := by simp [World.cell?, hbk]
    have x3 : w4.cell? ⟨w1.heap.size, 3, none⟩ = some (.int .i64 F0) := by simp [World.cell?, hbk]
    have xf : ∀ o, w4.frozen? ⟨w1.heap.size, o, none⟩ = false := fun o => by simp [World.frozen?, hbk]
    have K4 : Hid (Below (w.heap.size + 2) ((w.alloc (.cells #[.slice a n c, .slice p m q, .int .i64 fuel, .bool dead] 40)).alloc (.cells #[.bool false, .int .i64 0, .int .i64 0, .int .i64 0] 36)) w4) := HB.out.2.trans (hb4.mono z3)
    have z4 := hb4.size
    have hz4 : w1.heap.size < w4.heap.size := (Array.getElem?_eq_some_iff.1 hbk).1
    have HBK4 : Hid (w4.heap[w1.heap.size]? = some (.cells #[.bool true, .int .i64 G0, .int .i64 A0, .int .i64 F0] 36 (0, 0))) := hbk
    clear hbk hb4 HA HP HV HR H0 H1
    have hc4 : ∀ b o, b < w.heap.size + 2 → w4.cell? ⟨b, o, none⟩ = _ := fun b o hb => K4.out.cell (p := ⟨b, o, none⟩) hb
    have hf4 : ∀ b o, b < w.heap.size + 2 → w4.frozen? ⟨b, o, none⟩ = _ := fun b o hb => K4.out.frozen (p := ⟨b, o, none⟩) hb
    have hz14 : w.heap.size + 1 < w4.heap.size := by omega
    have hne1 : ¬ w1.heap.size = w.heap.size + 1 := by omega
    have hne2 : ¬ w.heap.size + 1 = w1.heap.size := by omega
    have HB4 : Hid (Below w.heap.size w w4) := HFIN.out _ K4.out
    have HBK : Hid (w4.heap[w.heap.size + 1]? = some (.cells #[.bool false, .int .i64 0, .int .i64 0, .int .i64 0] 36 (0, 0))) := (K4.out.block _ (by omega)).trans (by have := blk_alloc_new (w.alloc (.cells #[.slice a n c, .slice p m q, .int .i64 fuel, .bool dead] 40)) (.cells #[.bool false, .int .i64 0, .int .i64 0, .int .i64 0] 36); rw [World.size_alloc] at this; exact this)
    cases k1 with
    | false =>
      have hB : betterB true false G0 G1 = false := rfl
      go_wp2
      rw [rounds_succ]
      go_wp2
      refine bodyPost_ret (v := .agg #[.bool true, .int .i64 G0, .int .i64 A0, .int .i64 F0]) (ret4 rfl _ w4 (w.heap.size + 1) rfl HBK.out _) rfl ⟨rfl, ?_⟩
      exact ((((HB4.out.setCell (by simp) _).setCell (by simp) _).setCell (by simp) _).setCell (by simp) _).alloc (by have := HB4.out.size; simp; omega) _
    | true =>
      by_cases hG : G0 < G1
      · have hB : betterB true true G0 G1 = true := by simp [betterB, hG]
        have hG' : decide (G0 < G1) = true := by simpa using hG
        go_wp2
        obtain ⟨W5, hW5⟩ : ∃ W, W = ((((w4.setCell ⟨w1.heap.size, 0, none⟩ (.bool true)).setCell ⟨w1.heap.size, 1, none⟩ (.int .i64 G1)).setCell ⟨w1.heap.size, 2, none⟩ (.int .i64 A1)).setCell ⟨w1.heap.size, 3, none⟩ (.int .i64 F1)).alloc (.cells #[.bool true, .int .i64 G1, .int .i64 A1, .int .i64 F1] 36) := ⟨_, rfl⟩
        rw [← hW5]
        have HX5 : Hid (W5.heap[w1.heap.size]? = some (.cells #[.bool true, .int .i64 G1, .int .i64 A1, .int .i64 F1] 36 (0, 0)) ∧ W5.heap[w.heap.size + 1]? = some (.cells #[.bool false, .int .i64 0, .int .i64 0, .int .i64 0] 36 (0, 0)) ∧ Below w.heap.size w W5) := by
          have hb4 := HBK4.out
          rw [hW5]
          refine ⟨?_, ?_, ((((HB4.out.setCell (by simp; omega) _).setCell (by simp; omega) _).setCell (by simp; omega) _).setCell (by simp; omega) _).alloc (by have := HB4.out.size; simp; omega) _⟩
          · rw [Below.heap_alloc _ _ _ (by simpa using hz4)]
            simp [World.setCell, Array.getElem?_modify, hb4]
          · rw [Below.heap_alloc _ _ _ (by simpa using hz14)]
            simp [World.setCell, Array.getElem?_modify, hne1, HBK.out]
        clear hW5 x0 x1 x2 x3 xf hc4 hf4
        obtain ⟨q1, q2, q3⟩ := HX5.out
        have x0 : W5.cell? ⟨w1.heap.size, 0, none⟩ = some (.bool true) := by simp [World.cell?, q1]
        have x1 : W5.cell? ⟨w1.heap.size, 1, none⟩ = some (.int .i64 G1) := by simp [World.cell?, q1]
        have x2 : W5.cell? ⟨w1.heap.size, 2, none⟩ = some (.int .i64 A1) := by simp [World.cell?, q1]
        have x3 : W5.cell? ⟨w1.heap.size, 3, none⟩ = some (.int .i64 F1) := by simp [World.cell?, q1]
        have r0 : W5.cell? ⟨w.heap.size + 1, 0, none⟩ = some (.bool false) := by simp [World.cell?, q2]
        have r1 : W5.cell? ⟨w.heap.size + 1, 1, none⟩ = some (.int .i64 0) := by simp [World.cell?, q2]
        have r2 : W5.cell? ⟨w.heap.size + 1, 2, none⟩ = some (.int .i64 0) := by simp [World.cell?, q2]
        have r3 : W5.cell? ⟨w.heap.size + 1, 3, none⟩ = some (.int .i64 0) := by simp [World.cell?, q2]
        have rf : ∀ o, W5.frozen? ⟨w.heap.size + 1, o, none⟩ = false := fun o => by simp [World.frozen?, q2]
        clear q1 q2 q3
        rw [rounds_succ]
        go_wp2
        refine bodyPost_ret (v := .agg #[.bool true, .int .i64 G1, .int .i64 A1, .int .i64 F1]) (ret4' rfl _ W5 (w.heap.size + 1) rfl HX5.out.2.1) rfl ⟨rfl, ?_⟩
        exact (((HX5.out.2.2.setCell (by simp) _).setCell (by simp) _).setCell (by simp) _).setCell (by simp) _
      · have hB : betterB true true G0 G1 = false := by simp [betterB]; omega
        have hG' : decide (G0 < G1) = false := by simpa using hG
        clear hG
        go_wp2
        all_goals rw [rounds_succ]
        all_goals go_wp2
        all_goals refine bodyPost_ret (v := .agg #[.bool true, .int .i64 G0, .int .i64 A0, .int .i64 F0]) (ret4 rfl _ w4 (w.heap.size + 1) rfl HBK.out _) rfl ⟨rfl, ?_⟩
        all_goals exact ((((HB4.out.setCell (by simp) _).setCell (by simp) _).setCell (by simp) _).setCell (by simp) _).alloc (by have := HB4.out.size; simp; omega) _
end Go.Proofs.Ytfbhlegkpmcfoaa
