import Derived.Test.YtlcamfkgkcjehaaNr32
import Derived.Deep.CutBlock
namespace Go.Proofs.Ytlcamfkgkcjehaa
open Go.RowKit Go.Deep
set_option linter.unusedVariables false
set_option maxRecDepth 100000

theorem secW_range (N : Nat) (seq : Int) (f : Nat → Int) (hf : ∀ j, 0 ≤ f j ∧ f j < 256) (x : Nat) : ∀ j, j < 64 → 0 ≤ secW N seq f x j ∧ secW N seq f x j < 256 := by
  unfold secW recF sealF
  exact putN_range (recH_range _ _ _ _ _ (fun j _ => hf _))
/-- A drawn disk: it lives, nothing lies in its cache, its bytes are bytes. -/
def Fair (nn : Nat) (t : Stt) : Prop := t.ok nn ∧ t.live 0 ∧ t.m = 0 ∧ ∀ j, 0 ≤ t.d j ∧ t.d j < 256
theorem Fair.recd {nn : Nat} {t : Stt} (h : Fair nn t) {A N last : Nat} {seq : Int} {f : Nat → Int} (hf : ∀ j, 0 ≤ f j ∧ f j < 256) (hl : last ≤ 600) (h2 : (A : Int) + last + 1 ≤ (nn : Int) / 64) : Fair nn (t.recd A (secW N seq f) last) := by
  obtain ⟨h1, hlv, hm, hr⟩ := h
  have hok : (t.recd A (secW N seq f) last).ok nn := by
    have q2 := Stt.ok.writes (G := secW N seq f) h1 last (at_ := (A : Int)) (by omega) (by omega)
    have q3 : (if 0 < last then (t.writes A (secW N seq f) last).sync else t.writes A (secW N seq f) last).ok nn := by
      split
      · exact q2.sync
      · exact q2
    exact (q3.write _ (by omega) (by omega)).sync
  have h3 := Stt.live.recd hlv (at_ := (A : Int)) (G := secW N seq f) last (by omega)
  have e : t.recd A (secW N seq f) last = ((if 0 < last then (t.writes A (secW N seq f) last).sync else t.writes A (secW N seq f) last).write ((A : Int) + last) (secW N seq f last)).flush := h3.sync.1
  have hdead : (t.recd A (secW N seq f) last).dead = false := by rw [e]; rfl
  refine ⟨hok, ?_, by rw [e]; rfl, fun j => ?_⟩
  · rw [e]
    exact ⟨rfl, h3.sync.2.2.1, Nat.le_refl _⟩
  · have q := ((recd_q (A := A) (G := secW N seq f) hm (by omega)).2 hdead).1 (j / 64)
    have ej : j / 64 * 64 + j % 64 = j := by omega
    rcases q with ⟨x, _, _, hs⟩ | ⟨_, hs⟩
    · have := hs (j % 64) (by omega)
      rw [ej] at this
      rw [this]
      exact secW_range N seq f hf x _ (by omega)
    · have := hs (j % 64) (by omega)
      rw [ej] at this
      rw [this]
      exact hr j

/-- What spec.WriteRec makes of a fair disk is one. -/
theorem specRec_fair {nn : Nat} {t : Stt} (h : Fair nn t) (a p ad : Option Addr) (c q N cp : Nat) (f : Nat → Int) (at_ seq : Int) (w : World) (ha : Rd .u8 w a nn t.d) (hp : RdP w p t.m t.S t.L t.F) (hrd : Rd .u8 w ad N f) (hf : ∀ j, 0 ≤ f j ∧ f j < 256) (hN : N ≤ 200) (hcp : N ≤ cp) (hcm : cp ≤ 9223372036854775807) (hat : 2 ≤ at_) (hat2 : at_ + cntOf N ≤ (nn : Int) / 64) :
    Calls Try.prog 17 #[.agg #[.slice a nn c, .slice p t.m q, .int .i64 t.fuel, .bool t.dead], .int .i64 at_, .int .i64 seq, .slice ad N cp] w fun e w' => ∃ t2, Fair nn t2 ∧ t2.retQ nn w e w' := by
  obtain ⟨hn, hm, hL⟩ := stt_vd_lens (show VD nn t.m t.S t.L t.fuel from h.1)
  by_cases hq : numB seq = true
  · obtain ⟨last, hl⟩ : ∃ last, cntOf N = last + 1 := ⟨cntOf N - 1, by have := cntOf_pos N; omega⟩
    obtain ⟨A, hA⟩ : ∃ A : Nat, at_ = (A : Int) := ⟨at_.toNat, by omega⟩
    have hl6 : last ≤ 600 := by unfold cntOf at hl; split at hl <;> omega
    refine (specRecQ_good t a p ad nn c q N cp last f at_ seq w ha hp hrd (fun j _ => hf j) h.1 (by omega) hcp hcm hl hq h.2.1 hat (by omega)).mono ?_
    intro e w' hr
    refine ⟨_, ?_, hr⟩
    rw [hA]
    exact h.recd hf hl6 (by omega)
  · refine (specRecQ_bad a p ad nn c t.m q N cp t.d t.S t.L t.F t.fuel t.dead at_ seq w ha hp hn hm hL (by omega) (fun k => hq k.2.1)).mono ?_
    intro e w' hr
    exact ⟨t, h, hr⟩

/-- What l2Disk hands back. -/
def RetL2 (w : World) (g : Nat) (b : Option Addr) (n c : Nat) (f : Nat → Int) (e : Ending) (w' : World) : Prop :=
  ∃ (nn : Nat) (t : Stt) (a p : Option Addr) (c' q : Nat) (A : Nat → Option Addr), e = .returned (.agg #[.slice a nn c', .slice p t.m q, .int .i64 t.fuel, .bool t.dead]) ∧ OwnQ w' w.heap.size a nn c' t.d p t.m q t.S t.L t.F A ∧ Fair nn t ∧ Drw w' g b n c f ∧ BelC w.heap.size g w w'

/-- l2Disk between two statements. -/
def LSt (w W : World) (g : Nat) (b : Option Addr) (n c : Nat) (f : Nat → Int) (bx nn : Nat) : Prop := ∃ t, QSt w W g b n c f bx nn t ∧ Fair nn t

theorem LSt.move {w W W' : World} {g : Nat} {b : Option Addr} {n c : Nat} {f : Nat → Int} {bx nn : Nat} (h : LSt w W g b n c f bx nn) (hb : BelC W.heap.size g W W') (hd : Drw W' g b n c f) : LSt w W' g b n c f bx nn := by
  obtain ⟨t, h1, h2⟩ := h
  exact ⟨t, h1.move hb hd, h2⟩
theorem LSt.below {w W W' : World} {g : Nat} {b : Option Addr} {n c : Nat} {f : Nat → Int} {bx nn : Nat} (h : LSt w W g b n c f bx nn) (hb : Below W.heap.size W W') : LSt w W' g b n c f bx nn := by
  obtain ⟨t, h1, h2⟩ := h
  exact ⟨t, h1.move (BelC.ofBelow hb (Nat.le_refl _)) (h1.cur.drw.below hb), h2⟩
theorem LSt.drw {w W : World} {g : Nat} {b : Option Addr} {n c : Nat} {f : Nat → Int} {bx nn : Nat} (h : LSt w W g b n c f bx nn) : Drw W g b n c f := by
  obtain ⟨t, h1, h2⟩ := h
  exact h1.cur.drw

set_option maxHeartbeats 4000000 in
theorem l2Disk_any (g : Nat) (b : Option Addr) (n c : Nat) (f : Nat → Int) (w : World) (h : Drw w g b n c f) :
    Calls Try.prog 35 #[.pointer (some ⟨g, 0, none⟩)] w (RetL2 w g b n c f) := by
  have HW : Hid (DrwL w w.heap.size g b n c f) := DrwL.of h
  clear h
  go_enter Try.func35, Try.ntmps35
  go_wp2_with fail
  refine (l1Below_any g b n c f 4 _ (HW.out.drw.below (below_alloc _ _)) (by omega) (by omega)).mono ?_
  rintro e w1 ⟨x, rfl, hx0, hx1, hd1, ho1⟩
  have z1 : w1.heap.size = w.heap.size + 1 := by rw [ho1.size]; simp
  have hgl := HW.out.cur
  have R1 : Hid (DkRow w1 w.heap.size (.slice none 0 0) (.slice none 0 0) 0 false) := rowIn.of_block (rowInNew w _ _ _ _) (ho1.block w.heap.size (fun y e => by injection e with e; subst e; show g ≠ w.heap.size; omega))
  have B1 : Hid (BelC w.heap.size g w w1) := (BelC.ofBelow (below_alloc _ _) (Nat.le_refl _)).trans (BelC.ofOnly ho1)
  have D1 : Hid (Drw w1 g b n c f) := hd1
  clear hd1 ho1
  obtain ⟨N, hN⟩ : ∃ N : Nat, (16 + 4 * x) = (N : Int) := Int.eq_ofNat_of_zero_le (by omega)
  have HNN : Hid ((16 + 4 * x) = (N : Int)) := hN
  have HN16 : Hid (16 ≤ N ∧ N ≤ 40) := ⟨by omega, by omega⟩
  clear hN
  go_wp2_with fail
  refine (specNew_cat (16 + 4 * x) N w1 HNN.out HN16.out.1 (by have := HN16.out; omega)).mono ?_
  rintro e w2 ⟨a2, c2, rfl, ho2, hb2, hcp2⟩
  have z2 := hb2.size
  obtain ⟨NN, hNN⟩ : ∃ NN, NN = N * 64 := ⟨_, rfl⟩
  rw [← hNN] at ho2 hcp2 ⊢
  have HNN64 : Hid (1024 ≤ NN ∧ NN ≤ 2560 ∧ NN % 64 = 0) := by have := HN16.out; exact ⟨by omega, by omega, by omega⟩
  have S3 : Hid (LSt w (w2.alloc (.cells #[.slice a2 NN c2, .slice none 0 0, .int .i64 (-1), .bool false] 25)) g b n c f w2.heap.size NN) := by
    have hb3 : Below w1.heap.size w1 (w2.alloc (.cells #[.slice a2 NN c2, .slice none 0 0, .int .i64 (-1), .bool false] 25)) := hb2.alloc z2 _
    have hok : Stt.ok NN ⟨fun _ => 0, 0, fun _ => 0, fun _ => 0, fun _ _ => 0, -1, false⟩ := by
      refine ⟨?_, fun i hi => absurd hi (Nat.not_lt_zero _)⟩
      have := HNN64.out
      show VH NN 0 (-1)
      unfold VH
      omega
    refine ⟨⟨fun _ => 0, 0, fun _ => 0, fun _ => 0, fun _ _ => 0, -1, false⟩, ⟨⟨D1.out.below hb3, hgl, HW.out.bytes⟩, ⟨a2, c2, none, 0, fun _ => none, rowInNew _ _ _ _ _, ⟨(ho2.mono (by omega)).below (below_alloc _ _), ⟨_, Gath.start _ _ _ _ _⟩, fun _ i hi => absurd hi (Nat.not_lt_zero _), hcp2⟩⟩, hok, rowIn.below R1.out hb3, B1.out.trans (BelC.ofBelow hb3 (by omega)), by omega⟩, hok, ⟨rfl, rfl, Nat.le_refl _⟩, rfl, fun j => ⟨Int.le_refl 0, (by decide : (0 : Int) < 256)⟩⟩
  clear ho2 hb2 R1 B1 D1 hcp2 hNN HNN HN16
  obtain ⟨W3, hW3⟩ : ∃ W3, W3 = w2.alloc (.cells #[.slice a2 NN c2, .slice none 0 0, .int .i64 (-1), .bool false] 25) := ⟨_, rfl⟩
  rw [← hW3] at S3
  obtain ⟨bx, hbx⟩ : ∃ bx, bx = w2.heap.size := ⟨_, rfl⟩
  rw [← hbx] at S3
  go_wp2
  rw [← hW3, ← hbx]
  clear hW3 hbx z2 z1
  go_loopw [4, 5, 6, 7, 8, 9] (fun i _ _ _ _ _ wr => ∃ j : Nat, j ≤ 2 ∧ i = .int .i64 j ∧ LSt w wr g b n c f bx NN) (fun i _ _ _ _ _ _ => (2 - intOf i).toNat)
  case atStart => exact ⟨0, by omega, rfl, S3.out⟩
  case round =>
    obtain ⟨j, hj, rfl, hst⟩ := hrel
    have LR : Hid (LSt w wr g b n c f bx NN) := hst
    have h64 : 1024 ≤ NN ∧ NN ≤ 2560 ∧ NN % 64 = 0 := HNN64.out
    clear hst
    by_cases hlt : j < 2
    · obtain ⟨t, hq, hfr⟩ := LR.out
      obtain ⟨a0, c0, p0, q0, A0, hrow, -⟩ := hq.box
      obtain ⟨x0, x1, x2, x3, xf, xl⟩ := hrow.cells
      clear hq hfr hrow
      go_wp2_with fail
      refine (l2AreaFrom_any a0 p0 NN c0 t.m q0 t.fuel t.dead (j : Int) wr (by omega) (by omega) (by omega)).mono ?_
      rintro e w5 ⟨⟨at0, rfl, ha0, ha1⟩, hb5⟩
      have L5 : Hid (LSt w w5 g b n c f bx NN) := LR.out.below hb5
      clear hb5 x0 x1 x2 x3 xf xl LR
      go_wp2_with fail
      refine (l2Seq_any g b n c f w5 L5.out.drw).mono ?_
      rintro e w6 ⟨sq0, rfl, hs0, hs1, hd6, ho6⟩
      have L6 : Hid (LSt w w6 g b n c f bx NN) := L5.out.move (BelC.ofOnly ho6) hd6
      clear hd6 ho6 L5
      go_wp2_with fail
      refine (l1Below_any g b n c f 4 w6 L6.out.drw (by omega) (by omega)).mono ?_
      rintro e w7 ⟨y, rfl, hy0, hy1, hd7, ho7⟩
      have L7 : Hid (LSt w w7 g b n c f bx NN) := L6.out.move (BelC.ofOnly ho7) hd7
      clear hd7 ho7 L6
      clear wr
      go_wp2
      go_loopw [5, 6, 8, 9] (fun av sv iv _ wr => ∃ k : Nat, (k : Int) ≤ y ∧ iv = .int .i64 k ∧ (∃ at_ sq : Int, av = .int .i64 at_ ∧ sv = .int .i64 sq ∧ 2 ≤ at_ ∧ at_ ≤ 8194 + 5 * (k : Int) ∧ 0 ≤ sq ∧ sq ≤ 2000000002 + 2 * (k : Int)) ∧ LSt w wr g b n c f bx NN) (fun _ _ iv _ _ => (y - intOf iv).toNat)
      case atStart => exact ⟨0, by omega, rfl, ⟨at0, sq0, rfl, rfl, by omega, by omega, by omega, by omega⟩, L7.out⟩
      case round =>
        obtain ⟨k, hk, rfl, ⟨at_, sq, rfl, rfl, t0, t1, t2, t3⟩, hst⟩ := hrel
        have LR : Hid (LSt w wr g b n c f bx NN) := hst
        clear hst
        by_cases hlk : (k : Int) < y
        · go_wp2_with fail
          refine (l2Length_any g b n c f wr LR.out.drw).mono ?_
          rintro e w8 ⟨ml, rfl, hm0, hm1, hd8, ho8⟩
          have L8 : Hid (LSt w w8 g b n c f bx NN) := LR.out.move (BelC.ofOnly ho8) hd8
          clear hd8 ho8 LR
          obtain ⟨M, hM⟩ : ∃ M : Nat, ml = (M : Int) := ⟨ml.toNat, by omega⟩
          have HM : Hid (ml = (M : Int)) := hM
          have hM2 : M ≤ 200 := by omega
          clear hM
          go_wp2_with fail
          refine (l1Some_any g b n c f ml M w8 L8.out.drw HM.out (by omega)).mono ?_
          rintro e w9 ⟨a9, c9, F9, rfl, ho9, hrg9, hc9, hc9', hd9, hb9⟩
          have L9 : Hid (LSt w w9 g b n c f bx NN ∧ Rd .u8 w9 a9 M F9 ∧ (∀ j, 0 ≤ F9 j ∧ F9 j < 256)) := ⟨L8.out.move hb9 hd9, ho9.rd, hrg9⟩
          clear ho9 hrg9 hd9 hb9 L8 HM hm0 hm1
          obtain ⟨KK, hKK⟩ : ∃ KK, KK = cntOf M := ⟨_, rfl⟩
          have HK : Hid (cntOf M = KK) := hKK.symm
          have hK5 : 1 ≤ KK ∧ KK ≤ 5 := by rw [hKK]; have := cntOf_pos M; unfold cntOf at *; split <;> (split at this <;> omega)
          clear hKK
          obtain ⟨t, hq, hfr⟩ := L9.out.1
          have HQ : Hid (QSt w w9 g b n c f bx NN t ∧ Fair NN t) := ⟨hq, hfr⟩
          obtain ⟨a0, c0, p0, q0, A0, hrow, hoq⟩ := hq.box
          have HOQ : Hid (OwnQ w9 w.heap.size a0 NN c0 t.d p0 t.m q0 t.S t.L t.F A0) := hoq
          have HCC : Hid (∀ W, Below w9.heap.size w9 W → W.cell? ⟨bx, 0, none⟩ = some (.slice a0 NN c0) ∧ W.cell? ⟨bx, 1, none⟩ = some (.slice p0 t.m q0) ∧ W.cell? ⟨bx, 2, none⟩ = some (.int .i64 t.fuel) ∧ W.cell? ⟨bx, 3, none⟩ = some (.bool t.dead)) := fun W hW => by
            obtain ⟨x0, x1, x2, x3, -⟩ := (hrow.below hW).cells
            exact ⟨x0, x1, x2, x3⟩
          obtain ⟨x0, x1, x2, x3, xf, xl⟩ := hrow.cells
          clear hq hfr hrow hoq
          have J0 : Hid (Below w9.heap.size w9 w9.drew) := (Below.refl _ _).drew
          have hw1 : IntKind.i64.wrap (M : Int) = (M : Int) := by rw [IntKind.wrap_i64]; omega
          have hw2 : IntKind.i64.wrap (at_ + (KK : Int)) = at_ + (KK : Int) := by rw [IntKind.wrap_i64]; omega
          go_wp2
          go_region_held3 (fun w' => w'.cell? ⟨bx, 0, none⟩ = some (.slice a0 NN c0) ∧ w'.cell? ⟨bx, 1, none⟩ = some (.slice p0 t.m q0) ∧ w'.cell? ⟨bx, 2, none⟩ = some (.int .i64 t.fuel) ∧ w'.cell? ⟨bx, 3, none⟩ = some (.bool t.dead)) (first | exact HCC.out _ J4.out | exact HCC.out _ J0.out | go_keep)
            (first
            | (go_at_call 16; (with_reducible refine (specRecS M (by omega) _).mono ?_); rintro e w3 ⟨rfl, hw3⟩; subst hw3; rw [HK.out])
            | (go_at_call 24; (with_reducible refine (l1Sectors_any a0 p0 NN c0 t.m q0 t.fuel t.dead _ (by omega)).mono ?_); rintro e w4 ⟨rfl, hb4⟩; have J4 : Hid (Below w9.heap.size w9 w4) := J0.out.trans (hb4.mono J0.out.size); clear hb4)
            | fail)
          by_cases hle : at_ + (KK : Int) ≤ (NN : Int) / 64
          · have hle2 : decide (at_ + (KK : Int) ≤ (NN : Int) / 64) = true := decide_eq_true hle
            obtain ⟨y0, y1, y2, y3⟩ := HCC.out _ J4.out
            clear x0 x1 x2 x3 xf xl
            have HWR : Hid (Calls Try.prog 17 #[.agg #[.slice a0 NN c0, .slice p0 t.m q0, .int .i64 t.fuel, .bool t.dead], .int .i64 at_, .int .i64 sq, .slice a9 M c9] w4 fun e w' => ∃ t2, Fair NN t2 ∧ t2.retQ NN w4 e w') := specRec_fair HQ.out.2 a0 p0 a9 c0 q0 M c9 F9 at_ sq w4 (HOQ.out.below J4.out).data.rd ((HOQ.out.below J4.out).own.cache.rd) (L9.out.2.1.below J4.out) L9.out.2.2 hM2 hc9 hc9' t0 (by rw [HK.out]; exact hle)
            have HQ4 : Hid (QSt w w4 g b n c f bx NN t) := HQ.out.1.move (BelC.ofBelow J4.out (Nat.le_refl _)) (HQ.out.1.cur.drw.below J4.out)
            clear HCC HOQ L9 HQ J0 J4
            go_wp2_with fail
            refine HWR.out.mono ?_
            rintro e w10 ⟨t2, hf2, a10, c10, p10, q10, A10, rfl, ho10, hb10⟩
            obtain ⟨W5, hW5⟩ : ∃ W5, W5 = (((w10.setCell ⟨bx, 0, none⟩ (.slice a10 NN c10)).setCell ⟨bx, 1, none⟩ (.slice p10 t2.m q10)).setCell ⟨bx, 2, none⟩ (.int .i64 t2.fuel)).setCell ⟨bx, 3, none⟩ (.bool t2.dead) := ⟨_, rfl⟩
            have L5 : Hid (LSt w W5 g b n c f bx NN) := by
              rw [hW5]
              exact ⟨t2, HQ4.out.next hb10 ho10 hf2.1, hf2⟩
            obtain ⟨a11, c11, p11, q11, A11, hrow11, -⟩ := HQ4.out.box
            obtain ⟨z0, z1, z2, z3, zf, zl⟩ := (hrow11.below hb10).cells
            clear y0 y1 y2 y3 HWR HQ4 ho10 hb10 hf2 hrow11
            go_upto_region 14 with fail
            rw [← hW5]
            clear hW5 z0 z1 z2 z3 zf zl hle hle2
            go_wp2_with fail
            refine (specRecS M (by omega) W5).mono ?_
            rintro e w6 ⟨rfl, hw6⟩
            subst hw6
            rw [HK.out]
            go_wp2_with fail
            refine (l1Once_any g b n c f 8 w6 L5.out.drw (by omega) (by omega)).mono ?_
            rintro e w7 ⟨o, rfl, hd7, ho7⟩
            have L7 : Hid (LSt w w7 g b n c f bx NN) := L5.out.move (BelC.ofOnly ho7) hd7
            clear hd7 ho7 L5
            cases o with
            | true =>
              go_wp2
              go_roundw
              case rel => exact ⟨k + 1, by omega, by go_num, ⟨at_ + (KK : Int), sq + 1 + 1, rfl, rfl, by omega, by omega, by omega, by omega⟩, L7.out⟩
              case measure => simp [intOf]; omega
            | false =>
              go_wp2
              go_roundw
              case rel => exact ⟨k + 1, by omega, by go_num, ⟨at_ + (KK : Int), sq + 1, rfl, rfl, by omega, by omega, by omega, by omega⟩, L7.out⟩
              case measure => simp [intOf]; omega
          · have hle2 : decide (at_ + (KK : Int) ≤ (NN : Int) / 64) = false := decide_eq_false hle
            obtain ⟨W5, hW5⟩ : ∃ W5, W5 = w4 := ⟨_, rfl⟩
            have L5 : Hid (LSt w W5 g b n c f bx NN) := by
              rw [hW5]
              exact L9.out.1.below J4.out
            clear HCC HOQ L9 HQ J0 J4 x0 x1 x2 x3 xf xl
            go_upto_region 14 with fail
            rw [← hW5]
            clear hW5 hle hle2
            go_wp2_with fail
            refine (specRecS M (by omega) W5).mono ?_
            rintro e w6 ⟨rfl, hw6⟩
            subst hw6
            rw [HK.out]
            go_wp2_with fail
            refine (l1Once_any g b n c f 8 w6 L5.out.drw (by omega) (by omega)).mono ?_
            rintro e w7 ⟨o, rfl, hd7, ho7⟩
            have L7 : Hid (LSt w w7 g b n c f bx NN) := L5.out.move (BelC.ofOnly ho7) hd7
            clear hd7 ho7 L5
            cases o with
            | true =>
              go_wp2
              go_roundw
              case rel => exact ⟨k + 1, by omega, by go_num, ⟨at_ + (KK : Int), sq + 1 + 1, rfl, rfl, by omega, by omega, by omega, by omega⟩, L7.out⟩
              case measure => simp [intOf]; omega
            | false =>
              go_wp2
              go_roundw
              case rel => exact ⟨k + 1, by omega, by go_num, ⟨at_ + (KK : Int), sq + 1, rfl, rfl, by omega, by omega, by omega, by omega⟩, L7.out⟩
              case measure => simp [intOf]; omega
        · go_wp2
          go_roundw
          case rel => exact ⟨j + 1, by omega, by go_num, LR.out⟩
          case measure => simp [intOf]; omega
    · obtain ⟨t, hq, hfr⟩ := LR.out
      obtain ⟨a0, c0, p0, q0, A0, hrow, hoq⟩ := hq.box
      obtain ⟨x0, x1, x2, x3, xf, xl⟩ := hrow.cells
      obtain ⟨r0, r1, r2, r3, rf, rl⟩ := hq.res.cells
      have hbx1 : w.heap.size < bx := hq.lt
      have hne1 : ¬ (bx = w.heap.size) := by omega
      have hne2 : ¬ (w.heap.size = bx) := by omega
      have HF : Hid (OwnQ wr w.heap.size a0 NN c0 t.d p0 t.m q0 t.S t.L t.F A0 ∧ Fair NN t ∧ DrwL wr w.heap.size g b n c f ∧ BelC w.heap.size g w wr ∧ DkRow wr w.heap.size (.slice none 0 0) (.slice none 0 0) 0 false) := ⟨hoq, hfr, hq.cur, hq.bel, hq.res⟩
      clear hq hfr hrow hoq LR
      have l1 : ¬ (j : Int) < 2 := by omega
      go_wp2
      refine bodyPost_ret (v := .agg #[.slice a0 NN c0, .slice p0 t.m q0, .int .i64 t.fuel, .bool t.dead]) (by simp [results, Try.results35, go_sem, r0, r1, r2, r3]) rfl ⟨NN, t, a0, p0, c0, q0, A0, rfl, ?_, HF.out.2.1, ?_, ?_⟩
      · exact HF.out.1.onlyDk HF.out.2.2.2.2 (((((OnlyAt.refl _ _).setCell 0 _).setCell 1 _).setCell 2 _).setCell 3 _)
      · exact (HF.out.2.2.1.below (((((Below.refl _ _).setCell (by simp) _).setCell (by simp) _).setCell (by simp) _).setCell (by simp) _)).drw
      · exact (((HF.out.2.2.2.1.setCell (by simp) _).setCell (by simp) _).setCell (by simp) _).setCell (by simp) _
end Go.Proofs.Ytlcamfkgkcjehaa
