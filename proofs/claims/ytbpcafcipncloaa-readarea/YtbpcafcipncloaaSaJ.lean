import Derived.Test.YtbpcafcipncloaaSaP
import Derived.BigQuiet
import Derived.Deep.CutRange
namespace Go.Proofs.Ytbpcafcipncloaa
open Go.RowKit Go.Deep
set_option linter.unusedVariables false
set_option maxRecDepth 100000

theorem l2Nr_at (x : Int) (b : Bool) (h : numB x = b) (w : World) : Calls Try.prog 35 #[.int .i64 x] w fun e w' => e = .returned (.bool b) ∧ w' = w := by rw [← h]; exact l2Number_any x w
theorem belowNext {W0 w w' : World} (h : Below W0.heap.size W0 w) (hb : Below w.heap.size w w') : Below W0.heap.size W0 w' := h.trans (hb.mono h.size)

/-- What reading a record at s gives, as values. -/
def RecOut (sec : Nat → Nat → Int) (ns s : Nat) (q : Int) (B : Nat) (bk : Bool) (a : Option Addr) (l : Nat) (kk : Int) (W : World) : Prop :=
  ((s < ns ∧ recOk (arG sec s) ((ns : Int) - (s : Int)) q) ∧ bk = true ∧ l = catL (recLz (arG sec s)) (arK sec s) ∧ kk = ((arK sec s : Nat) : Int) ∧ OwnB W B a (catL (recLz (arG sec s)) (arK sec s)) (catF (recLz (arG sec s)) (recFz (arG sec s)) (arK sec s))) ∨
    (¬ (s < ns ∧ recOk (arG sec s) ((ns : Int) - (s : Int)) q) ∧ bk = false ∧ a = none ∧ l = 0 ∧ kk = 0)

theorem OwnB.setRx {w : World} {B bo n k : Nat} {a : Option Addr} {f : Nat → Int} {u0 u1 u2 : Value} (h : OwnB w B a n f) (hr : RxRow w bo u0 u1 u2) (v : Value) : OwnB (w.setCell ⟨bo, k, none⟩ v) B a n f := by
  rcases h with h | ⟨g, rfl, hg, hr'⟩
  · exact Or.inl h
  · exact Or.inr ⟨g, rfl, hg, hr'.of_block (Below.heap_setCell _ _ _ _ (hr'.ne hr (by decide)))⟩
theorem RecOut.below {sec : Nat → Nat → Int} {ns s : Nat} {q : Int} {B : Nat} {bk : Bool} {a : Option Addr} {l : Nat} {kk : Int} {w w' : World} (h : RecOut sec ns s q B bk a l kk w) (hb : Below w.heap.size w w') : RecOut sec ns s q B bk a l kk w' := by
  rcases h with ⟨h1, h2, h3, h4, h5⟩ | h
  · exact Or.inl ⟨h1, h2, h3, h4, h5.below hb⟩
  · exact Or.inr h
theorem RecOut.mono {sec : Nat → Nat → Int} {ns s : Nat} {q : Int} {B B' : Nat} {bk : Bool} {a : Option Addr} {l : Nat} {kk : Int} {w : World} (h : RecOut sec ns s q B bk a l kk w) (hB : B' ≤ B) : RecOut sec ns s q B' bk a l kk w := by
  rcases h with ⟨h1, h2, h3, h4, h5⟩ | h
  · exact Or.inl ⟨h1, h2, h3, h4, h5.mono hB⟩
  · exact Or.inr h
theorem RxRow.put {w : World} {b : Nat} {v0 v1 v2 : Value} (h : RxRow w b v0 v1 v2) (x0 x1 x2 : Value) : RxRow (((w.setCell ⟨b, 0, none⟩ x0).setCell ⟨b, 1, none⟩ x1).setCell ⟨b, 2, none⟩ x2) b x0 x1 x2 :=
  (rowIn.set (rowIn.set (rowIn.set h 0 x0) 1 x1) 2 x2).congr (fun i hi => by match i, hi with
    | 0, _ => rfl
    | 1, _ => rfl
    | 2, _ => rfl)
theorem RxRow.put1' {w : World} {b : Nat} {v0 v1 v2 : Value} (h : RxRow w b v0 v1 v2) (x0 : Value) : RxRow (w.setCell ⟨b, 0, none⟩ x0) b x0 v1 v2 :=
  (rowIn.set h 0 x0).congr (fun i hi => by match i, hi with
    | 0, _ => rfl
    | 1, _ => rfl
    | 2, _ => rfl)
theorem RxRow.put2' {w : World} {b : Nat} {v0 v1 v2 : Value} (h : RxRow w b v0 v1 v2) (x1 : Value) : RxRow (w.setCell ⟨b, 1, none⟩ x1) b v0 x1 v2 :=
  (rowIn.set h 1 x1).congr (fun i hi => by match i, hi with
    | 0, _ => rfl
    | 1, _ => rfl
    | 2, _ => rfl)
theorem RecOut.put {sec : Nat → Nat → Int} {ns s : Nat} {q : Int} {B bo : Nat} {bk : Bool} {a : Option Addr} {l : Nat} {kk : Int} {w : World} {u0 u1 u2 : Value} (h : RecOut sec ns s q B bk a l kk w) (hr : RxRow w bo u0 u1 u2) (x0 x1 x2 : Value) : RecOut sec ns s q B bk a l kk (((w.setCell ⟨bo, 0, none⟩ x0).setCell ⟨bo, 1, none⟩ x1).setCell ⟨bo, 2, none⟩ x2) := by
  rcases h with ⟨h1, h2, h3, h4, h5⟩ | h
  · exact Or.inl ⟨h1, h2, h3, h4, ((h5.setRx hr _).setRx (hr.put1' _) _).setRx ((hr.put1' _).put2' _) _⟩
  · exact Or.inr h

/-- A record's answer in a box of its own. -/
def RB (sec : Nat → Nat → Int) (ns s : Nat) (q : Int) (W0 wx : World) (sv : Value) : Prop :=
  ∃ bo bk a l c kk, sv = .pointer (some ⟨bo, 0, none⟩) ∧ W0.heap.size ≤ bo ∧ RxRow wx bo (.bool bk) (.slice a l c) (.int .i64 kk) ∧ Below W0.heap.size W0 wx ∧ RecOut sec ns s q W0.heap.size bk a l kk wx
theorem rb_new {sec : Nat → Nat → Int} {ns s : Nat} {q : Int} {W0 w : World} {bk : Bool} {a : Option Addr} {l c : Nat} {kk : Int} (ho : RecOut sec ns s q W0.heap.size bk a l kk w) (hb : Below W0.heap.size W0 w) : RB sec ns s q W0 (w.alloc (.cells #[.bool bk, .slice a l c, .int .i64 kk] 35)) (.pointer (some ⟨w.heap.size, 0, none⟩)) :=
  ⟨_, bk, a, l, c, kk, rfl, hb.size, rxNew _ _ _ _, hb.alloc hb.size _, ho.below (below_alloc _ _)⟩
theorem rb_set {sec : Nat → Nat → Int} {ns s : Nat} {q : Int} {W0 w : World} {bo : Nat} {bk : Bool} {a : Option Addr} {l c : Nat} {kk : Int} {u0 u1 u2 : Value} (ho : RecOut sec ns s q W0.heap.size bk a l kk w) (hr : RxRow w bo u0 u1 u2) (hlo : W0.heap.size ≤ bo) (hb : Below W0.heap.size W0 w) : RB sec ns s q W0 (((w.setCell ⟨bo, 0, none⟩ (.bool bk)).setCell ⟨bo, 1, none⟩ (.slice a l c)).setCell ⟨bo, 2, none⟩ (.int .i64 kk)) (.pointer (some ⟨bo, 0, none⟩)) :=
  ⟨bo, bk, a, l, c, kk, rfl, hlo, hr.put _ _ _, ((hb.setCell hlo _).setCell hlo _).setCell hlo _, ho.put hr _ _ _⟩
theorem rb_late {sec : Nat → Nat → Int} {ns s : Nat} {q : Int} {W0 w : World} {bk : Bool} {a : Option Addr} {l c : Nat} {kk : Int} (ho : RecOut sec ns s q W0.heap.size bk a l kk w) (hb : Below W0.heap.size W0 w) : RB sec ns s q W0 ((((w.alloc (.cells #[.bool false, .slice none 0 0, .int .i64 0] 35)).setCell ⟨w.heap.size, 0, none⟩ (.bool bk)).setCell ⟨w.heap.size, 1, none⟩ (.slice a l c)).setCell ⟨w.heap.size, 2, none⟩ (.int .i64 kk)) (.pointer (some ⟨w.heap.size, 0, none⟩)) :=
  rb_set (ho.below (below_alloc _ _)) (rxNew _ _ _ _) hb.size (hb.alloc hb.size _)

/-- spec.ReadRec, its answer as values. -/
theorem specRec_out (a p : Option Addr) (n c m q : Nat) (d S : Nat → Int) (L : Nat → Nat) (F : Nat → Nat → Int) (fuel : Int) (dead : Bool) (y : Int) (s : Nat) (seq : Int) (w : World) (ha : Rd .u8 w a n d) (hp : RdP w p m S L F) (hv : VD n m S L fuel) (hq : numB seq = true) (hy : y = (s : Int)) (hs : s < n / 64) (hn : n ≤ 1048576) (hnc : n ≤ c) (hcm : c ≤ 9223372036854775807) (hm : m ≤ 1048576) (hr : ∀ s i, i < 64 → 0 ≤ secF d S F m s i ∧ secF d S F m s i < 256) :
    Calls Try.prog 15 #[.agg #[.slice a n c, .slice p m q, .int .i64 fuel, .bool dead], .int .i64 y, .int .i64 seq] w fun e w' => ∃ bk a' l c' kk, e = .returned (.agg #[.bool bk, .slice a' l c', .int .i64 kk]) ∧ RecOut (secF d S F m) (n / 64) s seq w.heap.size bk a' l kk w' ∧ Below w.heap.size w w' := by
  refine (specRec_st a p n c m q d S L F fuel dead y s seq w ha hp hv hq hy hs hn hnc hcm hm hr).mono ?_
  rintro e w' ⟨hb, ⟨h1, a', c', he, ho⟩ | ⟨h1, he⟩⟩
  · exact ⟨true, a', _, c', _, he, Or.inl ⟨h1, rfl, rfl, rfl, ho⟩, hb⟩
  · exact ⟨false, none, 0, 0, 0, he, Or.inr ⟨h1, rfl, rfl, rfl, rfl⟩, hb⟩

set_option maxHeartbeats 4000000 in
theorem specArea_good (a p : Option Addr) (n c m q : Nat) (d S : Nat → Int) (L : Nat → Nat) (F : Nat → Nat → Int) (fuel : Int) (dead : Bool) (x first : Int) (ar A b0 J : Nat) (w : World) (ha : Rd .u8 w a n d) (hp : RdP w p m S L F) (hv : VD n m S L fuel) (hx : x = (ar : Int)) (har : ar ≤ 1) (hq : numB first = true) (hA : A = (n / 64 - 2) / 2) (hb0 : b0 = 2 + ar * A) (hn : n ≤ 1048576) (hnc : n ≤ c) (hcm : c ≤ 9223372036854775807) (hm : m ≤ 1048576) (hr : ∀ s i, i < 64 → 0 ≤ secF d S F m s i ∧ secF d S F m s i < 256)
    (hJ : ∀ j, j < J → arGood (secF d S F m) (n / 64) A b0 first j) (hJn : ¬ arGood (secF d S F m) (n / 64) A b0 first J) :
    Calls Try.prog 27 #[.agg #[.slice a n c, .slice p m q, .int .i64 fuel, .bool dead], .int .i64 x, .int .i64 first] w (RetA w (decide (0 < J)) J (arL (secF d S F m) b0) (arF (secF d S F m) b0) (arU (secF d S F m) b0 J) (if 0 < J then first + J else 0)) := by
  obtain ⟨Q, hQ⟩ : ∃ Q : Ending → World → Prop, Q = RetA w (decide (0 < J)) J (arL (secF d S F m) b0) (arF (secF d S F m) b0) (arU (secF d S F m) b0 J) (if 0 < J then first + J else 0) := ⟨_, rfl⟩
  rw [← hQ]
  have HQQ : Hid (Q = RetA w (decide (0 < J)) J (arL (secF d S F m) b0) (arF (secF d S F m) b0) (arU (secF d S F m) b0 J) (if 0 < J then first + J else 0)) := hQ
  clear hQ
  have HA : Hid (Rd .u8 w a n d) := ha
  have HP : Hid (RdP w p m S L F) := hp
  have HV : Hid (VD n m S L fuel) := hv
  have HR : Hid (∀ s i, i < 64 → 0 ≤ secF d S F m s i ∧ secF d S F m s i < 256) := hr
  have HJ : Hid (∀ j, j < J → arGood (secF d S F m) (n / 64) A b0 first j) := hJ
  have HJN : Hid (¬ arGood (secF d S F m) (n / 64) A b0 first J) := hJn
  have HX : Hid (x = (ar : Int) ∧ ar ≤ 1 ∧ A = (n / 64 - 2) / 2 ∧ b0 = 2 + ar * A ∧ areaB x = true) := ⟨hx, har, hA, hb0, by subst hx; unfold areaB; simp; omega⟩
  have HQ : Hid (numB first = true ∧ 1 ≤ first ∧ first ≤ 2000000000) := by
    refine ⟨hq, ?_⟩
    unfold numB at hq
    simp at hq
    omega
  have h16 : Hid (16 ≤ n / 64 ∧ n / 64 ≤ 1024) := by
    show _ ∧ _
    have := hv.1; unfold VH at this; omega
  have hb8 : Hid (b0 ≤ 1024 ∧ b0 + A ≤ n / 64 ∧ A ≤ 511) := by
    show _ ∧ _ ∧ _
    have h16' := h16.out
    have : ar * A ≤ 1 * A := Nat.mul_le_mul_right _ har
    omega
  have hq1 := HQ.out.2.1
  have hq2 := HQ.out.2.2
  have HFIN : Hid (∀ W : World, Below (w.heap.size + 2) ((w.alloc (.cells #[.slice a n c, .slice p m q, .int .i64 fuel, .bool dead] 39)).alloc (.cells #[.bool false, .slice none 0 0, .int .i64 0, .int .i64 0] 51)) W → Below w.heap.size w W) := fun W h => ((below_alloc _ _).trans ((below_alloc _ _).mono (by simp))).trans (h.mono (by omega))
  have HE2 : Hid (∀ o1 o2, ((w.alloc o1).alloc o2).heap.size = w.heap.size + 2) := fun _ _ => by simp
  have c1 : ¬ x < 0 := by omega
  have c1' : decide (x < 0) = false := decide_eq_false c1
  have c2 : ¬ (1 : Int) < x := by omega
  have c2' : decide ((1 : Int) < x) = false := decide_eq_false c2
  clear ha hp hv hr hJ hJn hx har hA hb0 hq
  go_enter Try.func27, Try.ntmps27
  go_wp2_with fail
  refine (specValid_any a p n c m q S L F fuel dead _ (HP.out.below ((below_alloc _ _).trans ((below_alloc _ _).mono (by simp)))) hn hm).mono ?_
  rintro e w1 ⟨h1, hb1⟩
  have := ans_true' h1 HV.out
  subst this
  rw [HE2.out] at hb1
  have K1 : Hid (Below (w.heap.size + 2) ((w.alloc (.cells #[.slice a n c, .slice p m q, .int .i64 fuel, .bool dead] 39)).alloc (.cells #[.bool false, .slice none 0 0, .int .i64 0, .int .i64 0] 51)) w1) := hb1
  have z1 : w.heap.size + 2 ≤ w1.heap.size := by have := hb1.size; rw [HE2.out] at this; exact this
  have hc1 : ∀ b o, b < w.heap.size + 2 → w1.cell? ⟨b, o, none⟩ = _ := fun b o hb => K1.out.cell (p := ⟨b, o, none⟩) hb
  clear hb1 h1
  go_wp2_with fail
  refine (l2Number_any first w1).mono ?_
  rintro e w4 ⟨he, hw3⟩
  subst hw3
  rw [HQ.out.1] at he
  subst he
  have K4 : Hid (Below (w.heap.size + 2) ((w.alloc (.cells #[.slice a n c, .slice p m q, .int .i64 fuel, .bool dead] 39)).alloc (.cells #[.bool false, .slice none 0 0, .int .i64 0, .int .i64 0] 51)) w4) := K1.out
  clear hc1 K1
  have hcw4 : ∀ b o, b < w.heap.size + 2 → w4.cell? ⟨b, o, none⟩ = _ := fun b o hb => K4.out.cell (p := ⟨b, o, none⟩) hb
  have D4 : Hid (ArSt w w4 a p n c m q fuel dead (w4.alloc (.cells #[.bool false, .slice none 0 0, .int .i64 0, .int .i64 first] 51)) (.bool (decide (0 < 0))) (.slice none 0 0) (.int .i64 (arU (secF d S F m) b0 0)) (.int .i64 (first + ((0 : Nat) : Int)))) := by
    rw [show first + ((0 : Nat) : Int) = first from by simp]
    exact ⟨axNew w4 _ _ _ _, K4.out.trans ((below_alloc _ _).mono (by omega)), by omega⟩
  clear hcw4 K4
  go_wp2
  go_loopw [8] (fun _ wr => ∃ (j : Nat) (v : Value) (AA : Nat → Option Addr) (CC : Nat → Nat), j ≤ J ∧ ArSt w w4 a p n c m q fuel dead wr (.bool (decide (0 < j))) v (.int .i64 (arU (secF d S F m) b0 j)) (.int .i64 (first + j)) ∧ GathY wr (w4.heap.size + 1) v j (arL (secF d S F m) b0) (arF (secF d S F m) b0) AA CC ∧ Below w4.heap.size w4 wr) (fun _ wr => 2000000001 - (nextOf wr w4.heap.size).toNat)
  case atStart => exact ⟨0, _, _, _, Nat.zero_le _, D4.out, GathY.start _ _ _ _, below_alloc _ _⟩
  case round =>
    obtain ⟨j, v, AA, CC, hj, hst, hga, hbw⟩ := hrel
    have HST : Hid (ArSt w w4 a p n c m q fuel dead wr (.bool (decide (0 < j))) v (.int .i64 (arU (secF d S F m) b0 j)) (.int .i64 (first + j))) := hst
    have HGA : Hid (GathY wr (w4.heap.size + 1) v j (arL (secF d S F m) b0) (arF (secF d S F m) b0) AA CC) := hga
    have HBW : Hid (Below w4.heap.size w4 wr) := hbw
    obtain ⟨r0, r1, r2, r3, rf, rl⟩ := hst.box.cells
    obtain ⟨x0, x1, x2, x3, xl⟩ := hst.disk
    obtain ⟨U, hU⟩ : ∃ U, U = arU (secF d S F m) b0 j := ⟨_, rfl⟩
    have HU : Hid (U = arU (secF d S F m) b0 j) := hU
    rw [← hU] at r2
    have hUle : U ≤ 511 := by rw [hU]; have := arU_le j (fun i hi => HJ.out i (by omega)); have := hb8.out; omega
    have hb1024 := hb8.out.1
    have hjU : j ≤ 511 := by have := arU_le j (fun i hi => HJ.out i (by omega)); have := hb8.out; omega
    have w1' : IntKind.i64.wrap ((b0 : Int) + (U : Int)) = ((b0 + U : Nat) : Int) := by rw [IntKind.wrap_i64]; omega
    clear hst hga hbw hU
    have HF : Hid (∀ W : World, Below wr.heap.size wr W → ((W.cell? ⟨w.heap.size, 0, none⟩ = some (.slice a n c) ∧ W.cell? ⟨w.heap.size, 1, none⟩ = some (.slice p m q) ∧ W.cell? ⟨w.heap.size, 2, none⟩ = some (.int .i64 fuel) ∧ W.cell? ⟨w.heap.size, 3, none⟩ = some (.bool dead)) ∧ W.cell? ⟨w4.heap.size, 2, none⟩ = some (.int .i64 (U : Int)) ∧ W.cell? ⟨w4.heap.size, 3, none⟩ = some (.int .i64 (first + (j : Int)))) ∧ ArSt w w4 a p n c m q fuel dead W (.bool (decide (0 < j))) v (.int .i64 (U : Int)) (.int .i64 (first + j)) ∧ GathY W (w4.heap.size + 1) v j (arL (secF d S F m) b0) (arF (secF d S F m) b0) AA CC ∧ Below w4.heap.size w4 W ∧ wr.heap.size ≤ W.heap.size) := by
      intro W hW
      have q3 : ArSt w w4 a p n c m q fuel dead W (.bool (decide (0 < j))) v (.int .i64 (U : Int)) (.int .i64 (first + j)) := by
        rw [HU.out]
        exact HST.out.keep hW
      obtain ⟨k0, k1, k2, k3, -⟩ := q3.disk
      exact ⟨⟨⟨k0, k1, k2, k3⟩, q3.box.cells.2.2.1, q3.box.cells.2.2.2.1⟩, q3, HGA.out.below hW, HBW.out.trans (hW.mono HBW.out.size), hW.size⟩
    have hA511 := hb8.out.2.2
    by_cases hnum : first + (j : Int) ≤ 2000000000
    · have HNUM : Hid (numB (first + (j : Int)) = true) := by
        show _ = true
        unfold numB
        simp
        omega
      by_cases hUA : U < A
      · have hUA' : (U : Int) < (A : Int) := by omega
        have hUA2 : decide ((U : Int) < (A : Int)) = true := decide_eq_true hUA'
        clear r0 r1 rf
        go_wp2
        go_region_held3 (fun w' => (w'.cell? ⟨w.heap.size, 0, none⟩ = some (.slice a n c) ∧ w'.cell? ⟨w.heap.size, 1, none⟩ = some (.slice p m q) ∧ w'.cell? ⟨w.heap.size, 2, none⟩ = some (.int .i64 fuel) ∧ w'.cell? ⟨w.heap.size, 3, none⟩ = some (.bool dead)) ∧ w'.cell? ⟨w4.heap.size, 2, none⟩ = some (.int .i64 (U : Int)) ∧ w'.cell? ⟨w4.heap.size, 3, none⟩ = some (.int .i64 (first + (j : Int)))) (go_keep)
          (first
          | (go_at_call 35; refine (l2Number_any (first + (j : Int)) wr.drew).mono ?_; rintro e w8 ⟨he, hw8⟩; subst hw8; rw [HNUM.out] at he; subst he)
          | (go_at_call 57; refine (l2AreaSize_any a p n c m q fuel dead A wr.drew hn h16.out.1 HX.out.2.2.1).mono ?_; rintro e w9 ⟨rfl, hb9⟩; obtain ⟨⟨⟨u0, u1, u2, u3⟩, u4, u5⟩, -⟩ := HF.out w9 ((Below.refl _ _).drew.trans hb9)))
        have B9 : Hid (Below wr.heap.size wr w9) := (Below.refl _ _).drew.trans hb9
        clear hb9 x0 x1 x2 x3 xl r2 r3 rl
        have z9 := B9.out.size
        have HRR : Hid (∀ W : World, Below w9.heap.size w9 W → Calls Try.prog 15 #[.agg #[.slice a n c, .slice p m q, .int .i64 fuel, .bool dead], .int .i64 ((b0 : Int) + (U : Int)), .int .i64 (first + (j : Int))] W fun e w' => ∃ bk a' l c' kk, e = .returned (.agg #[.bool bk, .slice a' l c', .int .i64 kk]) ∧ RecOut (secF d S F m) (n / 64) (b0 + U) (first + (j : Int)) W.heap.size bk a' l kk w' ∧ Below W.heap.size W w') := by
          intro W hW
          have hb : Below w.heap.size w W := HFIN.out _ (HF.out W (B9.out.trans (hW.mono z9))).2.1.base
          exact specRec_out a p n c m q d S L F fuel dead _ (b0 + U) (first + j) W (HA.out.below hb) (HP.out.below hb) HV.out HNUM.out (by omega) (by have := hb8.out; omega) hn hnc hcm hm HR.out
        have HAF : Hid (∀ W : World, Calls Try.prog 58 #[.agg #[.slice a n c, .slice p m q, .int .i64 fuel, .bool dead], .int .i64 x] W fun e w' => e = .returned (.int .i64 (b0 : Int)) ∧ Below W.heap.size W w') := by
          intro W
          have := l2AreaFrom_any a p n c m q fuel dead A ar x W hn h16.out.1 HX.out.2.2.1 HX.out.1 HX.out.2.1
          rw [← HX.out.2.2.2.1] at this
          exact this
        have HF9 : Hid (∀ W : World, Below w9.heap.size w9 W → ((W.cell? ⟨w.heap.size, 0, none⟩ = some (.slice a n c) ∧ W.cell? ⟨w.heap.size, 1, none⟩ = some (.slice p m q) ∧ W.cell? ⟨w.heap.size, 2, none⟩ = some (.int .i64 fuel) ∧ W.cell? ⟨w.heap.size, 3, none⟩ = some (.bool dead)) ∧ W.cell? ⟨w4.heap.size, 2, none⟩ = some (.int .i64 (U : Int)) ∧ W.cell? ⟨w4.heap.size, 3, none⟩ = some (.int .i64 (first + (j : Int)))) ∧ (w.heap.size < W.heap.size ∧ w4.heap.size < W.heap.size)) := by
          intro W hW
          have q := HF.out W (B9.out.trans (hW.mono z9))
          exact ⟨q.1, q.2.1.disk.2.2.2.2, q.2.1.box.cells.2.2.2.2.2⟩
        have BD9 : Hid (Below w9.heap.size w9 w9.drew) := (Below.refl _ _).drew
        obtain ⟨⟨⟨x0, x1, x2, x3⟩, x4, x5⟩, xz, xy⟩ := HF9.out w9 (Below.refl _ _)
        clear u0 u1 u2 u3 u4 u5
        go_wp2
        go_cut [8] from 38 to 47 (fun s8 wx => RB (secF d S F m) (n / 64) (b0 + U) (first + (j : Int)) w9 wx s8)
        case first =>
          obtain ⟨m10, m11⟩ : ¬ (w9.heap.size = w.heap.size) ∧ ¬ (w9.heap.size = w4.heap.size) := by omega
          obtain ⟨m12, m13⟩ : ¬ (w.heap.size = w9.heap.size) ∧ ¬ (w4.heap.size = w9.heap.size) := by omega
          go_region_held3 (fun w' => (w'.cell? ⟨w.heap.size, 0, none⟩ = some (.slice a n c) ∧ w'.cell? ⟨w.heap.size, 1, none⟩ = some (.slice p m q) ∧ w'.cell? ⟨w.heap.size, 2, none⟩ = some (.int .i64 fuel) ∧ w'.cell? ⟨w.heap.size, 3, none⟩ = some (.bool dead)) ∧ w'.cell? ⟨w4.heap.size, 2, none⟩ = some (.int .i64 (U : Int)) ∧ w'.cell? ⟨w4.heap.size, 3, none⟩ = some (.int .i64 (first + (j : Int)))) (go_keep)
            (first
            | (go_at_call 58; refine (HAF.out w9.drew).mono ?_; rintro e w2 ⟨rfl, hb2⟩; have b2 := belowNext BD9.out hb2; obtain ⟨⟨⟨u0, u1, u2, u3⟩, u4, u5⟩, vz, vy⟩ := HF9.out w2 b2; obtain ⟨mw0, mw1⟩ : ¬ (w2.heap.size = w.heap.size) ∧ ¬ (w2.heap.size = w4.heap.size) := (by omega); obtain ⟨mw2, mw3⟩ : ¬ (w.heap.size = w2.heap.size) ∧ ¬ (w4.heap.size = w2.heap.size) := (by omega); have zz : w9.heap.size ≤ w2.heap.size := hb2.size)
            | (go_at_call 58; refine (HAF.out (w9.drew.alloc (.cells #[.bool false, .slice none 0 0, .int .i64 0] 35))).mono ?_; rintro e w2 ⟨rfl, hb2⟩; have b2 := belowNext (BD9.out.alloc BD9.out.size _) hb2; obtain ⟨⟨⟨u0, u1, u2, u3⟩, u4, u5⟩, vz, vy⟩ := HF9.out w2 b2; obtain ⟨mw0, mw1⟩ : ¬ (w2.heap.size = w.heap.size) ∧ ¬ (w2.heap.size = w4.heap.size) := (by omega); obtain ⟨mw2, mw3⟩ : ¬ (w.heap.size = w2.heap.size) ∧ ¬ (w4.heap.size = w2.heap.size) := (by omega); have k2 : RxRow w2 w9.heap.size (.bool false) (.slice none 0 0) (.int .i64 0) := (rxNew w9.drew _ _ _).below hb2; have zz : w9.heap.size + 1 ≤ w2.heap.size := (by have := hb2.size; rw [alloc_size] at this; exact this))
            | (go_at_call 15; refine (HRR.out w2 b2).mono ?_; rintro e w3 ⟨bk, a5, l, c5, kk, rfl, ho3, hb3⟩; have b3 := belowNext b2 hb3; obtain ⟨⟨⟨u0, u1, u2, u3⟩, u4, u5⟩, tz, ty⟩ := HF9.out w3 b3; obtain ⟨nw0, nw1⟩ : ¬ (w3.heap.size = w.heap.size) ∧ ¬ (w3.heap.size = w4.heap.size) := (by omega); obtain ⟨nw2, nw3⟩ : ¬ (w.heap.size = w3.heap.size) ∧ ¬ (w4.heap.size = w3.heap.size) := (by omega); have zx := hb3.size; (try have k3 := k2.below hb3); (try obtain ⟨f0, f1, f2, fl⟩ := k3.cells); (try have ff : ∀ o, w3.frozen? ⟨w9.heap.size, o, none⟩ = false := fun o => rowIn.frozen k3 o))
            | (go_at_call 15; refine (HRR.out (w2.alloc (.cells #[.bool false, .slice none 0 0, .int .i64 0] 35)) (b2.alloc b2.size _)).mono ?_; rintro e w3 ⟨bk, a5, l, c5, kk, rfl, ho3, hb3⟩; have b3 := belowNext (b2.alloc b2.size _) hb3; obtain ⟨⟨⟨u0, u1, u2, u3⟩, u4, u5⟩, tz, ty⟩ := HF9.out w3 b3; obtain ⟨nw0, nw1⟩ : ¬ (w3.heap.size = w.heap.size) ∧ ¬ (w3.heap.size = w4.heap.size) := (by omega); obtain ⟨nw2, nw3⟩ : ¬ (w.heap.size = w3.heap.size) ∧ ¬ (w4.heap.size = w3.heap.size) := (by omega); have k3 : RxRow w3 w2.heap.size (.bool false) (.slice none 0 0) (.int .i64 0) := (rxNew w2 _ _ _).below hb3; obtain ⟨f0, f1, f2, fl⟩ := k3.cells; have ff : ∀ o, w3.frozen? ⟨w2.heap.size, o, none⟩ = false := (fun o => rowIn.frozen k3 o); have zx := hb3.size; rw [alloc_size] at zx ho3)
            | fail)
          all_goals
            go_wp2
            go_meet
            case rel =>
              have q2 := b2.size
              have q3 := b3.size
              first
              | ((with_reducible refine rb_set (ho3.mono ?_) k3 ?_ b3) <;> omega)
              | ((with_reducible refine rb_new (ho3.mono ?_) b3) <;> omega)
              | ((with_reducible refine rb_late (ho3.mono ?_) b3) <;> omega)
        case rest =>
        obtain ⟨bo, bk, a5, l, c5, kk, rfl, hlo, hrx, hb6, hout⟩ := hcut
        have X6 : Hid (RxRow wc bo (.bool bk) (.slice a5 l c5) (.int .i64 kk)) := hrx
        have B6 : Hid (Below wr.heap.size wr wc) := B9.out.trans (hb6.mono z9)
        have O6 : Hid (RecOut (secF d S F m) (n / 64) (b0 + U) (first + (j : Int)) w9.heap.size bk a5 l kk wc) := hout
        have z6 := hb6.size
        have hz4 := HBW.out.size
        have hlw := HST.out.le
        clear hrx hb6 hout HRR HAF HF9 BD9 x0 x1 x2 x3 x4 x5 xz xy
        obtain ⟨⟨⟨y0, y1, y2, y3⟩, y4, y5⟩, -⟩ := HF.out wc B6.out
        obtain ⟨f0, f1, f2, fl⟩ := X6.out.cells
        cases bk with
        | false =>
          have hng : ¬ arGood (secF d S F m) (n / 64) A b0 first j := by
            intro hg
            rcases O6.out with ⟨_, h2, _⟩ | ⟨h1, _⟩
            · cases h2
            · exact h1 ⟨by rw [HU.out]; exact hg.2.1, by rw [HU.out]; exact hg.2.2.1⟩
          go_wp2
          go_quiet (fail)
          clear y0 y1 y2 y3 y4 y5 f0 f1 f2 fl
          have e : j = J := Nat.le_antisymm hj (Nat.le_of_not_lt (fun h => hng (HJ.out j h)))
          subst e
          obtain ⟨-, AF0, GF0, -, -⟩ := HF.out (wc.drewN nq) (below_drewN B6.out nq)
          obtain ⟨pv, qv, hvv, hoy⟩ := GF0.ownY
          subst hvv
          have AF : Hid (ArSt w w4 a p n c m q fuel dead (wc.drewN nq) (.bool (decide (0 < j))) (.slice pv j qv) (.int .i64 (U : Int)) (.int .i64 (first + (j : Int)))) := AF0
          have OY : Hid (OwnY (wc.drewN nq) (w4.heap.size + 1) pv j (arL (secF d S F m) b0) (arF (secF d S F m) b0) AA) := hoy
          clear hoy AF0 GF0
          obtain ⟨g0, g1, g2, g3, gf, gl⟩ := (AF.out.box).cells
          have RB : Hid (AxRow (wc.drewN nq) (w.heap.size + 1) (.bool false) (.slice none 0 0) (.int .i64 0) (.int .i64 0)) := by
            have r := axNew (w.alloc (.cells #[.slice a n c, .slice p m q, .int .i64 fuel, .bool dead] 39)) (.bool false) (.slice none 0 0) (.int .i64 0) (.int .i64 0)
            rw [alloc_size] at r
            exact rowIn.of_block r (AF.out.base.block _ (by omega))
          obtain ⟨e0, e1, e2, e3, ef, el⟩ := RB.out.cells
          have hlw2 := AF.out.le
          have hne5 : ¬ (w.heap.size + 1 = w4.heap.size) := by omega
          by_cases hj0 : 0 < j
          · have hd : decide (0 < j) = true := by simpa using hj0
            rw [hd] at g0
            have HFX : Hid (OwnY (wc.drewN nq) (w4.heap.size + 1) pv j (arL (secF d S F m) b0) (arF (secF d S F m) b0) AA ∧ Below w.heap.size w (wc.drewN nq)) := ⟨OY.out, HFIN.out _ AF.out.base⟩
            go_wp2
            refine bodyPost_ret (v := .agg #[.bool true, .slice pv j qv, .int .i64 (U : Int), .int .i64 (first + (j : Int))]) (by simp [results, Try.results27, go_sem, e0, e1, e2, e3]) rfl ?_
            rw [HQQ.out]
            refine ⟨pv, qv, AA, ?_, ?_, ?_⟩
            · rw [hd, if_pos hj0, ← HU.out]
            · exact ((((HFX.out.1.setOther (by show w.heap.size + 1 < w4.heap.size + 1; omega) _).setOther (by show w.heap.size + 1 < w4.heap.size + 1; omega) _).setOther (by show w.heap.size + 1 < w4.heap.size + 1; omega) _).setOther (by show w.heap.size + 1 < w4.heap.size + 1; omega) _).mono (by omega)
            · exact (((HFX.out.2.setCell (by show w.heap.size ≤ w.heap.size + 1; omega) _).setCell (by show w.heap.size ≤ w.heap.size + 1; omega) _).setCell (by show w.heap.size ≤ w.heap.size + 1; omega) _).setCell (by show w.heap.size ≤ w.heap.size + 1; omega) _
          · have hd : decide (0 < j) = false := by simpa using hj0
            have hj1 : j = 0 := by omega
            rw [hd] at g0
            have HFX : Hid (Below w.heap.size w (wc.drewN nq)) := HFIN.out _ AF.out.base
            go_wp2
            refine bodyPost_ret (v := .agg #[.bool false, .slice none 0 0, .int .i64 0, .int .i64 0]) (by simp [results, Try.results27, go_sem, e0, e1, e2, e3]) rfl ?_
            rw [HQQ.out]
            refine ⟨none, 0, fun _ => none, ?_, Or.inl hj1, ?_⟩
            · rw [hd, if_neg hj0, hj1]
              rfl
            · exact (((HFX.out.setCell (by show w.heap.size ≤ w.heap.size + 1; omega) _).setCell (by show w.heap.size ≤ w.heap.size + 1; omega) _).setCell (by show w.heap.size ≤ w.heap.size + 1; omega) _).setCell (by show w.heap.size ≤ w.heap.size + 1; omega) _
        | true =>
          obtain ⟨K, hK⟩ : ∃ K, K = arK (secF d S F m) (b0 + U) := ⟨_, rfl⟩
          have HK : Hid (K = arK (secF d S F m) (b0 + U)) := hK
          have P6 : Hid ((b0 + U < n / 64 ∧ recOk (arG (secF d S F m) (b0 + U)) (((n / 64 : Nat) : Int) - ((b0 + U : Nat) : Int)) (first + (j : Int))) ∧ l = arL (secF d S F m) b0 j ∧ kk = (K : Int) ∧ OwnB wc w9.heap.size a5 (arL (secF d S F m) b0 j) (arF (secF d S F m) b0 j)) := by
            rcases O6.out with ⟨h1, _, h3, h4, h5⟩ | ⟨_, h2, _⟩
            · rw [HK.out]
              unfold arL arF
              rw [← HU.out]
              exact ⟨h1, h3, h4, h5⟩
            · cases h2
          have hk1 : 1 ≤ K ∧ K ≤ 625 := by
            have q1 := P6.out.1.2.1
            have q2 := P6.out.1.2.2.1
            unfold arG at q1 q2
            rw [Nat.add_zero] at q1 q2
            rw [HK.out]
            unfold arK
            omega
          have hkk := P6.out.2.2.1
          subst hkk
          have HLJ : Hid (l = arL (secF d S F m) b0 j) := P6.out.2.1
          have HC : Hid (∀ w7 : World, Below wc.drew.heap.size wc.drew w7 → (((w7.cell? ⟨w.heap.size, 0, none⟩ = some (.slice a n c) ∧ w7.cell? ⟨w.heap.size, 1, none⟩ = some (.slice p m q) ∧ w7.cell? ⟨w.heap.size, 2, none⟩ = some (.int .i64 fuel) ∧ w7.cell? ⟨w.heap.size, 3, none⟩ = some (.bool dead)) ∧ w7.cell? ⟨w4.heap.size, 2, none⟩ = some (.int .i64 (U : Int)) ∧ w7.cell? ⟨w4.heap.size, 3, none⟩ = some (.int .i64 (first + (j : Int)))) ∧ w7.cell? ⟨bo, 0, none⟩ = some (.bool true) ∧ w7.cell? ⟨bo, 2, none⟩ = some (.int .i64 (K : Int))) ∧ ArSt w w4 a p n c m q fuel dead w7 (.bool (decide (0 < j))) v (.int .i64 (U : Int)) (.int .i64 (first + j)) ∧ RxRow w7 bo (.bool true) (.slice a5 l c5) (.int .i64 (K : Int)) ∧ Below wr.heap.size wr w7 ∧ OwnB w7 wr.heap.size a5 (arL (secF d S F m) b0 j) (arF (secF d S F m) b0 j) ∧ wc.heap.size ≤ w7.heap.size) := by
            intro w7 hb7
            have q2 : Below wc.heap.size wc w7 := (Below.refl _ _).drew.trans hb7
            have q1 : Below wr.heap.size wr w7 := B6.out.trans (q2.mono (by omega))
            have q3 := HF.out w7 q1
            have q4 := X6.out.below q2
            exact ⟨⟨q3.1, q4.cells.1, q4.cells.2.2.1⟩, q3.2.1, q4, q1, (P6.out.2.2.2.mono z9).below q2, q2.size⟩
          have wk : IntKind.i64.wrap ((U : Int) + (K : Int)) = (U : Int) + (K : Int) := by rw [IntKind.wrap_i64]; omega
          by_cases hUK : U + K ≤ A
          · have hgood : arGood (secF d S F m) (n / 64) A b0 first j := ⟨hnum, by rw [← HU.out]; exact ⟨P6.out.1.1, P6.out.1.2, by rw [← HK.out]; exact hUK⟩⟩
            have hlt : j < J := by
              rcases Nat.lt_or_ge j J with h | h
              · exact h
              · exact absurd (by rw [show J = j by omega]; exact hgood) HJN.out
            clear hgood hK
            have hgt : ¬ (A : Int) < (U : Int) + (K : Int) := by omega
            have hgt' : decide ((A : Int) < (U : Int) + (K : Int)) = false := decide_eq_false hgt
            go_wp2
            go_region_held3 (fun w' => (w'.cell? ⟨w.heap.size, 0, none⟩ = some (.slice a n c) ∧ w'.cell? ⟨w.heap.size, 1, none⟩ = some (.slice p m q) ∧ w'.cell? ⟨w.heap.size, 2, none⟩ = some (.int .i64 fuel) ∧ w'.cell? ⟨w.heap.size, 3, none⟩ = some (.bool dead)) ∧ w'.cell? ⟨w4.heap.size, 2, none⟩ = some (.int .i64 (U : Int)) ∧ w'.cell? ⟨w4.heap.size, 3, none⟩ = some (.int .i64 (first + (j : Int))) ∧ w'.cell? ⟨bo, 0, none⟩ = some (.bool true) ∧ w'.cell? ⟨bo, 2, none⟩ = some (.int .i64 (K : Int))) (go_keep)
              (first
              | (go_at_call 57; refine (l2AreaSize_any a p n c m q fuel dead A wc.drew hn h16.out.1 HX.out.2.2.1).mono ?_; rintro e w7 ⟨rfl, hb7⟩; obtain ⟨⟨⟨⟨u0, u1, u2, u3⟩, u4, u5⟩, u6, u7⟩, A7, X7, B7, O7, z7⟩ := HC.out w7 hb7))
            clear y0 y1 y2 y3 y4 y5 f0 f1 f2 fl u0 u1 u2 u3 u4 u5 u6 u7 hb7
            obtain ⟨r0, r1, r2, r3, rf, rl⟩ := A7.box.cells
            obtain ⟨t0, t1, t2, tl⟩ := X7.cells
            have rl0 : w4.heap.size < wr.heap.size := HST.out.box.cells.2.2.2.2.2
            have hne : ¬ (bo = w4.heap.size) := by omega
            have hne2 : ¬ (w4.heap.size = bo) := by omega
            have hsz8 : (w7.setCell ⟨w4.heap.size, 0, none⟩ (.bool true)).heap.size = w7.heap.size := by simp
            have HGX : Hid (GathY ((w7.setCell ⟨w4.heap.size, 0, none⟩ (.bool true)).alloc (.cells #[.slice a5 l c5] 75)) (w4.heap.size + 1) v j (arL (secF d S F m) b0) (arF (secF d S F m) b0) AA CC) := ((HGA.out.below B7).setOther (by show w4.heap.size < w4.heap.size + 1; omega) _).below (below_alloc _ _)
            have HNW : Hid (∀ j u, [Value.slice a5 l c5][j]? = some u → ((w7.setCell ⟨w4.heap.size, 0, none⟩ (.bool true)).alloc (.cells #[.slice a5 l c5] 75)).cell? ((⟨w7.heap.size, 0, none⟩ : Addr).add j) = some u) := by
              have h := cell_one_new (w7.setCell ⟨w4.heap.size, 0, none⟩ (.bool true)) (.slice a5 l c5) 75
              rw [hsz8] at h
              exact h
            have hz10 : w4.heap.size + 1 ≤ ((w7.setCell ⟨w4.heap.size, 0, none⟩ (.bool true)).alloc (.cells #[.slice a5 l c5] 75)).heap.size := by rw [alloc_size, hsz8]; omega
            have A8 : Hid (AxRow ((w7.setCell ⟨w4.heap.size, 0, none⟩ (.bool true)).alloc (.cells #[.slice a5 l c5] 75)) w4.heap.size (.bool true) v (.int .i64 (U : Int)) (.int .i64 (first + j)) ∧ RxRow ((w7.setCell ⟨w4.heap.size, 0, none⟩ (.bool true)).alloc (.cells #[.slice a5 l c5] 75)) bo (.bool true) (.slice a5 l c5) (.int .i64 (K : Int)) ∧ Below (w.heap.size + 2) ((w.alloc (.cells #[.slice a n c, .slice p m q, .int .i64 fuel, .bool dead] 39)).alloc (.cells #[.bool false, .slice none 0 0, .int .i64 0, .int .i64 0] 51)) ((w7.setCell ⟨w4.heap.size, 0, none⟩ (.bool true)).alloc (.cells #[.slice a5 l c5] 75)) ∧ Below w4.heap.size w4 ((w7.setCell ⟨w4.heap.size, 0, none⟩ (.bool true)).alloc (.cells #[.slice a5 l c5] 75)) ∧ Below wr.heap.size w7 w7 ∧ OwnB ((w7.setCell ⟨w4.heap.size, 0, none⟩ (.bool true)).alloc (.cells #[.slice a5 l c5] 75)) wr.heap.size a5 (arL (secF d S F m) b0 j) (arF (secF d S F m) b0 j)) := by
              refine ⟨(A7.box.put0 _).below (below_alloc _ _), rowIn.below (rowIn.setOther X7 (by show bo ≠ w4.heap.size; omega) _) (below_alloc _ _), ?_, ?_, Below.refl _ _, ?_⟩
              · exact (A7.base.setCell (by show w.heap.size + 2 ≤ w4.heap.size; omega) _).alloc (by rw [hsz8]; omega) _
              · exact ((HBW.out.trans (B7.mono (by omega))).setCell (by show w4.heap.size ≤ w4.heap.size; omega) _).alloc (by rw [hsz8]; omega) _
              · exact (O7.setOther (by show w4.heap.size < wr.heap.size; omega) _).below (below_alloc _ _)
            have HOW7 : Hid (Below wr.heap.size wr w7) := B7
            clear A7 X7 B7 O7
            obtain ⟨i0, hi, hz0, hz1, hz2⟩ := info_parts infoPay
            go_wp2_with (at_builtin; refine wpList_append_own _ rfl _ _ 49 rfl (w4.heap.size + 1) 75 i0 (.agg #[.slice none 0 0]) 1 24 Try.underlying49 hi hz0 hz1 hz2 rfl (by decide) _ j _ rfl HGX.out.row ⟨w7.heap.size, 0, none⟩ 1 1 [.slice a5 l c5] rfl rfl HNW.out (by intro u hu; simp at hu; subst hu; rfl) (by unfold maxLen; omega) (by omega) hz10 ?_)
            intro v' w8 hown8 hgr8 _
            obtain ⟨pv, qv, hvv⟩ := owns_shape hown8
            subst hvv
            have hzw9 : ((w7.setCell ⟨w4.heap.size, 0, none⟩ (.bool true)).alloc (.cells #[.slice a5 l c5] 75)).heap.size = w7.heap.size + 1 := by rw [alloc_size, hsz8]
            have hz8 := hgr8.size
            have G8 : Hid (GathY w8 (w4.heap.size + 1) (.slice pv (j + 1) qv) (j + 1) (arL (secF d S F m) b0) (arF (secF d S F m) b0) (fun i => if i = j then a5 else AA i) (fun i => if i = j then c5 else CC i)) :=
              GathY.more1 (T := wr.heap.size) HGX.out (fun i hi => (HGA.out.each i hi).ltB) (by omega) a5 c5 A8.out.2.2.2.2.2 (by rw [← HLJ.out]; exact hown8) hgr8
            have P8 : Hid (AxRow w8 w4.heap.size (.bool true) v (.int .i64 (U : Int)) (.int .i64 (first + j)) ∧ RxRow w8 bo (.bool true) (.slice a5 l c5) (.int .i64 (K : Int)) ∧ Below (w.heap.size + 2) ((w.alloc (.cells #[.slice a n c, .slice p m q, .int .i64 fuel, .bool dead] 39)).alloc (.cells #[.bool false, .slice none 0 0, .int .i64 0, .int .i64 0] 51)) w8 ∧ Below w4.heap.size w4 w8) := by
              refine ⟨rowIn.of_block A8.out.1 (HGX.out.other hgr8 w4.heap.size (by omega) (Or.inl (by omega))), rowIn.of_block A8.out.2.1 (HGA.out.other hgr8 bo (by omega) (Or.inr (by omega))), ?_, ?_⟩
              · exact A8.out.2.2.1.grown hgr8 (by omega) (fun b e => by have := HGA.out.block b e; omega)
              · exact A8.out.2.2.2.1.grown hgr8 (by omega) (fun b e => by have := HGA.out.block b e; omega)
            clear hown8 hgr8 r0 r1 r2 r3 rf rl t0 t1 t2 tl HGX HNW A8
            obtain ⟨s0, s1, s2, s3, sf, sl⟩ := P8.out.1.cells
            obtain ⟨t0, t1, t2, tl⟩ := P8.out.2.1.cells
            have wj : IntKind.i64.wrap (first + (j : Int) + 1) = first + (j : Int) + 1 := by rw [IntKind.wrap_i64]; omega
            have HY : Hid (ArSt w w4 a p n c m q fuel dead (((w8.setCell ⟨w4.heap.size, 1, none⟩ (.slice pv (j + 1) qv)).setCell ⟨w4.heap.size, 2, none⟩ (.int .i64 ((U : Int) + (K : Int)))).setCell ⟨w4.heap.size, 3, none⟩ (.int .i64 (first + (j : Int) + 1))) (.bool (decide (0 < j + 1))) (.slice pv (j + 1) qv) (.int .i64 (arU (secF d S F m) b0 (j + 1))) (.int .i64 (first + ((j + 1 : Nat) : Int))) ∧ GathY (((w8.setCell ⟨w4.heap.size, 1, none⟩ (.slice pv (j + 1) qv)).setCell ⟨w4.heap.size, 2, none⟩ (.int .i64 ((U : Int) + (K : Int)))).setCell ⟨w4.heap.size, 3, none⟩ (.int .i64 (first + (j : Int) + 1))) (w4.heap.size + 1) (.slice pv (j + 1) qv) (j + 1) (arL (secF d S F m) b0) (arF (secF d S F m) b0) (fun i => if i = j then a5 else AA i) (fun i => if i = j then c5 else CC i) ∧ Below w4.heap.size w4 (((w8.setCell ⟨w4.heap.size, 1, none⟩ (.slice pv (j + 1) qv)).setCell ⟨w4.heap.size, 2, none⟩ (.int .i64 ((U : Int) + (K : Int)))).setCell ⟨w4.heap.size, 3, none⟩ (.int .i64 (first + (j : Int) + 1))) ∧ nextOf (((w8.setCell ⟨w4.heap.size, 1, none⟩ (.slice pv (j + 1) qv)).setCell ⟨w4.heap.size, 2, none⟩ (.int .i64 ((U : Int) + (K : Int)))).setCell ⟨w4.heap.size, 3, none⟩ (.int .i64 (first + (j : Int) + 1))) w4.heap.size = first + (j : Int) + 1 ∧ nextOf wr w4.heap.size = first + (j : Int)) := by
              have e1 : ((arU (secF d S F m) b0 (j + 1) : Nat) : Int) = (U : Int) + (K : Int) := by
                show ((arU (secF d S F m) b0 j + arK (secF d S F m) (b0 + arU (secF d S F m) b0 j) : Nat) : Int) = _
                rw [← HU.out, ← HK.out]
                simp
              have e2 : first + ((j + 1 : Nat) : Int) = first + (j : Int) + 1 := by omega
              have e3 : decide (0 < j + 1) = true := by simp
              have q1 : AxRow (((w8.setCell ⟨w4.heap.size, 1, none⟩ (.slice pv (j + 1) qv)).setCell ⟨w4.heap.size, 2, none⟩ (.int .i64 ((U : Int) + (K : Int)))).setCell ⟨w4.heap.size, 3, none⟩ (.int .i64 (first + (j : Int) + 1))) w4.heap.size (.bool true) (.slice pv (j + 1) qv) (.int .i64 ((U : Int) + (K : Int))) (.int .i64 (first + (j : Int) + 1)) := ((P8.out.1.put1 _).put2 _).put3 _
              have q4 : (((w8.setCell ⟨w4.heap.size, 1, none⟩ (.slice pv (j + 1) qv)).setCell ⟨w4.heap.size, 2, none⟩ (.int .i64 ((U : Int) + (K : Int)))).setCell ⟨w4.heap.size, 3, none⟩ (.int .i64 (first + (j : Int) + 1))).cell? ⟨w4.heap.size, 3, none⟩ = some (.int .i64 (first + (j : Int) + 1)) := q1.cells.2.2.2.1
              have q5 : wr.cell? ⟨w4.heap.size, 3, none⟩ = some (.int .i64 (first + (j : Int))) := HST.out.box.cells.2.2.2.1
              rw [e1, e2, e3]
              refine ⟨⟨q1, ?_, HST.out.le⟩, ?_, ?_, ?_, ?_⟩
              · exact ((P8.out.2.2.1.setCell (by show w.heap.size + 2 ≤ w4.heap.size; omega) _).setCell (by show w.heap.size + 2 ≤ w4.heap.size; omega) _).setCell (by show w.heap.size + 2 ≤ w4.heap.size; omega) _
              · exact ((G8.out.setOther (by show w4.heap.size < w4.heap.size + 1; omega) _).setOther (by show w4.heap.size < w4.heap.size + 1; omega) _).setOther (by show w4.heap.size < w4.heap.size + 1; omega) _
              · exact ((P8.out.2.2.2.setCell (by show w4.heap.size ≤ w4.heap.size; omega) _).setCell (by show w4.heap.size ≤ w4.heap.size; omega) _).setCell (by show w4.heap.size ≤ w4.heap.size; omega) _
              · unfold nextOf; rw [q4]
              · unfold nextOf; rw [q5]
            clear G8 P8
            go_wp2
            go_roundw
            case rel => exact ⟨j + 1, _, _, _, by omega, HY.out.1, HY.out.2.1, HY.out.2.2.1⟩
            case measure =>
              rw [HY.out.2.2.2.1, HY.out.2.2.2.2]
              omega
          · have hng : ¬ arGood (secF d S F m) (n / 64) A b0 first j := by
              intro hg
              apply hUK
              rw [HK.out, HU.out]
              exact hg.2.2.2
            clear hK
            have hgt : (A : Int) < (U : Int) + (K : Int) := by omega
            have hgt' : decide ((A : Int) < (U : Int) + (K : Int)) = true := decide_eq_true hgt
            go_wp2
            go_region_held3 (fun w' => (w'.cell? ⟨w.heap.size, 0, none⟩ = some (.slice a n c) ∧ w'.cell? ⟨w.heap.size, 1, none⟩ = some (.slice p m q) ∧ w'.cell? ⟨w.heap.size, 2, none⟩ = some (.int .i64 fuel) ∧ w'.cell? ⟨w.heap.size, 3, none⟩ = some (.bool dead)) ∧ w'.cell? ⟨w4.heap.size, 2, none⟩ = some (.int .i64 (U : Int)) ∧ w'.cell? ⟨w4.heap.size, 3, none⟩ = some (.int .i64 (first + (j : Int))) ∧ w'.cell? ⟨bo, 0, none⟩ = some (.bool true) ∧ w'.cell? ⟨bo, 2, none⟩ = some (.int .i64 (K : Int))) (go_keep)
              (first
              | (go_at_call 57; refine (l2AreaSize_any a p n c m q fuel dead A wc.drew hn h16.out.1 HX.out.2.2.1).mono ?_; rintro e w7 ⟨rfl, hb7⟩; obtain ⟨⟨⟨⟨u0, u1, u2, u3⟩, u4, u5⟩, u6, u7⟩, A7, X7, B7, O7, z7⟩ := HC.out w7 hb7))
            clear y0 y1 y2 y3 y4 y5 f0 f1 f2 fl u0 u1 u2 u3 u4 u5 u6 u7 hb7
            have e : j = J := Nat.le_antisymm hj (Nat.le_of_not_lt (fun h => hng (HJ.out j h)))
            subst e
            obtain ⟨-, AF0, GF0, -, -⟩ := HF.out w7 B7
            obtain ⟨pv, qv, hvv, hoy⟩ := GF0.ownY
            subst hvv
            have AF : Hid (ArSt w w4 a p n c m q fuel dead w7 (.bool (decide (0 < j))) (.slice pv j qv) (.int .i64 (U : Int)) (.int .i64 (first + (j : Int)))) := AF0
            have OY : Hid (OwnY w7 (w4.heap.size + 1) pv j (arL (secF d S F m) b0) (arF (secF d S F m) b0) AA) := hoy
            clear hoy AF0 GF0
            obtain ⟨g0, g1, g2, g3, gf, gl⟩ := (AF.out.box).cells
            have RB : Hid (AxRow w7 (w.heap.size + 1) (.bool false) (.slice none 0 0) (.int .i64 0) (.int .i64 0)) := by
              have r := axNew (w.alloc (.cells #[.slice a n c, .slice p m q, .int .i64 fuel, .bool dead] 39)) (.bool false) (.slice none 0 0) (.int .i64 0) (.int .i64 0)
              rw [alloc_size] at r
              exact rowIn.of_block r (AF.out.base.block _ (by omega))
            obtain ⟨e0, e1, e2, e3, ef, el⟩ := RB.out.cells
            have hlw2 := AF.out.le
            have hne5 : ¬ (w.heap.size + 1 = w4.heap.size) := by omega
            by_cases hj0 : 0 < j
            · have hd : decide (0 < j) = true := by simpa using hj0
              rw [hd] at g0
              have HFX : Hid (OwnY w7 (w4.heap.size + 1) pv j (arL (secF d S F m) b0) (arF (secF d S F m) b0) AA ∧ Below w.heap.size w w7) := ⟨OY.out, HFIN.out _ AF.out.base⟩
              go_wp2
              refine bodyPost_ret (v := .agg #[.bool true, .slice pv j qv, .int .i64 (U : Int), .int .i64 (first + (j : Int))]) (by simp [results, Try.results27, go_sem, e0, e1, e2, e3]) rfl ?_
              rw [HQQ.out]
              refine ⟨pv, qv, AA, ?_, ?_, ?_⟩
              · rw [hd, if_pos hj0, ← HU.out]
              · exact ((((HFX.out.1.setOther (by show w.heap.size + 1 < w4.heap.size + 1; omega) _).setOther (by show w.heap.size + 1 < w4.heap.size + 1; omega) _).setOther (by show w.heap.size + 1 < w4.heap.size + 1; omega) _).setOther (by show w.heap.size + 1 < w4.heap.size + 1; omega) _).mono (by omega)
              · exact (((HFX.out.2.setCell (by show w.heap.size ≤ w.heap.size + 1; omega) _).setCell (by show w.heap.size ≤ w.heap.size + 1; omega) _).setCell (by show w.heap.size ≤ w.heap.size + 1; omega) _).setCell (by show w.heap.size ≤ w.heap.size + 1; omega) _
            · have hd : decide (0 < j) = false := by simpa using hj0
              have hj1 : j = 0 := by omega
              rw [hd] at g0
              have HFX : Hid (Below w.heap.size w w7) := HFIN.out _ AF.out.base
              go_wp2
              refine bodyPost_ret (v := .agg #[.bool false, .slice none 0 0, .int .i64 0, .int .i64 0]) (by simp [results, Try.results27, go_sem, e0, e1, e2, e3]) rfl ?_
              rw [HQQ.out]
              refine ⟨none, 0, fun _ => none, ?_, Or.inl hj1, ?_⟩
              · rw [hd, if_neg hj0, hj1]
                rfl
              · exact (((HFX.out.setCell (by show w.heap.size ≤ w.heap.size + 1; omega) _).setCell (by show w.heap.size ≤ w.heap.size + 1; omega) _).setCell (by show w.heap.size ≤ w.heap.size + 1; omega) _).setCell (by show w.heap.size ≤ w.heap.size + 1; omega) _
      · have hng : ¬ arGood (secF d S F m) (n / 64) A b0 first j := by
          intro hg
          have h1 := hg.2.2.2
          have h2 := (arK_pos hg.2).1
          rw [← HU.out] at h1 h2
          omega
        have hUA' : ¬ (U : Int) < (A : Int) := by omega
        have hUA2 : decide ((U : Int) < (A : Int)) = false := decide_eq_false hUA'
        clear r0 r1 rf
        go_wp2
        go_region_held3 (fun w' => (w'.cell? ⟨w.heap.size, 0, none⟩ = some (.slice a n c) ∧ w'.cell? ⟨w.heap.size, 1, none⟩ = some (.slice p m q) ∧ w'.cell? ⟨w.heap.size, 2, none⟩ = some (.int .i64 fuel) ∧ w'.cell? ⟨w.heap.size, 3, none⟩ = some (.bool dead)) ∧ w'.cell? ⟨w4.heap.size, 2, none⟩ = some (.int .i64 (U : Int)) ∧ w'.cell? ⟨w4.heap.size, 3, none⟩ = some (.int .i64 (first + (j : Int)))) (go_keep)
          (first
          | (go_at_call 35; refine (l2Number_any (first + (j : Int)) wr.drew).mono ?_; rintro e w8 ⟨he, hw8⟩; subst hw8; rw [HNUM.out] at he; subst he)
          | (go_at_call 57; refine (l2AreaSize_any a p n c m q fuel dead A wr.drew hn h16.out.1 HX.out.2.2.1).mono ?_; rintro e w9 ⟨rfl, hb9⟩; obtain ⟨⟨⟨u0, u1, u2, u3⟩, u4, u5⟩, -⟩ := HF.out w9 ((Below.refl _ _).drew.trans hb9)))
        have B9 : Hid (Below wr.heap.size wr w9) := (Below.refl _ _).drew.trans hb9
        clear hb9 x0 x1 x2 x3 xl r2 r3 rl u0 u1 u2 u3 u4 u5
        have e : j = J := Nat.le_antisymm hj (Nat.le_of_not_lt (fun h => hng (HJ.out j h)))
        subst e
        obtain ⟨-, AF0, GF0, -, -⟩ := HF.out w9 B9.out
        obtain ⟨pv, qv, hvv, hoy⟩ := GF0.ownY
        subst hvv
        have AF : Hid (ArSt w w4 a p n c m q fuel dead w9 (.bool (decide (0 < j))) (.slice pv j qv) (.int .i64 (U : Int)) (.int .i64 (first + (j : Int)))) := AF0
        have OY : Hid (OwnY w9 (w4.heap.size + 1) pv j (arL (secF d S F m) b0) (arF (secF d S F m) b0) AA) := hoy
        clear hoy AF0 GF0
        obtain ⟨g0, g1, g2, g3, gf, gl⟩ := (AF.out.box).cells
        have RB : Hid (AxRow w9 (w.heap.size + 1) (.bool false) (.slice none 0 0) (.int .i64 0) (.int .i64 0)) := by
          have r := axNew (w.alloc (.cells #[.slice a n c, .slice p m q, .int .i64 fuel, .bool dead] 39)) (.bool false) (.slice none 0 0) (.int .i64 0) (.int .i64 0)
          rw [alloc_size] at r
          exact rowIn.of_block r (AF.out.base.block _ (by omega))
        obtain ⟨e0, e1, e2, e3, ef, el⟩ := RB.out.cells
        have hlw2 := AF.out.le
        have hne5 : ¬ (w.heap.size + 1 = w4.heap.size) := by omega
        by_cases hj0 : 0 < j
        · have hd : decide (0 < j) = true := by simpa using hj0
          rw [hd] at g0
          have HFX : Hid (OwnY w9 (w4.heap.size + 1) pv j (arL (secF d S F m) b0) (arF (secF d S F m) b0) AA ∧ Below w.heap.size w w9) := ⟨OY.out, HFIN.out _ AF.out.base⟩
          go_wp2
          refine bodyPost_ret (v := .agg #[.bool true, .slice pv j qv, .int .i64 (U : Int), .int .i64 (first + (j : Int))]) (by simp [results, Try.results27, go_sem, e0, e1, e2, e3]) rfl ?_
          rw [HQQ.out]
          refine ⟨pv, qv, AA, ?_, ?_, ?_⟩
          · rw [hd, if_pos hj0, ← HU.out]
          · exact ((((HFX.out.1.setOther (by show w.heap.size + 1 < w4.heap.size + 1; omega) _).setOther (by show w.heap.size + 1 < w4.heap.size + 1; omega) _).setOther (by show w.heap.size + 1 < w4.heap.size + 1; omega) _).setOther (by show w.heap.size + 1 < w4.heap.size + 1; omega) _).mono (by omega)
          · exact (((HFX.out.2.setCell (by show w.heap.size ≤ w.heap.size + 1; omega) _).setCell (by show w.heap.size ≤ w.heap.size + 1; omega) _).setCell (by show w.heap.size ≤ w.heap.size + 1; omega) _).setCell (by show w.heap.size ≤ w.heap.size + 1; omega) _
        · have hd : decide (0 < j) = false := by simpa using hj0
          have hj1 : j = 0 := by omega
          rw [hd] at g0
          have HFX : Hid (Below w.heap.size w w9) := HFIN.out _ AF.out.base
          go_wp2
          refine bodyPost_ret (v := .agg #[.bool false, .slice none 0 0, .int .i64 0, .int .i64 0]) (by simp [results, Try.results27, go_sem, e0, e1, e2, e3]) rfl ?_
          rw [HQQ.out]
          refine ⟨none, 0, fun _ => none, ?_, Or.inl hj1, ?_⟩
          · rw [hd, if_neg hj0, hj1]
            rfl
          · exact (((HFX.out.setCell (by show w.heap.size ≤ w.heap.size + 1; omega) _).setCell (by show w.heap.size ≤ w.heap.size + 1; omega) _).setCell (by show w.heap.size ≤ w.heap.size + 1; omega) _).setCell (by show w.heap.size ≤ w.heap.size + 1; omega) _
    · have hng : ¬ arGood (secF d S F m) (n / 64) A b0 first j := fun hg => hnum hg.1
      have HNUM : Hid (numB (first + (j : Int)) = false) := by
        show _ = false
        unfold numB
        simp
        omega
      clear r0 r1 rf
      go_wp2
      go_quiet ((first
      | (go_at_call 35; exact Calls.quiet_of_same (l2Nr_at _ _ HNUM.out _))))
      clear x0 x1 x2 x3 xl r2 r3 rl
      have e : j = J := Nat.le_antisymm hj (Nat.le_of_not_lt (fun h => hng (HJ.out j h)))
      subst e
      obtain ⟨-, AF0, GF0, -, -⟩ := HF.out (wr.drewN nq) (below_drewN (Below.refl _ _) nq)
      obtain ⟨pv, qv, hvv, hoy⟩ := GF0.ownY
      subst hvv
      have AF : Hid (ArSt w w4 a p n c m q fuel dead (wr.drewN nq) (.bool (decide (0 < j))) (.slice pv j qv) (.int .i64 (U : Int)) (.int .i64 (first + (j : Int)))) := AF0
      have OY : Hid (OwnY (wr.drewN nq) (w4.heap.size + 1) pv j (arL (secF d S F m) b0) (arF (secF d S F m) b0) AA) := hoy
      clear hoy AF0 GF0
      obtain ⟨g0, g1, g2, g3, gf, gl⟩ := (AF.out.box).cells
      have RB : Hid (AxRow (wr.drewN nq) (w.heap.size + 1) (.bool false) (.slice none 0 0) (.int .i64 0) (.int .i64 0)) := by
        have r := axNew (w.alloc (.cells #[.slice a n c, .slice p m q, .int .i64 fuel, .bool dead] 39)) (.bool false) (.slice none 0 0) (.int .i64 0) (.int .i64 0)
        rw [alloc_size] at r
        exact rowIn.of_block r (AF.out.base.block _ (by omega))
      obtain ⟨e0, e1, e2, e3, ef, el⟩ := RB.out.cells
      have hlw2 := AF.out.le
      have hne5 : ¬ (w.heap.size + 1 = w4.heap.size) := by omega
      by_cases hj0 : 0 < j
      · have hd : decide (0 < j) = true := by simpa using hj0
        rw [hd] at g0
        have HFX : Hid (OwnY (wr.drewN nq) (w4.heap.size + 1) pv j (arL (secF d S F m) b0) (arF (secF d S F m) b0) AA ∧ Below w.heap.size w (wr.drewN nq)) := ⟨OY.out, HFIN.out _ AF.out.base⟩
        go_wp2
        refine bodyPost_ret (v := .agg #[.bool true, .slice pv j qv, .int .i64 (U : Int), .int .i64 (first + (j : Int))]) (by simp [results, Try.results27, go_sem, e0, e1, e2, e3]) rfl ?_
        rw [HQQ.out]
        refine ⟨pv, qv, AA, ?_, ?_, ?_⟩
        · rw [hd, if_pos hj0, ← HU.out]
        · exact ((((HFX.out.1.setOther (by show w.heap.size + 1 < w4.heap.size + 1; omega) _).setOther (by show w.heap.size + 1 < w4.heap.size + 1; omega) _).setOther (by show w.heap.size + 1 < w4.heap.size + 1; omega) _).setOther (by show w.heap.size + 1 < w4.heap.size + 1; omega) _).mono (by omega)
        · exact (((HFX.out.2.setCell (by show w.heap.size ≤ w.heap.size + 1; omega) _).setCell (by show w.heap.size ≤ w.heap.size + 1; omega) _).setCell (by show w.heap.size ≤ w.heap.size + 1; omega) _).setCell (by show w.heap.size ≤ w.heap.size + 1; omega) _
      · exfalso; omega
end Go.Proofs.Ytbpcafcipncloaa
