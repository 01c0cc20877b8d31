import Derived.Test.YtakemeccigpbaaaTgS
import Derived.Test.YtakemeccigpbaaaTgN
import Derived.Test.YtakemeccigpbaaaOpenTree
namespace Go.Proofs.Ytakemeccigpbaaa
open Go.RowKit Go.Deep
set_option linter.unusedVariables false
set_option maxRecDepth 100000

theorem OwnTn.below {w w' : World} {B g n : Nat} {N : Nat → Tn} {KA DA : Nat → Option Addr} {KC DC : Nat → Nat} (h : OwnTn w B g n N KA DA KC DC) (hb : Below w.heap.size w w') : OwnTn w' B g n N KA DA KC DC :=
  ⟨h.le, h.row.of_block (hb.block g h.row.lt), fun i hi => (h.keys i hi).below hb, fun i hi => (h.kids i hi).below hb, h.apartK, h.apartD⟩
theorem OwnS.keep {w w' : World} {B n : Nat} {a : Option Addr} {X : Nat → ByteArray} (h : OwnS w B a n X) (hk : ∀ b, B ≤ b → b < w.heap.size → w'.heap[b]? = w.heap[b]?) : OwnS w' B a n X := by
  rcases h with h | ⟨g, e, hg, hr⟩
  · exact .inl h
  · exact .inr ⟨g, e, hg, hr.of_block (hk g hg hr.lt)⟩

/-- What the law holds on to once the answer stands: the argument, its box, what the document answers, what the program answered. -/
structure RgSt (w w3 w4 W : World) (v : Value) (n m : Nat) (X : Nat → ByteArray) (a3 a5 : Option Addr) : Prop where
  arg : Below (w.heap.size + 1) (w.alloc (.cells #[v] 41)) W
  spec : Below w3.heap.size w3 W
  got : OwnS W (w4.heap.size + 1) a5 m X
  size : w4.heap.size + 1 ≤ W.heap.size

theorem RgSt.below {w w3 w4 W W' : World} {v : Value} {n m : Nat} {X : Nat → ByteArray} {a3 a5 : Option Addr} (h : RgSt w w3 w4 W v n m X a3 a5) (h1 : w.heap.size + 1 ≤ w3.heap.size) (h2 : w3.heap.size ≤ w4.heap.size) (hb : Below W.heap.size W W') : RgSt w w3 w4 W' v n m X a3 a5 := by
  have := h.size
  exact ⟨h.arg.trans (hb.mono (by omega)), h.spec.trans (hb.mono (by omega)), h.got.below hb, Nat.le_trans h.size hb.size⟩
theorem RgSt.marked {w w3 w4 W W' : World} {v : Value} {n m : Nat} {X : Nat → ByteArray} {a3 a5 : Option Addr} (h : RgSt w w3 w4 W v n m X a3 a5) (h1 : w.heap.size + 1 ≤ w3.heap.size) (h2 : w3.heap.size ≤ w4.heap.size) (hw : WiT w3.heap.size w4.heap.size W W') : RgSt w w3 w4 W' v n m X a3 a5 := by
  have hs := h.size
  have hb := hw.below (by omega)
  refine ⟨h.arg.trans (hb.mono h1), h.spec.trans hb, h.got.keep (fun b hb1 hb2 => hw.2.2.2.2 b hb2 (.inr (by omega))), Nat.le_trans h.size hw.2.2.2.1⟩

set_option maxHeartbeats 2000000 in
theorem rgLaw0 (lo hi : ByteArray) (hlo : lo.size ≤ maxLen) (hhi : hi.size ≤ maxLen) (a : Option Addr) (n c : Nat) (N : Nat → Tn) (w : World) (ha : RdTn w a n N) (hX : ∀ i, i < n → TnBig (N i)) (hn : n ≤ maxLen)
    (hspec : n ≤ 1048576 → (∀ i, i < n → TnFit (N i)) → ∀ W a, RdTn W a n N → Calls Try.prog 24 #[.agg #[.slice a n n], .string lo, .string hi] W (RetRg W n N lo hi)) (himpl : n ≤ 1048576 → (∀ i, i < n → TnFit (N i)) → ∀ W a, RdTn W a n N → Calls Try.prog 18 #[.agg #[.slice a n n], .string lo, .string hi] W (RetRg W n N lo hi)) :
    Calls Try.prog 6 #[.agg #[.slice a n c], .string lo, .string hi] w fun e w' => e = .returned (.bool true) ∧ Below w.heap.size w w' := by
  have HA : Hid (RdTn w a n N) := ha
  have HXs : Hid (∀ i, i < n → TnBig (N i)) := hX
  have HSP : Hid (n ≤ 1048576 → (∀ i, i < n → TnFit (N i)) → ∀ W a, RdTn W a n N → Calls Try.prog 24 #[.agg #[.slice a n n], .string lo, .string hi] W (RetRg W n N lo hi)) := hspec
  have HIM : Hid (n ≤ 1048576 → (∀ i, i < n → TnFit (N i)) → ∀ W a, RdTn W a n N → Calls Try.prog 18 #[.agg #[.slice a n n], .string lo, .string hi] W (RetRg W n N lo hi)) := himpl
  clear ha hX hspec himpl
  unfold maxLen at hlo hhi
  by_cases hkb : 1048576 < lo.size
  · have ik : (1048576 : Int) < (lo.size : Int) := by omega
    have ik' : decide ((1048576 : Int) < (lo.size : Int)) = true := decide_eq_true ik
    have nk' : decide (1048576 < lo.size) = true := decide_eq_true hkb
    go_enter Try.func6, Try.ntmps6
    go_wp2
    go_ret
    exact ⟨rfl, below_alloc _ _⟩
  have ik : ¬ (1048576 : Int) < (lo.size : Int) := by omega
  have ik' : decide ((1048576 : Int) < (lo.size : Int)) = false := decide_eq_false ik
  have nk' : decide (1048576 < lo.size) = false := decide_eq_false hkb
  by_cases hkh : 1048576 < hi.size
  · have jk : (1048576 : Int) < (hi.size : Int) := by omega
    have jk' : decide ((1048576 : Int) < (hi.size : Int)) = true := decide_eq_true jk
    have mk' : decide (1048576 < hi.size) = true := decide_eq_true hkh
    go_enter Try.func6, Try.ntmps6
    go_wp2
    go_ret
    exact ⟨rfl, below_alloc _ _⟩
  have jk : ¬ (1048576 : Int) < (hi.size : Int) := by omega
  have jk' : decide ((1048576 : Int) < (hi.size : Int)) = false := decide_eq_false jk
  have mk' : decide (1048576 < hi.size) = false := decide_eq_false hkh
  go_enter Try.func6, Try.ntmps6
  go_wp2_with fail
  refine (szTree_sum a n c N _ (HA.out.below (below_alloc _ _)) hn HXs.out).mono ?_
  rintro e w1 ⟨r, rfl, hr, hb1⟩
  rw [show ∀ O, (w.alloc O).heap.size = w.heap.size + 1 from fun O => by simp] at hb1
  have K1 : Hid (Below (w.heap.size + 1) (w.alloc (.cells #[.slice a n c] 41)) w1) := hb1
  have HJ : Hid (∀ {W : World}, Below (w.heap.size + 1) (w.alloc (.cells #[.slice a n c] 41)) W → Below w.heap.size w W) := fun h => (below_alloc _ _).trans (h.mono (by omega))
  obtain ⟨x0, xz1⟩ := pbox hb1
  clear hb1
  rcases hr with rfl | ⟨hr0, hsum⟩
  · clear x0
    go_wp2
    go_ret
    exact ⟨rfl, HJ.out K1.out⟩
  have hr1 : ¬ r < 0 := by omega
  have hn1 : n ≤ 1048576 := by omega
  have HF : Hid (∀ i, i < n → TnFit (N i)) := fun i hi => by
    have := sumT_get N n i hi
    exact ⟨by omega, by omega⟩
  have HSum : Hid (n + sumT N n ≤ 1048576) := hsum
  clear hn hsum
  go_wp2_with fail
  refine (toTree_any a n c N w1 (HA.out.below (HJ.out K1.out)) hn1 HF.out).mono ?_
  rintro e w2 ⟨g2, KA2, DA2, KC2, DC2, rfl, hg2, hr2, hb2⟩
  have K2 : Hid (Below (w.heap.size + 1) (w.alloc (.cells #[.slice a n c] 41)) w2) := K1.out.trans (hb2.mono (by omega))
  have H2 : Hid (RdTn w2 (some ⟨g2, 0, none⟩) n N) := hr2.rd
  clear x0 hr2 hb2
  go_wp2_with fail
  refine (HSP.out hn1 HF.out w2 (some ⟨g2, 0, none⟩) (H2.out)).mono ?_
  rintro e w3 ⟨L3, a3, c3, rfl, ho3, hb3, hl3, hb3v⟩
  have K3 : Hid (Below (w.heap.size + 1) (w.alloc (.cells #[.slice a n c] 41)) w3) := K2.out.trans (hb3.mono (by have := K2.out.size; simp at this; omega))
  obtain ⟨x0, xz3⟩ := pbox K3.out
  have B3 : Hid (((∃ t, VTt n N t ∧ L3 = fil lo hi (keysR 21 t)) ∨ (¬ VT n N ∧ L3 = [])) ∧ RdS w3 a3 L3.length (gt L3)) := ⟨hb3v, ho3.rd⟩
  clear ho3
  clear hb3 hb3v
  go_wp2_with fail
  refine (toTree_any a n c N w3 (HA.out.below (HJ.out K3.out)) hn1 HF.out).mono ?_
  rintro e w4 ⟨g4, KA4, DA4, KC4, DC4, rfl, hg4, hr4, hb4⟩
  have K4 : Hid (Below (w.heap.size + 1) (w.alloc (.cells #[.slice a n c] 41)) w4) := K3.out.trans (hb4.mono (by omega))
  have H4 : Hid (RdTn w4 (some ⟨g4, 0, none⟩) n N) := hr4.rd
  have O4 : Hid (OwnTn w4 w3.heap.size g4 n N KA4 DA4 KC4 DC4 ∧ Below w3.heap.size w3 w4) := ⟨hr4, hb4⟩
  clear x0 hr4 hb4
  go_wp2_with fail
  refine (HIM.out hn1 HF.out _ (some ⟨g4, 0, none⟩) (H4.out.below (below_alloc _ _))).mono ?_
  rintro e w5 ⟨L5, a5, c5, rfl, ho5, hb5, hl5, hb5v⟩
  rw [show ∀ O, (w4.alloc O).heap.size = w4.heap.size + 1 from fun O => by simp] at hb5 ho5
  have K5 : Hid (Below (w.heap.size + 1) (w.alloc (.cells #[.slice a n c] 41)) w5) := (K4.out.alloc (by have := K4.out.size; simpa using this) _).trans (hb5.mono (by have := K4.out.size; simp at this; omega))
  have H5 : Hid (RdTn w5 (some ⟨g4, 0, none⟩) n N) := (H4.out.below (below_alloc _ _)).below (hb5.mono (by simp))
  have hbb : L5 = L3 := by
    rcases hb5v with ⟨t, q1, q2⟩ | ⟨q1, q2⟩
    · rcases B3.out.1 with ⟨t', q3, q4⟩ | ⟨q3, _⟩
      · rw [q2, q4, vtt_fn q1 q3]
      · exact absurd ⟨t, q1⟩ q3
    · rcases B3.out.1 with ⟨t', q3, _⟩ | ⟨_, q4⟩
      · exact absurd ⟨t', q3⟩ q1
      · rw [q2, q4]
  subst hbb
  have HM3 : Hid (w.heap.size + 1 ≤ w3.heap.size ∧ w3.heap.size ≤ w4.heap.size) := ⟨by have := K3.out.size; simpa using this, O4.out.2.size⟩
  obtain ⟨m, hm⟩ : ∃ m, m = L5.length := ⟨_, rfl⟩
  have HSt : Hid (RgSt w w3 w4 w5 (.slice a n c) n m (gt L5) a3 a5) := by
    refine ⟨K5.out, ?_, by rw [hm]; exact ho5, by have := hb5.size; simp at this; omega⟩
    exact (O4.out.2.trans ((below_alloc _ _).mono HM3.out.2)).trans (hb5.mono (by have := HM3.out.2; omega))
  have HB3 : Hid (RdS w3 a3 m (gt L5) ∧ ((∃ t, VTt n N t ∧ L5 = fil lo hi (keysR 21 t)) ∨ (¬ VT n N ∧ L5 = [])) ∧ m = L5.length) := ⟨by rw [hm]; exact B3.out.2, B3.out.1, hm⟩
  have hm20 : m ≤ 1048576 := by omega
  have L5b : Hid (Below (w4.heap.size + 1) (w4.alloc (.cells #[.slice (some ⟨g4, 0, none⟩) n n] 25)) w5) := hb5
  rw [← hm]
  clear hb5 hb5v ho5 B3 hl5 hl3 hm K5
  go_wp2_with fail
  refine (eqStringS_yes a5 a3 m _ _ (gt L5) w5 HSt.out.got.rd (HB3.out.1.below HSt.out.spec) hm20).mono ?_
  rintro e w6 ⟨rfl, n6, rfl⟩
  have St6 : Hid (RgSt w w3 w4 (w5.drewN n6) (.slice a n c) n m (gt L5) a3 a5) := HSt.out.below HM3.out.1 HM3.out.2 (below_drewN (Below.refl _ _) n6)
  have L6 : Hid (Below (w4.heap.size + 1) (w4.alloc (.cells #[.slice (some ⟨g4, 0, none⟩) n n] 25)) (w5.drewN n6)) := below_drewN L5b.out n6
  generalize w5.drewN n6 = w6 at St6 L6 ⊢
  have H6 : Hid (RdTn w6 (some ⟨g4, 0, none⟩) n N) := (H4.out.below (below_alloc _ _)).below (L6.out.mono (by simp))
  have R6 : Hid (RdTn w6 a n N) := HA.out.below (HJ.out St6.out.arg)
  obtain ⟨x0, xz6⟩ := pbox St6.out.arg
  obtain ⟨y0, yz6⟩ := pbox L6.out
  clear HSt L5b H4 H5
  go_wp2
  go_region_with (first
    | (go_at_call 21; refine (toTree_any a n c N _ (by exact R6.out) hn1 HF.out).mono ?_; rintro e w6a ⟨g6, KA6, DA6, KC6, DC6, rfl, hg6, hr6, hb6⟩; obtain ⟨z0, zz⟩ := pbox (L6.out.drew.trans (hb6.mono (by simp; omega))))
    | (go_at_call 22; refine (eqTree_yes (some ⟨g4, 0, none⟩) (some ⟨g6, 0, none⟩) n n n N _ ((by exact H6.out : RdTn w6.drew (some ⟨g4, 0, none⟩) n N).below hb6) hr6.rd hn1 HF.out).mono ?_; rintro e w7 ⟨rfl, hb7⟩))
  all_goals
    have HE : Hid (RgSt w w3 w4 w7 (.slice a n c) n m (gt L5) a3 a5 ∧ MTn w7 w3.heap.size g4 n N KA4 DA4 KC4 DC4 ∧ w7.cell? ⟨w4.heap.size, 0, none⟩ = some (.slice (some ⟨g4, 0, none⟩) n n)) := by
      have q1 : Below w6.heap.size w6 w6.drew := (Below.refl _ _).drew
      have q2 : Below w6.heap.size w6 w7 := (q1.trans hb6).trans (hb7.mono hb6.size)
      have q3 := L6.out.trans (q2.mono (by have := L6.out.size; simpa using this))
      refine ⟨St6.out.below HM3.out.1 HM3.out.2 q2, ⟨N, O4.out.1.below ((below_alloc _ _).trans (q3.mono (by omega))), fun i => ⟨rfl, rfl⟩⟩, (pbox q3).1⟩
    clear hb6 hb7 z0 x0 y0 xz6 yz6 zz L6 St6 R6 H6 hr6
    have y0 := HE.out.2.2
    have yl : w4.heap.size < w7.heap.size := World.block_lt_of_cell? _ _ y0
    go_wp2_with fail
    refine (markTree_any w3.heap.size w4.heap.size g4 n n N KA4 DA4 KC4 DC4 w7 HE.out.2.1 O4.out.1.bound HSum.out).mono ?_
    rintro e w8 ⟨k8, rfl, hw8⟩
    have St8 : Hid (RgSt w w3 w4 w8 (.slice a n c) n m (gt L5) a3 a5) := HE.out.1.marked HM3.out.1 HM3.out.2 hw8
    have hk8 : ¬ (k8 : Int) < 0 := by omega
    have hk8' : decide ((k8 : Int) < 0) = false := decide_eq_false hk8
    clear hw8 y0 yl HE
    go_wp2_with fail
    refine (eqStringS_yes a5 a3 m _ _ (gt L5) w8 St8.out.got.rd (HB3.out.1.below St8.out.spec) hm20).mono ?_
    rintro e w9 ⟨rfl, n9, rfl⟩
    have St9 : Hid (RgSt w w3 w4 (w8.drewN n9) (.slice a n c) n m (gt L5) a3 a5) := St8.out.below HM3.out.1 HM3.out.2 (below_drewN (Below.refl _ _) n9)
    generalize w8.drewN n9 = w9 at St9 ⊢
    clear St8
    go_wp2_with fail
    refine (markStrsI _ a5 m _ 1 (by simp) (gt L5) w9 (by rcases St9.out.got with q | ⟨b, q1, _, q2⟩; exact .inl q; exact .inr ⟨b, q1, q2⟩) (by omega) (by omega)).mono ?_
    rintro e w10 ⟨he10, hg10, hz10, ho10⟩
    obtain ⟨M, hM⟩ : ∃ M : Nat, M = 1 + m := ⟨_, rfl⟩
    rw [← hM] at he10
    subst he10
    have HMM : Hid (M = 1 + m) := hM
    clear hM
    have hb10 : Below (w4.heap.size + 1) w9 w10 := by
      by_cases h0 : m = 0
      · rw [hz10 h0]; exact Below.refl _ _
      · obtain ⟨b, q1, q2, q3⟩ := St9.out.got.resolve_left h0
        rw [q1] at hg10
        exact ⟨hg10.os, hg10.tape, hg10.output, hg10.size, fun k hk => hg10.block k (by have := St9.out.size; omega) (fun e => by injection e with e; subst e; first | omega | (simp at hk; omega))⟩
    have K10 : Hid (Below (w.heap.size + 1) (w.alloc (.cells #[.slice a n c] 41)) w10 ∧ Below w3.heap.size w3 w10) := by
      have q := HM3.out
      exact ⟨St9.out.arg.trans (hb10.mono (by omega)), St9.out.spec.trans (hb10.mono (by omega))⟩
    have R10 : Hid (RdS w10 a5 m (fun i => mkT (1 + i))) := by
      rcases ho10 with q | ⟨b, q1, q2⟩
      · exact .inl q
      · exact .inr ⟨b, 0, q1, fun i hi => by rw [Nat.zero_add]; exact q2.cell hi⟩
    clear hg10 hz10 ho10 hb10 St9
    go_wp2_with fail
    refine (heldStrs_any a5 m _ 1 w10 R10.out (Nat.le_refl _) (by omega)).mono ?_
    rintro e w11 ⟨he11, hb11⟩
    rw [← HMM.out] at he11
    subst he11
    have K11 : Hid (Below (w.heap.size + 1) (w.alloc (.cells #[.slice a n c] 41)) w11 ∧ Below w3.heap.size w3 w11) := ⟨K10.out.1.trans (hb11.mono (by have := K10.out.1.size; simpa using this)), K10.out.2.trans (hb11.mono K10.out.2.size)⟩
    clear hb11 K10 R10
    obtain ⟨x0, xz11⟩ := pbox K11.out.1
    have hM0 : ¬ (M : Int) < 0 := by omega
    have hM1 : ((M : Int) != (M : Int)) = false := by simp
    go_wp2_with fail
    refine (toTree_any a n c N w11 (HA.out.below (HJ.out K11.out.1)) hn1 HF.out).mono ?_
    rintro e w12 ⟨g12, KA12, DA12, KC12, DC12, rfl, hg12, hr12, hb12⟩
    have K12 : Hid (Below w.heap.size w w12 ∧ Below w3.heap.size w3 w12) := ⟨(HJ.out K11.out.1).trans (hb12.mono (HJ.out K11.out.1).size), K11.out.2.trans (hb12.mono K11.out.2.size)⟩
    have H12 : Hid (RdTn w12 (some ⟨g12, 0, none⟩) n N) := hr12.rd
    clear x0 hr12 hb12 K11
    go_wp2_with fail
    refine (HIM.out hn1 HF.out w12 (some ⟨g12, 0, none⟩) H12.out).mono ?_
    rintro e w13 ⟨L13, a13, c13, rfl, ho13, hb13, hl13, hb13v⟩
    have hbb : L13 = L5 := by
      rcases hb13v with ⟨t, q1, q2⟩ | ⟨q1, q2⟩
      · rcases HB3.out.2.1 with ⟨t', q3, q4⟩ | ⟨q3, _⟩
        · rw [q2, q4, vtt_fn q1 q3]
        · exact absurd ⟨t, q1⟩ q3
      · rcases HB3.out.2.1 with ⟨t', q3, _⟩ | ⟨_, q4⟩
        · exact absurd ⟨t', q3⟩ q1
        · rw [q2, q4]
    rw [hbb, ← HB3.out.2.2] at ho13
    rw [hbb, ← HB3.out.2.2]
    have K13 : Hid (Below w.heap.size w w13 ∧ Below w3.heap.size w3 w13 ∧ RdS w13 a13 m (gt L5)) := ⟨K12.out.1.trans (hb13.mono K12.out.1.size), K12.out.2.trans (hb13.mono K12.out.2.size), ho13.rd⟩
    clear ho13 hb13 hb13v hl13 hbb K12 H12
    go_wp2_with fail
    refine (eqStringS_yes a13 a3 m _ _ (gt L5) w13 K13.out.2.2 (HB3.out.1.below K13.out.2.1) hm20).mono ?_
    rintro e w14 ⟨rfl, n14, rfl⟩
    go_wp2
    go_ret
    exact ⟨rfl, below_drewN K13.out.1 n14⟩

theorem rgLawV (v : Value) (lo hi : ByteArray) (w : World) (hv : IsTree w v) (h1 : lo.size ≤ maxLen) (h2 : hi.size ≤ maxLen) : Calls Try.prog 6 #[v, .string lo, .string hi] w fun e w' => e = .returned (.bool true) ∧ Below w.heap.size w w' := by
  obtain ⟨a, n, c, N, rfl, ha, hX, hn⟩ := hv
  exact rgLaw0 lo hi h1 h2 a n c N w ha hX hn (fun h1 h2 W a hW => specRg a n n N lo hi W hW h1 h2) (fun h1 h2 W a hW => implRg a n n N lo hi W hW h1 h2)
end Go.Proofs.Ytakemeccigpbaaa
