import Derived.Test.YtbpcafcipncloaaWrA
import Derived.Test.YtbpcafcipncloaaSpecW
import Derived.Test.YtbpcafcipncloaaSpecY
import Derived.Test.YtbpcafcipncloaaL2Sw
import Derived.Test.YtbpcafcipncloaaBox
import Derived.Test.YtbpcafcipncloaaWrD
import Derived.Test.YtbpcafcipncloaaWrB
namespace Go.Proofs.Ytbpcafcipncloaa
open Go.RowKit Go.Deep
set_option linter.unusedVariables false
set_option maxRecDepth 100000

set_option maxHeartbeats 400000 in
theorem specRecS_big (x : Int) (h : 30000 < x) (w : World) : Calls Try.prog 8 #[.int .i64 x] w fun e w' => e = .returned (.int .i64 0) ∧ w' = w := by
  have x0 : ¬ x < 0 := by omega
  go_enter Try.func8, Try.ntmps8
  go_wp2
  go_ret
  exact ⟨rfl, rfl⟩

set_option maxHeartbeats 2000000 in
theorem specRec_big (a p ad : Option Addr) (n c m q N cp : Nat) (d S : Nat → Int) (L : Nat → Nat) (F : Nat → Nat → Int) (fuel : Int) (dead : Bool) (at_ seq : Int) (w : World) (ha : Rd .u8 w a n d) (hp : RdP w p m S L F) (hn : n ≤ 1048576) (hm : m ≤ 1048576) (hL : ∀ i, i < m → L i ≤ 1048576) (hN : 30000 < N) (hN2 : N ≤ 1048576) :
    Calls Try.prog 23 #[.agg #[.slice a n c, .slice p m q, .int .i64 fuel, .bool dead], .int .i64 at_, .int .i64 seq, .slice ad N cp] w fun e w' => RetD w e w' n d m S L F fuel dead := by
  have HA : Hid (Rd .u8 w a n d) := ha
  have HP : Hid (RdP w p m S L F) := hp
  have HLL : Hid (∀ i, i < m → L i ≤ 1048576) := hL
  have HFIN : Hid (∀ W : World, Below (w.heap.size + 2) ((w.alloc (.cells #[.slice a n c, .slice p m q, .int .i64 fuel, .bool dead] 39)).alloc (.cells #[.slice none 0 0, .slice none 0 0, .int .i64 0, .bool false] 39)) W → Below w.heap.size w W) := fun W h => (below_alloc2' _ _ _).trans (h.mono (by omega))
  have HE : Hid (∀ o1 o2, ((w.alloc o1).alloc o2).heap.size = w.heap.size + 2) := fun _ _ => by simp
  have e0 : IntKind.i64.wrap (N : Int) = (N : Int) := by rw [IntKind.wrap_i64]; omega
  clear ha hp hL
  go_enter Try.func23, Try.ntmps23
  go_wp2_with fail
  refine (specRecS_big _ (by omega) _).mono ?_
  rintro e w0 ⟨rfl, rfl⟩
  go_wp2_with fail
  refine (specValid_any a p n c m q S L F fuel dead _ (HP.out.below (below_alloc2' _ _ _)) hn hm).mono ?_
  rintro e w1 ⟨⟨b1, rfl, hv1⟩, hb1⟩
  rw [HE.out] at hb1
  have K1 : Hid (Below (w.heap.size + 2) ((w.alloc (.cells #[.slice a n c, .slice p m q, .int .i64 fuel, .bool dead] 39)).alloc (.cells #[.slice none 0 0, .slice none 0 0, .int .i64 0, .bool false] 39)) w1) := hb1
  have z1 : w.heap.size + 2 ≤ w1.heap.size := by have := hb1.size; rw [HE.out] at this; exact this
  have hc1 : ∀ b o, b < w.heap.size + 2 → w1.cell? ⟨b, o, none⟩ = _ := fun b o hb => K1.out.cell (p := ⟨b, o, none⟩) hb
  clear hb1
  cases b1 with
  | false =>
    clear hv1
    go_wp2_with fail
    refine (l1Copy_any a p n c m q d S L F fuel dead w1 (HA.out.below (HFIN.out _ K1.out)) (HP.out.below (HFIN.out _ K1.out)) hn hm HLL.out).mono ?_
    rintro e w9 ⟨a9, c9, p9, q9, A9, rfl, ho9, hb9⟩
    have z9 : w.heap.size + 2 ≤ w1.heap.size := by have := K1.out.size; rw [HE.out] at this; exact this
    have K9 : Below (w.heap.size + 2) ((w.alloc (.cells #[.slice a n c, .slice p m q, .int .i64 fuel, .bool dead] 39)).alloc (.cells #[.slice none 0 0, .slice none 0 0, .int .i64 0, .bool false] 39)) w9 := K1.out.trans (hb9.mono z9)
    have hc9 : ∀ b o, b < w.heap.size + 2 → w9.cell? ⟨b, o, none⟩ = _ := fun b o hb => K9.cell (p := ⟨b, o, none⟩) hb
    have hf9 : ∀ b o, b < w.heap.size + 2 → w9.frozen? ⟨b, o, none⟩ = _ := fun b o hb => K9.frozen (p := ⟨b, o, none⟩) hb
    have hz9 : w.heap.size + 1 < w9.heap.size := by have := hb9.size; omega
    have HX : Hid (OwnD w9 (w.heap.size + 2) a9 n d p9 m S L F A9 ∧ Below w.heap.size w w9) := ⟨ho9.mono z9, HFIN.out _ K9⟩
    clear ho9 hb9 K9
    (try clear hc1)
    (try clear hc3)
    (try clear hc4)
    go_wp2
    refine bodyPost_ret (v := .agg #[.slice a9 n c9, .slice p9 m q9, .int .i64 fuel, .bool dead]) (by simp [results, Try.results23, go_sem, hc9]) rfl ⟨a9, c9, p9, q9, A9, rfl, ?_, ?_⟩
    · exact ((((HX.out.1.setOther (by simp) _).setOther (by simp) _).setOther (by simp) _).setOther (by simp) _).mono (by omega)
    · exact (((HX.out.2.setCell (by simp; try omega) _).setCell (by simp; try omega) _).setCell (by simp; try omega) _).setCell (by simp; try omega) _
  | true =>
    clear hv1
    go_wp2_with fail
    refine (l2Number_any seq w1).mono ?_
    rintro e w2 ⟨he, hw2⟩
    subst hw2
    cases hnum : numB seq with
    | false =>
      rw [hnum] at he
      subst he
      go_wp2_with fail
      refine (l1Copy_any a p n c m q d S L F fuel dead w2 (HA.out.below (HFIN.out _ K1.out)) (HP.out.below (HFIN.out _ K1.out)) hn hm HLL.out).mono ?_
      rintro e w9 ⟨a9, c9, p9, q9, A9, rfl, ho9, hb9⟩
      have z9 : w.heap.size + 2 ≤ w2.heap.size := by have := K1.out.size; rw [HE.out] at this; exact this
      have K9 : Below (w.heap.size + 2) ((w.alloc (.cells #[.slice a n c, .slice p m q, .int .i64 fuel, .bool dead] 39)).alloc (.cells #[.slice none 0 0, .slice none 0 0, .int .i64 0, .bool false] 39)) w9 := K1.out.trans (hb9.mono z9)
      have hc9 : ∀ b o, b < w.heap.size + 2 → w9.cell? ⟨b, o, none⟩ = _ := fun b o hb => K9.cell (p := ⟨b, o, none⟩) hb
      have hf9 : ∀ b o, b < w.heap.size + 2 → w9.frozen? ⟨b, o, none⟩ = _ := fun b o hb => K9.frozen (p := ⟨b, o, none⟩) hb
      have hz9 : w.heap.size + 1 < w9.heap.size := by have := hb9.size; omega
      have HX : Hid (OwnD w9 (w.heap.size + 2) a9 n d p9 m S L F A9 ∧ Below w.heap.size w w9) := ⟨ho9.mono z9, HFIN.out _ K9⟩
      clear ho9 hb9 K9
      (try clear hc1)
      (try clear hc3)
      (try clear hc4)
      go_wp2
      refine bodyPost_ret (v := .agg #[.slice a9 n c9, .slice p9 m q9, .int .i64 fuel, .bool dead]) (by simp [results, Try.results23, go_sem, hc9]) rfl ⟨a9, c9, p9, q9, A9, rfl, ?_, ?_⟩
      · exact ((((HX.out.1.setOther (by simp) _).setOther (by simp) _).setOther (by simp) _).setOther (by simp) _).mono (by omega)
      · exact (((HX.out.2.setCell (by simp; try omega) _).setCell (by simp; try omega) _).setCell (by simp; try omega) _).setCell (by simp; try omega) _
    | true =>
      rw [hnum] at he
      subst he
      go_wp2_with fail
      refine (l1Copy_any a p n c m q d S L F fuel dead w2 (HA.out.below (HFIN.out _ K1.out)) (HP.out.below (HFIN.out _ K1.out)) hn hm HLL.out).mono ?_
      rintro e w9 ⟨a9, c9, p9, q9, A9, rfl, ho9, hb9⟩
      have z9 : w.heap.size + 2 ≤ w2.heap.size := by have := K1.out.size; rw [HE.out] at this; exact this
      have K9 : Below (w.heap.size + 2) ((w.alloc (.cells #[.slice a n c, .slice p m q, .int .i64 fuel, .bool dead] 39)).alloc (.cells #[.slice none 0 0, .slice none 0 0, .int .i64 0, .bool false] 39)) w9 := K1.out.trans (hb9.mono z9)
      have hc9 : ∀ b o, b < w.heap.size + 2 → w9.cell? ⟨b, o, none⟩ = _ := fun b o hb => K9.cell (p := ⟨b, o, none⟩) hb
      have hf9 : ∀ b o, b < w.heap.size + 2 → w9.frozen? ⟨b, o, none⟩ = _ := fun b o hb => K9.frozen (p := ⟨b, o, none⟩) hb
      have hz9 : w.heap.size + 1 < w9.heap.size := by have := hb9.size; omega
      have HX : Hid (OwnD w9 (w.heap.size + 2) a9 n d p9 m S L F A9 ∧ Below w.heap.size w w9) := ⟨ho9.mono z9, HFIN.out _ K9⟩
      clear ho9 hb9 K9
      (try clear hc1)
      (try clear hc3)
      (try clear hc4)
      go_wp2
      refine bodyPost_ret (v := .agg #[.slice a9 n c9, .slice p9 m q9, .int .i64 fuel, .bool dead]) (by simp [results, Try.results23, go_sem, hc9]) rfl ⟨a9, c9, p9, q9, A9, rfl, ?_, ?_⟩
      · exact ((((HX.out.1.setOther (by simp) _).setOther (by simp) _).setOther (by simp) _).setOther (by simp) _).mono (by omega)
      · exact (((HX.out.2.setCell (by simp; try omega) _).setCell (by simp; try omega) _).setCell (by simp; try omega) _).setCell (by simp; try omega) _

set_option maxHeartbeats 2000000 in
theorem specRec_bad (a p ad : Option Addr) (n c m q N cp : Nat) (d S : Nat → Int) (L : Nat → Nat) (F : Nat → Nat → Int) (fuel : Int) (dead : Bool) (at_ seq : Int) (w : World) (ha : Rd .u8 w a n d) (hp : RdP w p m S L F) (hn : n ≤ 1048576) (hm : m ≤ 1048576) (hL : ∀ i, i < m → L i ≤ 1048576) (hN : N ≤ 30000) (hbad : ¬ (VD n m S L fuel ∧ numB seq = true ∧ 2 ≤ at_ ∧ at_ ≤ (n : Int) / 64 - cntOf N)) :
    Calls Try.prog 23 #[.agg #[.slice a n c, .slice p m q, .int .i64 fuel, .bool dead], .int .i64 at_, .int .i64 seq, .slice ad N cp] w fun e w' => RetD w e w' n d m S L F fuel dead := by
  obtain ⟨K, hK⟩ : ∃ K, K = cntOf N := ⟨_, rfl⟩
  rw [← hK] at hbad
  have HK : Hid (cntOf N = K) := hK.symm
  have hk1 : 1 ≤ K := by rw [hK]; exact cntOf_pos N
  have hk2 : K ≤ 625 := by rw [hK]; exact cntOf_le hN
  clear hK
  have HBAD : Hid (¬ (VD n m S L fuel ∧ numB seq = true ∧ 2 ≤ at_ ∧ at_ ≤ (n : Int) / 64 - K)) := hbad
  have hk3 : ¬ (K : Int) = 0 := by omega
  have hk4 : ((K : Int) == 0) = false := by simp; omega
  have e0 : IntKind.i64.wrap (N : Int) = (N : Int) := by rw [IntKind.wrap_i64]; omega
  have HA : Hid (Rd .u8 w a n d) := ha
  have HP : Hid (RdP w p m S L F) := hp
  have HLL : Hid (∀ i, i < m → L i ≤ 1048576) := hL
  have HFIN : Hid (∀ W : World, Below (w.heap.size + 2) ((w.alloc (.cells #[.slice a n c, .slice p m q, .int .i64 fuel, .bool dead] 39)).alloc (.cells #[.slice none 0 0, .slice none 0 0, .int .i64 0, .bool false] 39)) W → Below w.heap.size w W) := fun W h => (below_alloc2' _ _ _).trans (h.mono (by omega))
  have HE : Hid (∀ o1 o2, ((w.alloc o1).alloc o2).heap.size = w.heap.size + 2) := fun _ _ => by simp
  clear ha hp hL hbad
  go_enter Try.func23, Try.ntmps23
  go_wp2_with fail
  refine (specRecS N hN _).mono ?_
  rintro e w0 ⟨rfl, rfl⟩
  rw [HK.out]
  go_wp2_with fail
  refine (specValid_any a p n c m q S L F fuel dead _ (HP.out.below (below_alloc2' _ _ _)) hn hm).mono ?_
  rintro e w1 ⟨⟨b1, rfl, hv1⟩, hb1⟩
  rw [HE.out] at hb1
  have K1 : Hid (Below (w.heap.size + 2) ((w.alloc (.cells #[.slice a n c, .slice p m q, .int .i64 fuel, .bool dead] 39)).alloc (.cells #[.slice none 0 0, .slice none 0 0, .int .i64 0, .bool false] 39)) w1) := hb1
  have z1 : w.heap.size + 2 ≤ w1.heap.size := by have := hb1.size; rw [HE.out] at this; exact this
  have hc1 : ∀ b o, b < w.heap.size + 2 → w1.cell? ⟨b, o, none⟩ = _ := fun b o hb => K1.out.cell (p := ⟨b, o, none⟩) hb
  clear hb1
  cases b1 with
  | false =>
    clear hv1
    go_wp2_with fail
    refine (l1Copy_any a p n c m q d S L F fuel dead w1 (HA.out.below (HFIN.out _ K1.out)) (HP.out.below (HFIN.out _ K1.out)) hn hm HLL.out).mono ?_
    rintro e w9 ⟨a9, c9, p9, q9, A9, rfl, ho9, hb9⟩
    have z9 : w.heap.size + 2 ≤ w1.heap.size := by have := K1.out.size; rw [HE.out] at this; exact this
    have K9 : Below (w.heap.size + 2) ((w.alloc (.cells #[.slice a n c, .slice p m q, .int .i64 fuel, .bool dead] 39)).alloc (.cells #[.slice none 0 0, .slice none 0 0, .int .i64 0, .bool false] 39)) w9 := K1.out.trans (hb9.mono z9)
    have hc9 : ∀ b o, b < w.heap.size + 2 → w9.cell? ⟨b, o, none⟩ = _ := fun b o hb => K9.cell (p := ⟨b, o, none⟩) hb
    have hf9 : ∀ b o, b < w.heap.size + 2 → w9.frozen? ⟨b, o, none⟩ = _ := fun b o hb => K9.frozen (p := ⟨b, o, none⟩) hb
    have hz9 : w.heap.size + 1 < w9.heap.size := by have := hb9.size; omega
    have HX : Hid (OwnD w9 (w.heap.size + 2) a9 n d p9 m S L F A9 ∧ Below w.heap.size w w9) := ⟨ho9.mono z9, HFIN.out _ K9⟩
    clear ho9 hb9 K9
    (try clear hc1)
    (try clear hc3)
    (try clear hc4)
    go_wp2
    refine bodyPost_ret (v := .agg #[.slice a9 n c9, .slice p9 m q9, .int .i64 fuel, .bool dead]) (by simp [results, Try.results23, go_sem, hc9]) rfl ⟨a9, c9, p9, q9, A9, rfl, ?_, ?_⟩
    · exact ((((HX.out.1.setOther (by simp) _).setOther (by simp) _).setOther (by simp) _).setOther (by simp) _).mono (by omega)
    · exact (((HX.out.2.setCell (by simp; try omega) _).setCell (by simp; try omega) _).setCell (by simp; try omega) _).setCell (by simp; try omega) _
  | true =>
    have HV : Hid (VD n m S L fuel) := hv1.1 rfl
    clear hv1
    go_wp2_with fail
    refine (l2Number_any seq w1).mono ?_
    rintro e w2 ⟨he, hw2⟩
    subst hw2
    cases hnum : numB seq with
    | false =>
      rw [hnum] at he
      subst he
      go_wp2_with fail
      refine (l1Copy_any a p n c m q d S L F fuel dead w2 (HA.out.below (HFIN.out _ K1.out)) (HP.out.below (HFIN.out _ K1.out)) hn hm HLL.out).mono ?_
      rintro e w9 ⟨a9, c9, p9, q9, A9, rfl, ho9, hb9⟩
      have z9 : w.heap.size + 2 ≤ w2.heap.size := by have := K1.out.size; rw [HE.out] at this; exact this
      have K9 : Below (w.heap.size + 2) ((w.alloc (.cells #[.slice a n c, .slice p m q, .int .i64 fuel, .bool dead] 39)).alloc (.cells #[.slice none 0 0, .slice none 0 0, .int .i64 0, .bool false] 39)) w9 := K1.out.trans (hb9.mono z9)
      have hc9 : ∀ b o, b < w.heap.size + 2 → w9.cell? ⟨b, o, none⟩ = _ := fun b o hb => K9.cell (p := ⟨b, o, none⟩) hb
      have hf9 : ∀ b o, b < w.heap.size + 2 → w9.frozen? ⟨b, o, none⟩ = _ := fun b o hb => K9.frozen (p := ⟨b, o, none⟩) hb
      have hz9 : w.heap.size + 1 < w9.heap.size := by have := hb9.size; omega
      have HX : Hid (OwnD w9 (w.heap.size + 2) a9 n d p9 m S L F A9 ∧ Below w.heap.size w w9) := ⟨ho9.mono z9, HFIN.out _ K9⟩
      clear ho9 hb9 K9
      (try clear hc1)
      (try clear hc3)
      (try clear hc4)
      go_wp2
      refine bodyPost_ret (v := .agg #[.slice a9 n c9, .slice p9 m q9, .int .i64 fuel, .bool dead]) (by simp [results, Try.results23, go_sem, hc9]) rfl ⟨a9, c9, p9, q9, A9, rfl, ?_, ?_⟩
      · exact ((((HX.out.1.setOther (by simp) _).setOther (by simp) _).setOther (by simp) _).setOther (by simp) _).mono (by omega)
      · exact (((HX.out.2.setCell (by simp; try omega) _).setCell (by simp; try omega) _).setCell (by simp; try omega) _).setCell (by simp; try omega) _
    | true =>
      rw [hnum] at he
      subst he
      have HNM : Hid (numB seq = true) := hnum
      clear hnum
      by_cases c1 : at_ < 2
      · go_wp2_with fail
        refine (l1Copy_any a p n c m q d S L F fuel dead w2 (HA.out.below (HFIN.out _ K1.out)) (HP.out.below (HFIN.out _ K1.out)) hn hm HLL.out).mono ?_
        rintro e w9 ⟨a9, c9, p9, q9, A9, rfl, ho9, hb9⟩
        have z9 : w.heap.size + 2 ≤ w2.heap.size := by have := K1.out.size; rw [HE.out] at this; exact this
        have K9 : Below (w.heap.size + 2) ((w.alloc (.cells #[.slice a n c, .slice p m q, .int .i64 fuel, .bool dead] 39)).alloc (.cells #[.slice none 0 0, .slice none 0 0, .int .i64 0, .bool false] 39)) w9 := K1.out.trans (hb9.mono z9)
        have hc9 : ∀ b o, b < w.heap.size + 2 → w9.cell? ⟨b, o, none⟩ = _ := fun b o hb => K9.cell (p := ⟨b, o, none⟩) hb
        have hf9 : ∀ b o, b < w.heap.size + 2 → w9.frozen? ⟨b, o, none⟩ = _ := fun b o hb => K9.frozen (p := ⟨b, o, none⟩) hb
        have hz9 : w.heap.size + 1 < w9.heap.size := by have := hb9.size; omega
        have HX : Hid (OwnD w9 (w.heap.size + 2) a9 n d p9 m S L F A9 ∧ Below w.heap.size w w9) := ⟨ho9.mono z9, HFIN.out _ K9⟩
        clear ho9 hb9 K9
        (try clear hc1)
        (try clear hc3)
        (try clear hc4)
        go_wp2
        refine bodyPost_ret (v := .agg #[.slice a9 n c9, .slice p9 m q9, .int .i64 fuel, .bool dead]) (by simp [results, Try.results23, go_sem, hc9]) rfl ⟨a9, c9, p9, q9, A9, rfl, ?_, ?_⟩
        · exact ((((HX.out.1.setOther (by simp) _).setOther (by simp) _).setOther (by simp) _).setOther (by simp) _).mono (by omega)
        · exact (((HX.out.2.setCell (by simp; try omega) _).setCell (by simp; try omega) _).setCell (by simp; try omega) _).setCell (by simp; try omega) _
      · have c1' : decide (at_ < 2) = false := decide_eq_false c1
        go_wp2_with fail
        refine (l1Sectors_any a p n c m q fuel dead w2 hn).mono ?_
        rintro e w3 ⟨rfl, hb3⟩
        have K3 : Hid (Below (w.heap.size + 2) ((w.alloc (.cells #[.slice a n c, .slice p m q, .int .i64 fuel, .bool dead] 39)).alloc (.cells #[.slice none 0 0, .slice none 0 0, .int .i64 0, .bool false] 39)) w3) := K1.out.trans (hb3.mono z1)
        have z3 := hb3.size
        have hc3 : ∀ b o, b < w.heap.size + 2 → w3.cell? ⟨b, o, none⟩ = _ := fun b o hb => K3.out.cell (p := ⟨b, o, none⟩) hb
        clear hb3 hc1
        by_cases c2 : (n : Int) / 64 < at_
        · go_wp2_with fail
          refine (l1Copy_any a p n c m q d S L F fuel dead w3 (HA.out.below (HFIN.out _ K3.out)) (HP.out.below (HFIN.out _ K3.out)) hn hm HLL.out).mono ?_
          rintro e w9 ⟨a9, c9, p9, q9, A9, rfl, ho9, hb9⟩
          have z9 : w.heap.size + 2 ≤ w3.heap.size := by have := K3.out.size; rw [HE.out] at this; exact this
          have K9 : Below (w.heap.size + 2) ((w.alloc (.cells #[.slice a n c, .slice p m q, .int .i64 fuel, .bool dead] 39)).alloc (.cells #[.slice none 0 0, .slice none 0 0, .int .i64 0, .bool false] 39)) w9 := K3.out.trans (hb9.mono z9)
          have hc9 : ∀ b o, b < w.heap.size + 2 → w9.cell? ⟨b, o, none⟩ = _ := fun b o hb => K9.cell (p := ⟨b, o, none⟩) hb
          have hf9 : ∀ b o, b < w.heap.size + 2 → w9.frozen? ⟨b, o, none⟩ = _ := fun b o hb => K9.frozen (p := ⟨b, o, none⟩) hb
          have hz9 : w.heap.size + 1 < w9.heap.size := by have := hb9.size; omega
          have HX : Hid (OwnD w9 (w.heap.size + 2) a9 n d p9 m S L F A9 ∧ Below w.heap.size w w9) := ⟨ho9.mono z9, HFIN.out _ K9⟩
          clear ho9 hb9 K9
          (try clear hc1)
          (try clear hc3)
          (try clear hc4)
          go_wp2
          refine bodyPost_ret (v := .agg #[.slice a9 n c9, .slice p9 m q9, .int .i64 fuel, .bool dead]) (by simp [results, Try.results23, go_sem, hc9]) rfl ⟨a9, c9, p9, q9, A9, rfl, ?_, ?_⟩
          · exact ((((HX.out.1.setOther (by simp) _).setOther (by simp) _).setOther (by simp) _).setOther (by simp) _).mono (by omega)
          · exact (((HX.out.2.setCell (by simp; try omega) _).setCell (by simp; try omega) _).setCell (by simp; try omega) _).setCell (by simp; try omega) _
        · have c2' : decide ((n : Int) / 64 < at_) = false := decide_eq_false c2
          have e2 : IntKind.i64.wrap (at_ + (K : Int)) = at_ + (K : Int) := by rw [IntKind.wrap_i64]; omega
          have c3 : (n : Int) / 64 < at_ + (K : Int) := by
            apply Classical.byContradiction
            intro hh
            exact HBAD.out ⟨HV.out, HNM.out, by omega, by omega⟩
          go_wp2_with fail
          refine (l1Sectors_any a p n c m q fuel dead w3 hn).mono ?_
          rintro e w4 ⟨rfl, hb4⟩
          have K4 : Hid (Below (w.heap.size + 2) ((w.alloc (.cells #[.slice a n c, .slice p m q, .int .i64 fuel, .bool dead] 39)).alloc (.cells #[.slice none 0 0, .slice none 0 0, .int .i64 0, .bool false] 39)) w4) := K3.out.trans (hb4.mono (by omega))
          have hc4 : ∀ b o, b < w.heap.size + 2 → w4.cell? ⟨b, o, none⟩ = _ := fun b o hb => K4.out.cell (p := ⟨b, o, none⟩) hb
          clear hb4 hc3
          go_wp2_with fail
          refine (l1Copy_any a p n c m q d S L F fuel dead w4 (HA.out.below (HFIN.out _ K4.out)) (HP.out.below (HFIN.out _ K4.out)) hn hm HLL.out).mono ?_
          rintro e w9 ⟨a9, c9, p9, q9, A9, rfl, ho9, hb9⟩
          have z9 : w.heap.size + 2 ≤ w4.heap.size := by have := K4.out.size; rw [HE.out] at this; exact this
          have K9 : Below (w.heap.size + 2) ((w.alloc (.cells #[.slice a n c, .slice p m q, .int .i64 fuel, .bool dead] 39)).alloc (.cells #[.slice none 0 0, .slice none 0 0, .int .i64 0, .bool false] 39)) w9 := K4.out.trans (hb9.mono z9)
          have hc9 : ∀ b o, b < w.heap.size + 2 → w9.cell? ⟨b, o, none⟩ = _ := fun b o hb => K9.cell (p := ⟨b, o, none⟩) hb
          have hf9 : ∀ b o, b < w.heap.size + 2 → w9.frozen? ⟨b, o, none⟩ = _ := fun b o hb => K9.frozen (p := ⟨b, o, none⟩) hb
          have hz9 : w.heap.size + 1 < w9.heap.size := by have := hb9.size; omega
          have HX : Hid (OwnD w9 (w.heap.size + 2) a9 n d p9 m S L F A9 ∧ Below w.heap.size w w9) := ⟨ho9.mono z9, HFIN.out _ K9⟩
          clear ho9 hb9 K9
          (try clear hc1)
          (try clear hc3)
          (try clear hc4)
          go_wp2
          refine bodyPost_ret (v := .agg #[.slice a9 n c9, .slice p9 m q9, .int .i64 fuel, .bool dead]) (by simp [results, Try.results23, go_sem, hc9]) rfl ⟨a9, c9, p9, q9, A9, rfl, ?_, ?_⟩
          · exact ((((HX.out.1.setOther (by simp) _).setOther (by simp) _).setOther (by simp) _).setOther (by simp) _).mono (by omega)
          · exact (((HX.out.2.setCell (by simp; try omega) _).setCell (by simp; try omega) _).setCell (by simp; try omega) _).setCell (by simp; try omega) _
end Go.Proofs.Ytbpcafcipncloaa

namespace Go.Proofs.Ytbpcafcipncloaa
open Go.RowKit Go.Deep
set_option linter.unusedVariables false
set_option maxRecDepth 100000

/-- m sectors that can be read, none of them in block x. -/
def RdX (W : World) (x bs m : Nat) (G : Nat → Nat → Int) : Prop :=
  bs ≠ x ∧ ∀ i, i < m → ∃ ad cp, W.cell? ⟨bs, i, none⟩ = some (.slice ad 64 cp) ∧ Rd .u8 W ad 64 (G i) ∧ ∀ y, ad = some y → y.block ≠ x

theorem RdX.below {W W' : World} {x bs m : Nat} {G : Nat → Nat → Int} (h : RdX W x bs m G) (hb : Below W.heap.size W W') : RdX W' x bs m G :=
  ⟨h.1, fun i hi => by
    obtain ⟨ad, cp, h1, h2, h3⟩ := h.2 i hi
    exact ⟨ad, cp, (hb.cell (p := ⟨bs, i, none⟩) (World.block_lt_of_cell? _ _ h1)).trans h1, h2.below hb, h3⟩⟩

theorem rd_setFar {W : World} {ad : Option Addr} {f : Nat → Int} {n x o : Nat} (h : Rd .u8 W ad n f) (hx : ∀ y, ad = some y → y.block ≠ x) (v : Value) : Rd .u8 (W.setCell ⟨x, o, none⟩ v) ad n f := by
  rcases h with h | ⟨b, k, rfl, hc⟩
  · exact Or.inl h
  · exact Or.inr ⟨b, k, rfl, fun i hi => (World.cell?_setCell_far _ _ _ _ (fun e => hx _ rfl e.symm)).trans (hc i hi)⟩

theorem RdX.set {W : World} {x bs m o : Nat} {G : Nat → Nat → Int} (h : RdX W x bs m G) (v : Value) : RdX (W.setCell ⟨x, o, none⟩ v) x bs m G :=
  ⟨h.1, fun i hi => by
    obtain ⟨ad, cp, h1, h2, h3⟩ := h.2 i hi
    exact ⟨ad, cp, (World.cell?_setCell_far _ _ _ _ (fun e => h.1 e.symm)).trans h1, rd_setFar h2 h3 v, h3⟩⟩

/-- Sectors that were read as such don't lie in a disk's box. -/
theorem rdS_off {W : World} {x bs m n c k q : Nat} {a p : Option Addr} {fuel : Int} {dead : Bool} {G : Nat → Nat → Int} {t : TypeId} {fr : Nat × Nat} (h : RdS W bs 0 m (fun _ => 64) G) (hm : 0 < m) (hx : W.heap[x]? = some (.cells #[.slice a n c, .slice p k q, .int .i64 fuel, .bool dead] t fr)) (hn : n ≠ 64) : RdX W x bs m G := by
  have hcl : ∀ o, W.cell? ⟨x, o, none⟩ = #[Value.slice a n c, .slice p k q, .int .i64 fuel, .bool dead][o]? := fun o => by simp [World.cell?, hx]
  refine ⟨fun e => ?_, fun i hi => ?_⟩
  · subst e
    obtain ⟨ad, cp, h1, _⟩ := h 0 hm
    rw [hcl] at h1
    simp at h1
    exact hn h1.2.1
  · obtain ⟨ad, cp, h1, h2⟩ := h i hi
    refine ⟨ad, cp, by rw [Nat.zero_add] at h1; exact h1, h2, fun y e hy => ?_⟩
    rcases h2 with h2 | ⟨b, o, rfl, hc⟩
    · simp at h2
    · injection e with e
      subst e
      have hb : b = x := hy
      subst hb
      have h3 := hc 0 (by simp)
      rw [hcl] at h3
      rcases o with _ | _ | _ | _ | o <;> simp at h3

/-- A variable in block x that holds the disk t. -/
def DkIn (W : World) (x n : Nat) (t : Stt) : Prop :=
  ∃ a c p q, DkRow W x (.slice a n c) (.slice p t.m q) t.fuel t.dead ∧ Rd .u8 W a n t.d ∧ RdP W p t.m t.S t.L t.F

theorem DkIn.mk' {W : World} {x n c q B : Nat} {a p : Option Addr} {A : Nat → Option Addr} {u0 u1 : Value} {f0 : Int} {d0 : Bool} {t : Stt} (h : DkRow W x u0 u1 f0 d0) (ho : OwnD W B a n t.d p t.m t.S t.L t.F A) (hB : x < B) :
    DkIn ((((W.setCell ⟨x, 0, none⟩ (.slice a n c)).setCell ⟨x, 1, none⟩ (.slice p t.m q)).setCell ⟨x, 2, none⟩ (.int .i64 t.fuel)).setCell ⟨x, 3, none⟩ (.bool t.dead)) x n t := by
  have h4 := (((ho.setOther (x := ⟨x, 0, none⟩) hB (.slice a n c)).setOther (x := ⟨x, 1, none⟩) hB (.slice p t.m q)).setOther (x := ⟨x, 2, none⟩) hB (.int .i64 t.fuel)).setOther (x := ⟨x, 3, none⟩) hB (.bool t.dead)
  exact ⟨a, c, p, q, dk_set4 h, h4.data.rd, h4.cache.rd⟩

/-- What the variables of WriteRec are between two statements. -/
def RecSt (w W : World) (n bs last : Nat) (G : Nat → Nat → Int) (t : Stt) : Prop :=
  DkIn W w.heap.size n t ∧ RdX W w.heap.size bs (last + 1) G ∧ DkRow W (w.heap.size + 1) (.slice none 0 0) (.slice none 0 0) 0 false ∧ Below w.heap.size w W ∧ w.heap.size + 2 ≤ W.heap.size

theorem RecSt.next {w W w4 : World} {n bs last c q : Nat} {G : Nat → Nat → Int} {t t2 : Stt} {a p : Option Addr} {A : Nat → Option Addr} (h : RecSt w W n bs last G t) (hb : Below W.heap.size W w4) (ho : OwnD w4 W.heap.size a n t2.d p t2.m t2.S t2.L t2.F A) :
    RecSt w ((((w4.setCell ⟨w.heap.size, 0, none⟩ (.slice a n c)).setCell ⟨w.heap.size, 1, none⟩ (.slice p t2.m q)).setCell ⟨w.heap.size, 2, none⟩ (.int .i64 t2.fuel)).setCell ⟨w.heap.size, 3, none⟩ (.bool t2.dead)) n bs last G t2 := by
  obtain ⟨⟨a0, c0, p0, q0, hr, _, _⟩, h2, h3, h4, h5⟩ := h
  have hz := hb.size
  refine ⟨DkIn.mk' (hr.below hb) ho (by omega), ((((h2.below hb).set _).set _).set _).set _, ?_, ?_, by simp; omega⟩
  · exact (((((rowIn.below h3 hb).setOther (by simp) _).setOther (by simp) _).setOther (by simp) _).setOther (by simp) _)
  · exact ((((h4.trans (hb.mono (by omega))).setCell (by simp) _).setCell (by simp) _).setCell (by simp) _).setCell (by simp) _

/-- A call of DiskWrite, as a step of a region that draws its order. -/
theorem step_dw {ops : Array Oper} {o : Oper} {a : Act} {w : World} {K : Act → World → Prop} {Q : Exit → Act → World → Prop} {E : Prop} (hgd : o.guard = none) (x y z : Nat)
    (ho : o.op = .call { callee := .value (.func 49), args := #[.tmp x, .tmp y, .tmp z], argTypes := #[39, 2, 24] }) (u v t : Value) (hx : a.tmps[x]?.getD undef = u) (hy : a.tmps[y]?.getD undef = v) (hz : a.tmps[z]?.getD undef = t)
    (h : Calls Try.prog 49 #[u, v, t] w fun e w' => ∃ r, e = .returned r ∧ K (a.put o.dst r) w') :
    if Region.wanted o (yielded ops a.tmps) = true then Oper.wp Try.prog o a w K Q else E := by
  have hw : Region.wanted o (yielded ops a.tmps) = true := by simp [Region.wanted, hgd]
  rw [if_pos hw]
  unfold Oper.wp
  simp [execOp, ho, resolve, invoke, hx, hy, hz, go_sem]
  refine h.mono ?_
  rintro e w' ⟨u, rfl, hk⟩
  exact hk

set_option maxHeartbeats 4000000 in
theorem specRec_good (t : Stt) (a p ad : Option Addr) (n c q N cp last : Nat) (f : Nat → Int) (at_ seq : Int) (w : World) (ha : Rd .u8 w a n t.d) (hp : RdP w p t.m t.S t.L t.F) (hrd : Rd .u8 w ad N f) (hf : ∀ j, j < N → 0 ≤ f j ∧ f j < 256) (hv : t.ok n) (hN : N ≤ 30000) (hcp : N ≤ cp) (hcm : cp ≤ 9223372036854775807) (hl : cntOf N = last + 1) (hq : numB seq = true) (a0 : 2 ≤ at_) (a1 : at_ ≤ (n : Int) / 64 - cntOf N) :
    Calls Try.prog 23 #[.agg #[.slice a n c, .slice p t.m q, .int .i64 t.fuel, .bool t.dead], .int .i64 at_, .int .i64 seq, .slice ad N cp] w ((t.recd at_ (secW N seq f) last).ret n w) := by
  have HOK : Hid (t.ok n) := hv
  have HT : Hid (Stt.ok n t ∧ VD n t.m t.S t.L t.fuel) := ⟨hv, hv⟩
  obtain ⟨G, hG⟩ : ∃ G : Nat → Nat → Int, G = secW N seq f := ⟨_, rfl⟩
  rw [← hG]
  have HG : Hid (G = secW N seq f) := hG
  clear hG
  rw [hl] at a1
  have HL1 : Hid (cntOf N = last + 1) := hl
  have hl6 : last ≤ 624 := by have := cntOf_le hN; omega
  have hVH := hv.1
  unfold VH at hVH
  obtain ⟨hn, hm, hL⟩ := stt_vd_lens (show VD n t.m t.S t.L t.fuel from hv)
  have hn4 : n ≠ 64 := by omega
  have hn6 : (n : Int) / 64 ≤ 1024 := by omega
  have a1' : at_ + (last : Int) + 1 ≤ (n : Int) / 64 := by omega
  have HQ : Hid (numB seq = true ∧ 0 ≤ seq ∧ seq ≤ 2000000000) := by
    refine ⟨hq, ?_⟩
    unfold numB at hq
    simp at hq
    omega
  have HRD : Hid (Rd .u8 w ad N f) := hrd
  have HF : Hid (∀ j, j < N → 0 ≤ f j ∧ f j < 256) := hf
  clear hVH hv hq hl hrd hf a1
  have hk3 : ¬ (last : Int) + 1 = 0 := by omega
  have hk4 : (((last : Int) + 1) == 0) = false := by simp; omega
  have e0 : IntKind.i64.wrap (N : Int) = (N : Int) := by rw [IntKind.wrap_i64]; omega
  have e1 : IntKind.i64.wrap (at_ + ((last : Int) + 1)) = at_ + ((last : Int) + 1) := by rw [IntKind.wrap_i64]; omega
  have e3 : IntKind.i64.wrap (at_ + ((last : Int) + 1) - 1) = at_ + (last : Int) := by rw [IntKind.wrap_i64]; omega
  have e4 : IntKind.i64.wrap ((last : Int) + 1 - 1) = (last : Int) := by rw [IntKind.wrap_i64]; omega
  have c1 : ¬ at_ < 2 := by omega
  have c1' : decide (at_ < 2) = false := decide_eq_false c1
  have c2 : ¬ (n : Int) / 64 < at_ := by omega
  have c2' : decide ((n : Int) / 64 < at_) = false := decide_eq_false c2
  have c3 : ¬ (n : Int) / 64 < at_ + ((last : Int) + 1) := by omega
  have c3' : decide ((n : Int) / 64 < at_ + ((last : Int) + 1)) = false := decide_eq_false c3
  have HA : Hid (Rd .u8 w a n t.d) := ha
  have HP : Hid (RdP w p t.m t.S t.L t.F) := hp
  have HLL : Hid (∀ i, i < t.m → t.L i ≤ 1048576) := hL
  have HFIN : Hid (∀ W : World, Below (w.heap.size + 2) ((w.alloc (.cells #[.slice a n c, .slice p t.m q, .int .i64 t.fuel, .bool t.dead] 39)).alloc (.cells #[.slice none 0 0, .slice none 0 0, .int .i64 0, .bool false] 39)) W → Below w.heap.size w W) := fun W h => (below_alloc2' _ _ _).trans (h.mono (by omega))
  have HE : Hid (∀ o1 o2, ((w.alloc o1).alloc o2).heap.size = w.heap.size + 2) := fun _ _ => by simp
  clear ha hp hL
  go_enter Try.func23, Try.ntmps23
  go_wp2_with fail
  refine (specRecS N hN _).mono ?_
  rintro e w0 ⟨rfl, rfl⟩
  rw [HL1.out]
  rw [show (((last + 1 : Nat)) : Int) = (last : Int) + 1 from by simp]
  go_wp2_with fail
  refine (specValid_any a p n c t.m q t.S t.L t.F t.fuel t.dead _ (HP.out.below (below_alloc2' _ _ _)) hn hm).mono ?_
  rintro e w1 ⟨h1, hb1⟩
  have := ans_true' h1 HT.out.2
  subst this
  rw [HE.out] at hb1
  have K1 : Hid (Below (w.heap.size + 2) ((w.alloc (.cells #[.slice a n c, .slice p t.m q, .int .i64 t.fuel, .bool t.dead] 39)).alloc (.cells #[.slice none 0 0, .slice none 0 0, .int .i64 0, .bool false] 39)) w1) := hb1
  have z1 : w.heap.size + 2 ≤ w1.heap.size := by have := hb1.size; rw [HE.out] at this; exact this
  have hc1 : ∀ b o, b < w.heap.size + 2 → w1.cell? ⟨b, o, none⟩ = _ := fun b o hb => K1.out.cell (p := ⟨b, o, none⟩) hb
  clear hb1 h1
  go_wp2_with fail
  refine (l2Number_any seq w1).mono ?_
  rintro e w2 ⟨he, hw2⟩
  subst hw2
  rw [HQ.out.1] at he
  subst he
  go_wp2_with fail
  refine (l1Sectors_any a p n c t.m q t.fuel t.dead w2 hn).mono ?_
  rintro e w3 ⟨rfl, hb3⟩
  have K3 : Hid (Below (w.heap.size + 2) ((w.alloc (.cells #[.slice a n c, .slice p t.m q, .int .i64 t.fuel, .bool t.dead] 39)).alloc (.cells #[.slice none 0 0, .slice none 0 0, .int .i64 0, .bool false] 39)) w3) := K1.out.trans (hb3.mono z1)
  have z3 := hb3.size
  clear hb3 hc1 K1
  have hc3 : ∀ b o, b < w.heap.size + 2 → w3.cell? ⟨b, o, none⟩ = _ := fun b o hb => K3.out.cell (p := ⟨b, o, none⟩) hb
  go_wp2_with fail
  refine (l1Sectors_any a p n c t.m q t.fuel t.dead w3 hn).mono ?_
  rintro e w4 ⟨rfl, hb4⟩
  have K4 : Hid (Below (w.heap.size + 2) ((w.alloc (.cells #[.slice a n c, .slice p t.m q, .int .i64 t.fuel, .bool t.dead] 39)).alloc (.cells #[.slice none 0 0, .slice none 0 0, .int .i64 0, .bool false] 39)) w4) := K3.out.trans (hb4.mono (by omega))
  have z4 := hb4.size
  clear hb4 hc3 K3
  go_wp2_with fail
  refine (l2Sectors_any ad N cp f seq w4 (HRD.out.below (HFIN.out _ K4.out)) HF.out hN hcp hcm HQ.out.2.1 HQ.out.2.2).mono ?_
  rintro e w5 ⟨bs, cap, rfl, hs5, hb5⟩
  rw [HL1.out, ← HG.out] at hs5
  rw [HL1.out]
  have z5 := hb5.size
  have K5 : Hid (Below (w.heap.size + 2) ((w.alloc (.cells #[.slice a n c, .slice p t.m q, .int .i64 t.fuel, .bool t.dead] 39)).alloc (.cells #[.slice none 0 0, .slice none 0 0, .int .i64 0, .bool false] 39)) w5) := K4.out.trans (hb5.mono (by omega))
  have hblk : w5.heap[w.heap.size]? = some (.cells #[.slice a n c, .slice p t.m q, .int .i64 t.fuel, .bool t.dead] 39) := by
    rw [K5.out.block w.heap.size (by omega), (below_alloc _ _).block w.heap.size (by simp)]
    exact blk_alloc_new _ _
  have X5 : Hid (RdX w5 w.heap.size bs (last + 1) G) := rdS_off hs5 (by omega) hblk hn4
  have D5 : Hid (RecSt w w5 n bs last G t) := by
    have r0 := rowInNew w (.slice a n c) (.slice p t.m q) t.fuel t.dead
    have r1 : DkRow w5 w.heap.size (.slice a n c) (.slice p t.m q) t.fuel t.dead := rowIn.of_block r0 ((K5.out.block w.heap.size (by omega)).trans ((below_alloc _ _).block w.heap.size (by simp)))
    exact ⟨⟨a, c, p, q, r1, HA.out.below (HFIN.out _ K5.out), HP.out.below (HFIN.out _ K5.out)⟩, X5.out, box_res K5.out, HFIN.out _ K5.out, by omega⟩
  clear hs5 hb5 hblk K4 K5 X5
  go_wp2
  go_loopw [11] (fun i wr => ∃ j : Nat, j ≤ last ∧ i = .int .i64 j ∧ RecSt w wr n bs last G (t.writes at_ G j)) (fun i _ => last - (intOf i).toNat)
  case atStart => exact ⟨0, Nat.zero_le _, rfl, D5.out⟩
  case round =>
    obtain ⟨j, hj, rfl, hst⟩ := hrel
    have HST : Hid (RecSt w wr n bs last G (t.writes at_ G j)) := hst
    have hzr := hst.2.2.2.2
    clear hst
    by_cases hlt : j < last
    · obtain ⟨⟨aj, cj, pj, qj, hrow, hra, hrp⟩, hrx, _, _, _⟩ := HST.out
      obtain ⟨adj, cpj, s1, s2, s3⟩ := hrx.2 j (by omega)
      have HRA : Hid (Rd .u8 wr.drew aj n (t.writes at_ G j).d ∧ RdP wr.drew pj (t.writes at_ G j).m (t.writes at_ G j).S (t.writes at_ G j).L (t.writes at_ G j).F ∧ Rd .u8 wr.drew adj 64 (G j)) := ⟨hra, hrp, s2⟩
      obtain ⟨x0, x1, x2, x3, xf, xl⟩ := hrow.cells
      have hbb : bs < wr.heap.size := World.block_lt_of_cell? _ _ s1
      have ij : (j : Int) + 1 < (last : Int) + 1 := by omega
      have ij2 : (j : Int) < ((last + 1 : Nat) : Int) := by omega
      have ij3 : (j : Int) < (last : Int) + 1 := by omega
      have w1' : IntKind.i64.wrap ((j : Int) + 1) = (j : Int) + 1 := by rw [IntKind.wrap_i64]; omega
      have w2' : IntKind.i64.wrap (at_ + (j : Int)) = at_ + (j : Int) := by rw [IntKind.wrap_i64]; omega
      have HC : Hid (∀ w4 : World, Below wr.drew.heap.size wr.drew w4 → (w4.cell? ⟨w.heap.size, 0, none⟩ = some (.slice aj n cj) ∧ w4.cell? ⟨w.heap.size, 1, none⟩ = some (.slice pj (t.writes at_ G j).m qj) ∧ w4.cell? ⟨w.heap.size, 2, none⟩ = some (.int .i64 (t.writes at_ G j).fuel) ∧ w4.cell? ⟨w.heap.size, 3, none⟩ = some (.bool (t.writes at_ G j).dead) ∧ w4.cell? ⟨bs, j, none⟩ = some (.slice adj 64 cpj)) ∧ (∀ x, w4.frozen? ⟨w.heap.size, x, none⟩ = false) ∧ w.heap.size < w4.heap.size) := by
        intro w4 hb
        refine ⟨⟨(hb.cell (p := ⟨w.heap.size, 0, none⟩) xl).trans x0, (hb.cell (p := ⟨w.heap.size, 1, none⟩) xl).trans x1, (hb.cell (p := ⟨w.heap.size, 2, none⟩) xl).trans x2, (hb.cell (p := ⟨w.heap.size, 3, none⟩) xl).trans x3, (hb.cell (p := ⟨bs, j, none⟩) hbb).trans s1⟩, fun x => (hb.frozen (p := ⟨w.heap.size, x, none⟩) xl).trans (xf x), Nat.lt_of_lt_of_le xl hb.size⟩
      clear hrow hra hrp hrx s2 s3
      go_wp2
      refine wp_region_late (S := (fun w' => w'.cell? ⟨w.heap.size, 0, none⟩ = some (.slice aj n cj) ∧ w'.cell? ⟨w.heap.size, 1, none⟩ = some (.slice pj (t.writes at_ G j).m qj) ∧ w'.cell? ⟨w.heap.size, 2, none⟩ = some (.int .i64 (t.writes at_ G j).fuel) ∧ w'.cell? ⟨w.heap.size, 3, none⟩ = some (.bool (t.writes at_ G j).dead) ∧ w'.cell? ⟨bs, j, none⟩ = some (.slice adj 64 cpj))) 9 (by kernel_rfl) ?_ (fun hHeld => ?_)
      · ((try dsimp only); go_keep)
      refine late_take 0 .zero (v := ?_) (by kernel_rfl) (by kernel_rfl) (by kernel_rfl) (by kernel_rfl) (fun _ _ _ h => h) (by rfl) ?_ (by assumption) ?_
      rotate_left
      · (intro w hSw; (try dsimp only at hSw); go_simp) <;> with_reducible rfl
      simp only [Act.put, List.setIfInBounds_toArray, List.set_cons_zero, List.set_cons_succ]
      refine late_take 1 (.succ .zero) (v := ?_) (by kernel_rfl) (by kernel_rfl) (by kernel_rfl) (by kernel_rfl) (fun _ _ _ h => h) (by rfl) ?_ (by assumption) ?_
      rotate_left
      · (intro w hSw; (try dsimp only at hSw); go_simp) <;> with_reducible rfl
      simp only [Act.put, List.setIfInBounds_toArray, List.set_cons_zero, List.set_cons_succ]
      refine late_take 2 (.succ (.succ .zero)) (v := ?_) (by kernel_rfl) (by kernel_rfl) (by kernel_rfl) (by kernel_rfl) (fun _ _ _ h => h) (by rfl) ?_ (by assumption) ?_
      rotate_left
      · (intro w hSw; (try dsimp only at hSw); go_simp) <;> with_reducible rfl
      simp only [Act.put, List.setIfInBounds_toArray, List.set_cons_zero, List.set_cons_succ]
      refine late_take 3 (.succ (.succ (.succ .zero))) (v := ?_) (by kernel_rfl) (by kernel_rfl) (by kernel_rfl) (by kernel_rfl) (fun _ _ _ h => h) (by rfl) ?_ (by assumption) ?_
      rotate_left
      · (intro w hSw; (try dsimp only at hSw); go_simp) <;> with_reducible rfl
      simp only [Act.put, List.setIfInBounds_toArray, List.set_cons_zero, List.set_cons_succ]
      refine late_take 4 (.succ (.succ (.succ (.succ .zero)))) (v := ?_) (by kernel_rfl) (by kernel_rfl) (by kernel_rfl) (by kernel_rfl) (fun _ _ _ h => h) (by rfl) ?_ (by assumption) ?_
      rotate_left
      · (intro w hSw; (try dsimp only at hSw); go_simp) <;> with_reducible rfl
      simp only [Act.put, List.setIfInBounds_toArray, List.set_cons_zero, List.set_cons_succ]
      refine late_take 5 (.succ (.succ (.succ (.succ (.succ .zero))))) (v := ?_) (by kernel_rfl) (by kernel_rfl) (by kernel_rfl) (by kernel_rfl) (fun _ _ _ h => h) (by rfl) ?_ (by assumption) ?_
      rotate_left
      · (intro w hSw; (try dsimp only at hSw); go_simp) <;> with_reducible rfl
      simp only [Act.put, List.setIfInBounds_toArray, List.set_cons_zero, List.set_cons_succ]
      refine late_take 6 (.succ (.succ (.succ (.succ (.succ (.succ .zero)))))) (v := ?_) (by kernel_rfl) (by kernel_rfl) (by kernel_rfl) (by kernel_rfl) (fun _ _ _ h => h) (by rfl) ?_ (by assumption) ?_
      rotate_left
      · (intro w hSw; (try dsimp only at hSw); go_simp) <;> with_reducible rfl
      simp only [Act.put, List.setIfInBounds_toArray, List.set_cons_zero, List.set_cons_succ]
      refine late_take 7 (.succ (.succ (.succ (.succ (.succ (.succ (.succ .zero))))))) (v := ?_) (by kernel_rfl) (by kernel_rfl) (by kernel_rfl) (by kernel_rfl) (fun _ _ _ h => h) (by rfl) ?_ (by assumption) ?_
      rotate_left
      · (intro w hSw; (try dsimp only at hSw); go_simp) <;> with_reducible rfl
      simp only [Act.put, List.setIfInBounds_toArray, List.set_cons_zero, List.set_cons_succ]
      refine late_one 8 (.succ (.succ (.succ (.succ (.succ (.succ (.succ (.succ .zero)))))))) (by kernel_rfl) (fun K hK => ?_)
      (refine step_dw (by rfl) 56 59 63 (by rfl) (.agg #[.slice aj n cj, .slice pj (t.writes at_ G j).m qj, .int .i64 (t.writes at_ G j).fuel, .bool (t.writes at_ G j).dead]) (.int .i64 (at_ + (j : Int))) (.slice adj 64 cpj) (by rfl) (by rfl) (by rfl) ?_; refine (specW_st (t.writes at_ G j) aj pj adj n cj qj cpj (at_ + (j : Int)) (G j) wr.drew HRA.out.1 HRA.out.2.1 HRA.out.2.2 (HT.out.1.writes j (by omega) (by omega)) (by omega) (by omega)).mono ?_; rintro e w4 ⟨a4, c4, p4, q4, A4, he, ho4, hb4⟩; refine ⟨_, he, ?_⟩; clear he; obtain ⟨⟨k0, k1, k2, k3, k4⟩, kf, kl⟩ := HC.out w4 hb4)
      refine hK.out _ _ ?_ (fun hHeld2 => ?_)
      · (intro _; (try dsimp only); go_keep)
      clear hK K
      replace hHeld := hHeld2 (by decide)
      clear hHeld2
      try simp only [Act.put, List.setIfInBounds_toArray, List.set_cons_zero, List.set_cons_succ]
      refine late_one 9 (.succ (.succ (.succ (.succ (.succ (.succ (.succ (.succ (.succ .zero))))))))) (by kernel_rfl) (fun K hK => ?_)
      go_simp
      refine hK.out _ _ ?_ (fun hHeld2 => ?_)
      · (intro hne; exact absurd rfl hne)
      clear hK K hHeld2
      refine wpLate_done (by kernel_rfl) ?_ _
      have HY : Hid (RecSt w ((((w4.setCell ⟨w.heap.size, 0, none⟩ (.slice a4 n c4)).setCell ⟨w.heap.size, 1, none⟩ (.slice p4 (t.writes at_ G (j + 1)).m q4)).setCell ⟨w.heap.size, 2, none⟩ (.int .i64 (t.writes at_ G (j + 1)).fuel)).setCell ⟨w.heap.size, 3, none⟩ (.bool (t.writes at_ G (j + 1)).dead)) n bs last G (t.writes at_ G (j + 1))) := HST.out.next (w4 := w4) ((Below.refl _ _).drew.trans hb4) ho4
      clear hb4 ho4 k0 k1 k2 k3 k4 kf kl hHeld HC HRA x0 x1 x2 x3 xf s1 HST
      go_wp2
      go_roundw
      case rel => exact ⟨j + 1, by omega, by go_num, HY.out⟩
      case measure => simp [intOf]; omega
    · have e : j = last := by omega
      subst e
      have HOW : Hid ((t.writes at_ G j).ok n) := HT.out.1.writes j (by omega) (by omega)
      obtain ⟨t2, ht2⟩ : ∃ t2, t2 = (if 0 < j then (t.writes at_ G j).sync else t.writes at_ G j) := ⟨_, rfl⟩
      have HREC : Hid (t.recd at_ G j = (t2.write (at_ + (j : Int)) (G j)).sync) := by rw [ht2]; rfl
      have HT2 : Hid (t2.ok n) := by
        show t2.ok n
        rw [ht2]
        split
        · exact HOW.out.sync
        · exact HOW.out
      have HT3 : Hid ((t2.write (at_ + (j : Int)) (G j)).ok n) := HT2.out.write _ (by omega) (by omega)
      have w1' : IntKind.i64.wrap ((j : Int) + 1) = (j : Int) + 1 := by rw [IntKind.wrap_i64]; omega
      have w2' : IntKind.i64.wrap (at_ + (j : Int)) = at_ + (j : Int) := by rw [IntKind.wrap_i64]; omega
      have w3' : IntKind.i64.wrap (j : Int) = (j : Int) := by rw [IntKind.wrap_i64]; omega
      have ij2 : (j : Int) < ((j + 1 : Nat) : Int) := by omega
      have ij4 : (0 : Int) ≤ (j : Int) := by omega
      have ij3 : (j : Int) < (j : Int) + 1 := by omega
      by_cases hj0 : 0 < j
      · have hj1 : (1 : Int) < (j : Int) + 1 := by omega
        rw [if_pos hj0] at ht2
        have HT2E : Hid (t2 = (t.writes at_ G j).sync) := ht2
        clear ht2
        obtain ⟨⟨aj, cj, pj, qj, hrow, hra, hrp⟩, hrx, hres, hbel, _⟩ := HST.out
        have HRA0 : Hid (Rd .u8 wr aj n (t.writes at_ G j).d ∧ RdP wr pj (t.writes at_ G j).m (t.writes at_ G j).S (t.writes at_ G j).L (t.writes at_ G j).F) := ⟨hra, hrp⟩
        obtain ⟨x0, x1, x2, x3, xf, xl⟩ := hrow.cells
        clear hra hrp hrx hres hbel
        go_wp2_with fail
        refine (specY_st (t.writes at_ G j) aj pj n cj qj wr HRA0.out.1 HRA0.out.2 HOW.out).mono ?_
        rintro e w6 ⟨a6, c6, p6, q6, A6, rfl, ho6, hb6⟩
        rw [← HT2E.out] at ho6
        rw [← HT2E.out]
        have HW : Hid (RecSt w ((((w6.setCell ⟨w.heap.size, 0, none⟩ (.slice a6 n c6)).setCell ⟨w.heap.size, 1, none⟩ (.slice p6 t2.m q6)).setCell ⟨w.heap.size, 2, none⟩ (.int .i64 t2.fuel)).setCell ⟨w.heap.size, 3, none⟩ (.bool t2.dead)) n bs j G t2) := HST.out.next hb6 ho6
        obtain ⟨k0, k1, k2, k3, kf, kl⟩ := (hrow.below hb6).cells
        clear hrow x0 x1 x2 x3 xf xl hb6 ho6 HRA0 HST
        go_wp2
        clear k0 k1 k2 k3 kf kl
        obtain ⟨W, hWW⟩ : ∃ W, W = ((((w6.setCell ⟨w.heap.size, 0, none⟩ (.slice a6 n c6)).setCell ⟨w.heap.size, 1, none⟩ (.slice p6 t2.m q6)).setCell ⟨w.heap.size, 2, none⟩ (.int .i64 t2.fuel)).setCell ⟨w.heap.size, 3, none⟩ (.bool t2.dead)) := ⟨_, rfl⟩
        rw [← hWW] at HW ⊢
        clear hWW
        obtain ⟨⟨ak, ck, pk, qk, hrow, hra, hrp⟩, hrx, hres, hbel, hzw⟩ := HW.out
        obtain ⟨adj, cpj, s1, s2, s3⟩ := hrx.2 j (by omega)
        have HRA : Hid (Rd .u8 W.drew ak n t2.d ∧ RdP W.drew pk t2.m t2.S t2.L t2.F ∧ Rd .u8 W.drew adj 64 (G j)) := ⟨hra, hrp, s2⟩
        obtain ⟨x0, x1, x2, x3, xf, xl⟩ := hrow.cells
        obtain ⟨y0, y1, y2, y3, yf, yl⟩ := hres.cells
        have hnb : ¬ (bs = w.heap.size + 1) := fun e => by
          obtain ⟨ad0, cp0, s0, _⟩ := hrx.2 0 (by omega)
          rw [e, y0] at s0
          simp at s0
        have hnb2 : ¬ (w.heap.size + 1 = bs) := fun e => hnb e.symm
        have hbb : bs < W.heap.size := World.block_lt_of_cell? _ _ s1
        have HC : Hid (∀ w4 : World, Below W.drew.heap.size W.drew w4 → (w4.cell? ⟨w.heap.size, 0, none⟩ = some (.slice ak n ck) ∧ w4.cell? ⟨w.heap.size, 1, none⟩ = some (.slice pk t2.m qk) ∧ w4.cell? ⟨w.heap.size, 2, none⟩ = some (.int .i64 t2.fuel) ∧ w4.cell? ⟨w.heap.size, 3, none⟩ = some (.bool t2.dead) ∧ w4.cell? ⟨bs, j, none⟩ = some (.slice adj 64 cpj)) ∧ DkRow w4 (w.heap.size + 1) (.slice none 0 0) (.slice none 0 0) 0 false ∧ Below w.heap.size w w4 ∧ W.heap.size ≤ w4.heap.size) := by
          intro w4 hb
          exact ⟨⟨(hb.cell (p := ⟨w.heap.size, 0, none⟩) xl).trans x0, (hb.cell (p := ⟨w.heap.size, 1, none⟩) xl).trans x1, (hb.cell (p := ⟨w.heap.size, 2, none⟩) xl).trans x2, (hb.cell (p := ⟨w.heap.size, 3, none⟩) xl).trans x3, (hb.cell (p := ⟨bs, j, none⟩) hbb).trans s1⟩, DkRow.below (w := W.drew) hres hb, hbel.trans (Below.mono ((Below.refl _ _).drew.trans hb) (by show w.heap.size ≤ W.heap.size; omega)), hb.size⟩
        clear hrow hra hrp hrx s2 s3 hres hbel y0 y1 y2 y3 yf HW
        go_region_held3 (fun w' => w'.cell? ⟨w.heap.size, 0, none⟩ = some (.slice ak n ck) ∧ w'.cell? ⟨w.heap.size, 1, none⟩ = some (.slice pk t2.m qk) ∧ w'.cell? ⟨w.heap.size, 2, none⟩ = some (.int .i64 t2.fuel) ∧ w'.cell? ⟨w.heap.size, 3, none⟩ = some (.bool t2.dead) ∧ w'.cell? ⟨bs, j, none⟩ = some (.slice adj 64 cpj)) (go_keep)
          (first
          | (go_at_call 49; refine (specW_st t2 ak pk adj n ck qk cpj (at_ + (j : Int)) (G j) W.drew HRA.out.1 HRA.out.2.1 HRA.out.2.2 HT2.out (by omega) (by omega)).mono ?_; rintro e w7 ⟨a7, c7, p7, q7, A7, rfl, ho7, hb7⟩; obtain ⟨⟨u0, u1, u2, u3, u4⟩, -, -, z7⟩ := HC.out w7 hb7)
          | (go_at_call 50; refine (specY_st (t2.write (at_ + (j : Int)) (G j)) a7 p7 n c7 q7 w7 ho7.data.rd ho7.cache.rd HT3.out).mono ?_; rintro e w9 ⟨a9, c9, p9, q9, A9, rfl, ho9, hb9⟩; obtain ⟨⟨u0, u1, u2, u3, u4⟩, R9, F9, z9⟩ := HC.out w9 (hb7.trans (hb9.mono z7)); obtain ⟨v0, v1, v2, v3, vf, vl⟩ := R9.cells))
        have HX : Hid (OwnD w9 (w.heap.size + 2) a9 n (t.recd at_ G j).d p9 (t.recd at_ G j).m (t.recd at_ G j).S (t.recd at_ G j).L (t.recd at_ G j).F A9 ∧ Below w.heap.size w w9) := ⟨by rw [HREC.out]; exact ho9.mono (by omega), F9⟩
        have hne1 : ¬ (w.heap.size + 1 = w.heap.size) := by omega
        clear ho9 ho7 hb9 hb7 R9 F9 u0 u1 u2 u3 u4 x0 x1 x2 x3 xf s1 HC HRA
        rw [← HREC.out]
        go_wp2
        refine bodyPost_ret (v := .agg #[.slice a9 n c9, .slice p9 (t.recd at_ G j).m q9, .int .i64 (t.recd at_ G j).fuel, .bool (t.recd at_ G j).dead]) (by simp [results, Try.results23, go_sem, v0, v1, v2, v3]) rfl ⟨a9, c9, p9, q9, A9, rfl, ?_, ?_⟩
        · exact ((((HX.out.1.setOther (by simp) _).setOther (by simp) _).setOther (by simp) _).setOther (by simp) _).mono (by omega)
        · exact (((HX.out.2.setCell (by simp; try omega) _).setCell (by simp; try omega) _).setCell (by simp; try omega) _).setCell (by simp; try omega) _
      · have hj1 : ¬ (1 : Int) < (j : Int) + 1 := by omega
        have hj2 : decide ((1 : Int) < (j : Int) + 1) = false := decide_eq_false hj1
        rw [if_neg hj0] at ht2
        have HW : Hid (RecSt w wr n bs j G t2) := by rw [ht2]; exact HST.out
        clear ht2 HST
        go_wp2
        obtain ⟨⟨ak, ck, pk, qk, hrow, hra, hrp⟩, hrx, hres, hbel, hzw⟩ := HW.out
        obtain ⟨adj, cpj, s1, s2, s3⟩ := hrx.2 j (by omega)
        have HRA : Hid (Rd .u8 wr.drew ak n t2.d ∧ RdP wr.drew pk t2.m t2.S t2.L t2.F ∧ Rd .u8 wr.drew adj 64 (G j)) := ⟨hra, hrp, s2⟩
        obtain ⟨x0, x1, x2, x3, xf, xl⟩ := hrow.cells
        obtain ⟨y0, y1, y2, y3, yf, yl⟩ := hres.cells
        have hnb : ¬ (bs = w.heap.size + 1) := fun e => by
          obtain ⟨ad0, cp0, s0, _⟩ := hrx.2 0 (by omega)
          rw [e, y0] at s0
          simp at s0
        have hnb2 : ¬ (w.heap.size + 1 = bs) := fun e => hnb e.symm
        have hbb : bs < wr.heap.size := World.block_lt_of_cell? _ _ s1
        have HC : Hid (∀ w4 : World, Below wr.drew.heap.size wr.drew w4 → (w4.cell? ⟨w.heap.size, 0, none⟩ = some (.slice ak n ck) ∧ w4.cell? ⟨w.heap.size, 1, none⟩ = some (.slice pk t2.m qk) ∧ w4.cell? ⟨w.heap.size, 2, none⟩ = some (.int .i64 t2.fuel) ∧ w4.cell? ⟨w.heap.size, 3, none⟩ = some (.bool t2.dead) ∧ w4.cell? ⟨bs, j, none⟩ = some (.slice adj 64 cpj)) ∧ DkRow w4 (w.heap.size + 1) (.slice none 0 0) (.slice none 0 0) 0 false ∧ Below w.heap.size w w4 ∧ wr.heap.size ≤ w4.heap.size) := by
          intro w4 hb
          exact ⟨⟨(hb.cell (p := ⟨w.heap.size, 0, none⟩) xl).trans x0, (hb.cell (p := ⟨w.heap.size, 1, none⟩) xl).trans x1, (hb.cell (p := ⟨w.heap.size, 2, none⟩) xl).trans x2, (hb.cell (p := ⟨w.heap.size, 3, none⟩) xl).trans x3, (hb.cell (p := ⟨bs, j, none⟩) hbb).trans s1⟩, DkRow.below (w := wr.drew) hres hb, hbel.trans (Below.mono ((Below.refl _ _).drew.trans hb) (by show w.heap.size ≤ wr.heap.size; omega)), hb.size⟩
        clear hrow hra hrp hrx s2 s3 hres hbel y0 y1 y2 y3 yf HW
        go_region_held3 (fun w' => w'.cell? ⟨w.heap.size, 0, none⟩ = some (.slice ak n ck) ∧ w'.cell? ⟨w.heap.size, 1, none⟩ = some (.slice pk t2.m qk) ∧ w'.cell? ⟨w.heap.size, 2, none⟩ = some (.int .i64 t2.fuel) ∧ w'.cell? ⟨w.heap.size, 3, none⟩ = some (.bool t2.dead) ∧ w'.cell? ⟨bs, j, none⟩ = some (.slice adj 64 cpj)) (go_keep)
          (first
          | (go_at_call 49; refine (specW_st t2 ak pk adj n ck qk cpj (at_ + (j : Int)) (G j) wr.drew HRA.out.1 HRA.out.2.1 HRA.out.2.2 HT2.out (by omega) (by omega)).mono ?_; rintro e w7 ⟨a7, c7, p7, q7, A7, rfl, ho7, hb7⟩; obtain ⟨⟨u0, u1, u2, u3, u4⟩, -, -, z7⟩ := HC.out w7 hb7)
          | (go_at_call 50; refine (specY_st (t2.write (at_ + (j : Int)) (G j)) a7 p7 n c7 q7 w7 ho7.data.rd ho7.cache.rd HT3.out).mono ?_; rintro e w9 ⟨a9, c9, p9, q9, A9, rfl, ho9, hb9⟩; obtain ⟨⟨u0, u1, u2, u3, u4⟩, R9, F9, z9⟩ := HC.out w9 (hb7.trans (hb9.mono z7)); obtain ⟨v0, v1, v2, v3, vf, vl⟩ := R9.cells))
        have HX : Hid (OwnD w9 (w.heap.size + 2) a9 n (t.recd at_ G j).d p9 (t.recd at_ G j).m (t.recd at_ G j).S (t.recd at_ G j).L (t.recd at_ G j).F A9 ∧ Below w.heap.size w w9) := ⟨by rw [HREC.out]; exact ho9.mono (by omega), F9⟩
        have hne1 : ¬ (w.heap.size + 1 = w.heap.size) := by omega
        clear ho9 ho7 hb9 hb7 R9 F9 u0 u1 u2 u3 u4 x0 x1 x2 x3 xf s1 HC HRA
        rw [← HREC.out]
        go_wp2
        refine bodyPost_ret (v := .agg #[.slice a9 n c9, .slice p9 (t.recd at_ G j).m q9, .int .i64 (t.recd at_ G j).fuel, .bool (t.recd at_ G j).dead]) (by simp [results, Try.results23, go_sem, v0, v1, v2, v3]) rfl ⟨a9, c9, p9, q9, A9, rfl, ?_, ?_⟩
        · exact ((((HX.out.1.setOther (by simp) _).setOther (by simp) _).setOther (by simp) _).setOther (by simp) _).mono (by omega)
        · exact (((HX.out.2.setCell (by simp; try omega) _).setCell (by simp; try omega) _).setCell (by simp; try omega) _).setCell (by simp; try omega) _
end Go.Proofs.Ytbpcafcipncloaa

namespace Go.Proofs.Ytbpcafcipncloaa
open Go.RowKit Go.Deep
set_option linter.unusedVariables false
set_option maxRecDepth 100000

theorem Stt.ok.recd {n : Nat} {t : Stt} (h : t.ok n) {at_ : Int} {G : Nat → Nat → Int} (last : Nat) (h0 : 0 ≤ at_) (h1 : at_ + last + 1 ≤ (n : Int) / 64) : (t.recd at_ G last).ok n := by
  have h2 := Stt.ok.writes (G := G) h last h0 (by omega)
  have h3 : (if 0 < last then (t.writes at_ G last).sync else t.writes at_ G last).ok n := by
    split
    · exact h2.sync
    · exact h2
  exact (h3.write _ (by omega) (by omega)).sync

theorem wrLaw (v : Value) (s sq : Int) (u : Value) (w : World) (hv : IsDisk w v) (_ : (Lit.int .i64 s).wf = true) (_ : (Lit.int .i64 sq).wf = true) (hu : IsBytesR w u) :
    Calls Try.prog 6 #[v, .int .i64 s, .int .i64 sq, u] w fun e w' => e = .returned (.bool true) ∧ Below w.heap.size w w' := by
  obtain ⟨ka, nk, kc, K, rfl, hk, hkb, hkm⟩ := hu
  by_cases hbig : 1048576 < nk
  · exact wrLaw_big v s sq ka nk kc w hbig hkm hv
  · obtain ⟨a, n, c, d, p, m, q, S, L, F, fuel, dead, rfl, ha, _, hn, hp, hpb, hm, _⟩ := hv
    have hnk : nk ≤ 1048576 := by omega
    have hL0 : ∀ i, i < m → L i ≤ maxLen := fun i hi => (hpb i hi).2.2
    by_cases h3 : 30000 < nk
    · exact wrLaw0 a p ka n c m q nk kc d S L F K s sq fuel dead w ha hp hk hn hm hL0 hnk n m d S L F fuel dead
        (fun hn1 hm1 hL1 => ⟨hn1, hm1, hL1, fun W a' p' k' hr hrp hrk => specRec_big a' p' k' n n m m nk nk d S L F fuel dead s sq W hr hrp hn1 hm1 hL1 h3 hnk⟩)
        (fun hn1 hm1 hL1 W a' p' k' hr hrp hrk => implRec_big a' p' k' n n m m nk nk d S L F fuel dead s sq W hr hrp hn1 hm1 hL1 h3 hnk)
    · by_cases hg : VD n m S L fuel ∧ numB sq = true ∧ 2 ≤ s ∧ s ≤ (n : Int) / 64 - cntOf nk
      · obtain ⟨hV, hq, s0, s1⟩ := hg
        obtain ⟨last, hl⟩ : ∃ last, cntOf nk = last + 1 := ⟨cntOf nk - 1, by have := cntOf_pos nk; omega⟩
        have hok : Stt.ok n ⟨d, m, S, L, F, fuel, dead⟩ := hV
        have hr := hok.recd (G := secW nk sq K) last (at_ := s) (by omega) (by omega)
        obtain ⟨_, hm2, hL2⟩ := stt_vd_lens (show VD n _ _ _ _ from hr)
        exact wrLaw0 a p ka n c m q nk kc d S L F K s sq fuel dead w ha hp hk hn hm hL0 hnk n _ _ _ _ _ _ _
          (fun hn1 hm1 hL1 => ⟨hn1, hm2, hL2, fun W a' p' k' hr hrp hrk => specRec_good ⟨d, m, S, L, F, fuel, dead⟩ a' p' k' n n m nk nk last K s sq W hr hrp hrk hkb hok (by omega) (Nat.le_refl _) (by omega) hl hq s0 s1⟩)
          (fun hn1 hm1 hL1 W a' p' k' hr hrp hrk => implRec_good ⟨d, m, S, L, F, fuel, dead⟩ a' p' k' n n m nk nk last K s sq W hr hrp hrk hkb hok (by omega) (Nat.le_refl _) (by omega) hl hq s0 s1)
      · exact wrLaw0 a p ka n c m q nk kc d S L F K s sq fuel dead w ha hp hk hn hm hL0 hnk n m d S L F fuel dead
          (fun hn1 hm1 hL1 => ⟨hn1, hm1, hL1, fun W a' p' k' hr hrp hrk => specRec_bad a' p' k' n n m m nk nk d S L F fuel dead s sq W hr hrp hn1 hm1 hL1 (by omega) hg⟩)
          (fun hn1 hm1 hL1 W a' p' k' hr hrp hrk => implRec_bad a' p' k' n n m m nk nk d S L F fuel dead s sq W hr hrp hn1 hm1 hL1 (by omega) hg)
end Go.Proofs.Ytbpcafcipncloaa
