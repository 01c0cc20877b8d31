import Derived.Test.YtlcamfkgkcjehaaNr23
import Derived.Test.YtlcamfkgkcjehaaNr11
import Derived.Test.YtlcamfkgkcjehaaNr15
import Derived.Test.YtlcamfkgkcjehaaNr21
import Derived.Test.YtlcamfkgkcjehaaNr3
namespace Go.Proofs.Ytlcamfkgkcjehaa
open Go.RowKit Go.Deep
set_option linter.unusedVariables false
set_option maxRecDepth 100000

set_option maxHeartbeats 400000 in
theorem specRecS_big (x : Int) (h : 30000 < x) (w : World) : Calls Try.prog 16 #[.int .i64 x] w fun e w' => e = .returned (.int .i64 0) ∧ w' = w := by
  have x0 : ¬ x < 0 := by omega
  go_enter Try.func16, Try.ntmps16
  go_wp2
  go_ret
  exact ⟨rfl, rfl⟩

set_option maxHeartbeats 2000000 in
theorem specRec_big (a p ad : Option Addr) (n c m q N cp : Nat) (d S : Nat → Int) (L : Nat → Nat) (F : Nat → Nat → Int) (fuel : Int) (dead : Bool) (at_ seq : Int) (w : World) (ha : Rd .u8 w a n d) (hp : RdP w p m S L F) (hn : n ≤ 1048576) (hm : m ≤ 1048576) (hL : ∀ i, i < m → L i ≤ 1048576) (hN : 30000 < N) (hN2 : N ≤ 1048576) :
    Calls Try.prog 17 #[.agg #[.slice a n c, .slice p m q, .int .i64 fuel, .bool dead], .int .i64 at_, .int .i64 seq, .slice ad N cp] w fun e w' => RetD w e w' n d m S L F fuel dead := by
  have HA : Hid (Rd .u8 w a n d) := ha
  have HP : Hid (RdP w p m S L F) := hp
  have HLL : Hid (∀ i, i < m → L i ≤ 1048576) := hL
  have HFIN : Hid (∀ W : World, Below (w.heap.size + 2) ((w.alloc (.cells #[.slice a n c, .slice p m q, .int .i64 fuel, .bool dead] 25)).alloc (.cells #[.slice none 0 0, .slice none 0 0, .int .i64 0, .bool false] 25)) W → Below w.heap.size w W) := fun W h => (below_alloc2' _ _ _).trans (h.mono (by omega))
  have HE : Hid (∀ o1 o2, ((w.alloc o1).alloc o2).heap.size = w.heap.size + 2) := fun _ _ => by simp
  have e0 : IntKind.i64.wrap (N : Int) = (N : Int) := by rw [IntKind.wrap_i64]; omega
  clear ha hp hL
  go_enter Try.func17, Try.ntmps17
  go_wp2_with fail
  refine (specRecS_big _ (by omega) _).mono ?_
  rintro e w0 ⟨rfl, rfl⟩
  go_wp2_with fail
  refine (specValid_any a p n c m q S L F fuel dead _ (HP.out.below (below_alloc2' _ _ _)) hn hm).mono ?_
  rintro e w1 ⟨⟨b1, rfl, hv1⟩, hb1⟩
  rw [HE.out] at hb1
  have K1 : Hid (Below (w.heap.size + 2) ((w.alloc (.cells #[.slice a n c, .slice p m q, .int .i64 fuel, .bool dead] 25)).alloc (.cells #[.slice none 0 0, .slice none 0 0, .int .i64 0, .bool false] 25)) w1) := hb1
  have z1 : w.heap.size + 2 ≤ w1.heap.size := by have := hb1.size; rw [HE.out] at this; exact this
  have hc1 : ∀ b o, b < w.heap.size + 2 → w1.cell? ⟨b, o, none⟩ = _ := fun b o hb => K1.out.cell (p := ⟨b, o, none⟩) hb
  clear hb1
  cases b1 with
  | false =>
    clear hv1
    go_wp2_with fail
    refine (l1Copy_any a p n c m q d S L F fuel dead w1 (HA.out.below (HFIN.out _ K1.out)) (HP.out.below (HFIN.out _ K1.out)) hn hm HLL.out).mono ?_
    rintro e w9 ⟨a9, c9, p9, q9, A9, rfl, ho9, hb9⟩
    have z9 : w.heap.size + 2 ≤ w1.heap.size := by have := K1.out.size; rw [HE.out] at this; exact this
    have K9 : Below (w.heap.size + 2) ((w.alloc (.cells #[.slice a n c, .slice p m q, .int .i64 fuel, .bool dead] 25)).alloc (.cells #[.slice none 0 0, .slice none 0 0, .int .i64 0, .bool false] 25)) w9 := K1.out.trans (hb9.mono z9)
    have hc9 : ∀ b o, b < w.heap.size + 2 → w9.cell? ⟨b, o, none⟩ = _ := fun b o hb => K9.cell (p := ⟨b, o, none⟩) hb
    have hf9 : ∀ b o, b < w.heap.size + 2 → w9.frozen? ⟨b, o, none⟩ = _ := fun b o hb => K9.frozen (p := ⟨b, o, none⟩) hb
    have hz9 : w.heap.size + 1 < w9.heap.size := by have := hb9.size; omega
    have HX : Hid (OwnD w9 (w.heap.size + 2) a9 n d p9 m S L F A9 ∧ Below w.heap.size w w9) := ⟨ho9.mono z9, HFIN.out _ K9⟩
    clear ho9 hb9 K9
    (try clear hc1)
    (try clear hc3)
    (try clear hc4)
    go_wp2
    refine bodyPost_ret (v := .agg #[.slice a9 n c9, .slice p9 m q9, .int .i64 fuel, .bool dead]) (by simp [results, Try.results17, go_sem, hc9]) rfl ⟨a9, c9, p9, q9, A9, rfl, ?_, ?_⟩
    · exact ((((HX.out.1.setOther (by simp) _).setOther (by simp) _).setOther (by simp) _).setOther (by simp) _).mono (by omega)
    · exact (((HX.out.2.setCell (by simp; try omega) _).setCell (by simp; try omega) _).setCell (by simp; try omega) _).setCell (by simp; try omega) _
  | true =>
    clear hv1
    go_wp2_with fail
    refine (l2Number_any seq w1).mono ?_
    rintro e w2 ⟨he, hw2⟩
    subst hw2
    cases hnum : numB seq with
    | false =>
      rw [hnum] at he
      subst he
      go_wp2_with fail
      refine (l1Copy_any a p n c m q d S L F fuel dead w2 (HA.out.below (HFIN.out _ K1.out)) (HP.out.below (HFIN.out _ K1.out)) hn hm HLL.out).mono ?_
      rintro e w9 ⟨a9, c9, p9, q9, A9, rfl, ho9, hb9⟩
      have z9 : w.heap.size + 2 ≤ w2.heap.size := by have := K1.out.size; rw [HE.out] at this; exact this
      have K9 : Below (w.heap.size + 2) ((w.alloc (.cells #[.slice a n c, .slice p m q, .int .i64 fuel, .bool dead] 25)).alloc (.cells #[.slice none 0 0, .slice none 0 0, .int .i64 0, .bool false] 25)) w9 := K1.out.trans (hb9.mono z9)
      have hc9 : ∀ b o, b < w.heap.size + 2 → w9.cell? ⟨b, o, none⟩ = _ := fun b o hb => K9.cell (p := ⟨b, o, none⟩) hb
      have hf9 : ∀ b o, b < w.heap.size + 2 → w9.frozen? ⟨b, o, none⟩ = _ := fun b o hb => K9.frozen (p := ⟨b, o, none⟩) hb
      have hz9 : w.heap.size + 1 < w9.heap.size := by have := hb9.size; omega
      have HX : Hid (OwnD w9 (w.heap.size + 2) a9 n d p9 m S L F A9 ∧ Below w.heap.size w w9) := ⟨ho9.mono z9, HFIN.out _ K9⟩
      clear ho9 hb9 K9
      (try clear hc1)
      (try clear hc3)
      (try clear hc4)
      go_wp2
      refine bodyPost_ret (v := .agg #[.slice a9 n c9, .slice p9 m q9, .int .i64 fuel, .bool dead]) (by simp [results, Try.results17, go_sem, hc9]) rfl ⟨a9, c9, p9, q9, A9, rfl, ?_, ?_⟩
      · exact ((((HX.out.1.setOther (by simp) _).setOther (by simp) _).setOther (by simp) _).setOther (by simp) _).mono (by omega)
      · exact (((HX.out.2.setCell (by simp; try omega) _).setCell (by simp; try omega) _).setCell (by simp; try omega) _).setCell (by simp; try omega) _
    | true =>
      rw [hnum] at he
      subst he
      go_wp2_with fail
      refine (l1Copy_any a p n c m q d S L F fuel dead w2 (HA.out.below (HFIN.out _ K1.out)) (HP.out.below (HFIN.out _ K1.out)) hn hm HLL.out).mono ?_
      rintro e w9 ⟨a9, c9, p9, q9, A9, rfl, ho9, hb9⟩
      have z9 : w.heap.size + 2 ≤ w2.heap.size := by have := K1.out.size; rw [HE.out] at this; exact this
      have K9 : Below (w.heap.size + 2) ((w.alloc (.cells #[.slice a n c, .slice p m q, .int .i64 fuel, .bool dead] 25)).alloc (.cells #[.slice none 0 0, .slice none 0 0, .int .i64 0, .bool false] 25)) w9 := K1.out.trans (hb9.mono z9)
      have hc9 : ∀ b o, b < w.heap.size + 2 → w9.cell? ⟨b, o, none⟩ = _ := fun b o hb => K9.cell (p := ⟨b, o, none⟩) hb
      have hf9 : ∀ b o, b < w.heap.size + 2 → w9.frozen? ⟨b, o, none⟩ = _ := fun b o hb => K9.frozen (p := ⟨b, o, none⟩) hb
      have hz9 : w.heap.size + 1 < w9.heap.size := by have := hb9.size; omega
      have HX : Hid (OwnD w9 (w.heap.size + 2) a9 n d p9 m S L F A9 ∧ Below w.heap.size w w9) := ⟨ho9.mono z9, HFIN.out _ K9⟩
      clear ho9 hb9 K9
      (try clear hc1)
      (try clear hc3)
      (try clear hc4)
      go_wp2
      refine bodyPost_ret (v := .agg #[.slice a9 n c9, .slice p9 m q9, .int .i64 fuel, .bool dead]) (by simp [results, Try.results17, go_sem, hc9]) rfl ⟨a9, c9, p9, q9, A9, rfl, ?_, ?_⟩
      · exact ((((HX.out.1.setOther (by simp) _).setOther (by simp) _).setOther (by simp) _).setOther (by simp) _).mono (by omega)
      · exact (((HX.out.2.setCell (by simp; try omega) _).setCell (by simp; try omega) _).setCell (by simp; try omega) _).setCell (by simp; try omega) _

set_option maxHeartbeats 2000000 in
theorem specRec_bad (a p ad : Option Addr) (n c m q N cp : Nat) (d S : Nat → Int) (L : Nat → Nat) (F : Nat → Nat → Int) (fuel : Int) (dead : Bool) (at_ seq : Int) (w : World) (ha : Rd .u8 w a n d) (hp : RdP w p m S L F) (hn : n ≤ 1048576) (hm : m ≤ 1048576) (hL : ∀ i, i < m → L i ≤ 1048576) (hN : N ≤ 30000) (hbad : ¬ (VD n m S L fuel ∧ numB seq = true ∧ 2 ≤ at_ ∧ at_ ≤ (n : Int) / 64 - cntOf N)) :
    Calls Try.prog 17 #[.agg #[.slice a n c, .slice p m q, .int .i64 fuel, .bool dead], .int .i64 at_, .int .i64 seq, .slice ad N cp] w fun e w' => RetD w e w' n d m S L F fuel dead := by
  obtain ⟨K, hK⟩ : ∃ K, K = cntOf N := ⟨_, rfl⟩
  rw [← hK] at hbad
  have HK : Hid (cntOf N = K) := hK.symm
  have hk1 : 1 ≤ K := by rw [hK]; exact cntOf_pos N
  have hk2 : K ≤ 625 := by rw [hK]; exact cntOf_le hN
  clear hK
  have HBAD : Hid (¬ (VD n m S L fuel ∧ numB seq = true ∧ 2 ≤ at_ ∧ at_ ≤ (n : Int) / 64 - K)) := hbad
  have hk3 : ¬ (K : Int) = 0 := by omega
  have hk4 : ((K : Int) == 0) = false := by simp; omega
  have e0 : IntKind.i64.wrap (N : Int) = (N : Int) := by rw [IntKind.wrap_i64]; omega
  have HA : Hid (Rd .u8 w a n d) := ha
  have HP : Hid (RdP w p m S L F) := hp
  have HLL : Hid (∀ i, i < m → L i ≤ 1048576) := hL
  have HFIN : Hid (∀ W : World, Below (w.heap.size + 2) ((w.alloc (.cells #[.slice a n c, .slice p m q, .int .i64 fuel, .bool dead] 25)).alloc (.cells #[.slice none 0 0, .slice none 0 0, .int .i64 0, .bool false] 25)) W → Below w.heap.size w W) := fun W h => (below_alloc2' _ _ _).trans (h.mono (by omega))
  have HE : Hid (∀ o1 o2, ((w.alloc o1).alloc o2).heap.size = w.heap.size + 2) := fun _ _ => by simp
  clear ha hp hL hbad
  go_enter Try.func17, Try.ntmps17
  go_wp2_with fail
  refine (specRecS N hN _).mono ?_
  rintro e w0 ⟨rfl, rfl⟩
  rw [HK.out]
  go_wp2_with fail
  refine (specValid_any a p n c m q S L F fuel dead _ (HP.out.below (below_alloc2' _ _ _)) hn hm).mono ?_
  rintro e w1 ⟨⟨b1, rfl, hv1⟩, hb1⟩
  rw [HE.out] at hb1
  have K1 : Hid (Below (w.heap.size + 2) ((w.alloc (.cells #[.slice a n c, .slice p m q, .int .i64 fuel, .bool dead] 25)).alloc (.cells #[.slice none 0 0, .slice none 0 0, .int .i64 0, .bool false] 25)) w1) := hb1
  have z1 : w.heap.size + 2 ≤ w1.heap.size := by have := hb1.size; rw [HE.out] at this; exact this
  have hc1 : ∀ b o, b < w.heap.size + 2 → w1.cell? ⟨b, o, none⟩ = _ := fun b o hb => K1.out.cell (p := ⟨b, o, none⟩) hb
  clear hb1
  cases b1 with
  | false =>
    clear hv1
    go_wp2_with fail
    refine (l1Copy_any a p n c m q d S L F fuel dead w1 (HA.out.below (HFIN.out _ K1.out)) (HP.out.below (HFIN.out _ K1.out)) hn hm HLL.out).mono ?_
    rintro e w9 ⟨a9, c9, p9, q9, A9, rfl, ho9, hb9⟩
    have z9 : w.heap.size + 2 ≤ w1.heap.size := by have := K1.out.size; rw [HE.out] at this; exact this
    have K9 : Below (w.heap.size + 2) ((w.alloc (.cells #[.slice a n c, .slice p m q, .int .i64 fuel, .bool dead] 25)).alloc (.cells #[.slice none 0 0, .slice none 0 0, .int .i64 0, .bool false] 25)) w9 := K1.out.trans (hb9.mono z9)
    have hc9 : ∀ b o, b < w.heap.size + 2 → w9.cell? ⟨b, o, none⟩ = _ := fun b o hb => K9.cell (p := ⟨b, o, none⟩) hb
    have hf9 : ∀ b o, b < w.heap.size + 2 → w9.frozen? ⟨b, o, none⟩ = _ := fun b o hb => K9.frozen (p := ⟨b, o, none⟩) hb
    have hz9 : w.heap.size + 1 < w9.heap.size := by have := hb9.size; omega
    have HX : Hid (OwnD w9 (w.heap.size + 2) a9 n d p9 m S L F A9 ∧ Below w.heap.size w w9) := ⟨ho9.mono z9, HFIN.out _ K9⟩
    clear ho9 hb9 K9
    (try clear hc1)
    (try clear hc3)
    (try clear hc4)
    go_wp2
    refine bodyPost_ret (v := .agg #[.slice a9 n c9, .slice p9 m q9, .int .i64 fuel, .bool dead]) (by simp [results, Try.results17, go_sem, hc9]) rfl ⟨a9, c9, p9, q9, A9, rfl, ?_, ?_⟩
    · exact ((((HX.out.1.setOther (by simp) _).setOther (by simp) _).setOther (by simp) _).setOther (by simp) _).mono (by omega)
    · exact (((HX.out.2.setCell (by simp; try omega) _).setCell (by simp; try omega) _).setCell (by simp; try omega) _).setCell (by simp; try omega) _
  | true =>
    have HV : Hid (VD n m S L fuel) := hv1.1 rfl
    clear hv1
    go_wp2_with fail
    refine (l2Number_any seq w1).mono ?_
    rintro e w2 ⟨he, hw2⟩
    subst hw2
    cases hnum : numB seq with
    | false =>
      rw [hnum] at he
      subst he
      go_wp2_with fail
      refine (l1Copy_any a p n c m q d S L F fuel dead w2 (HA.out.below (HFIN.out _ K1.out)) (HP.out.below (HFIN.out _ K1.out)) hn hm HLL.out).mono ?_
      rintro e w9 ⟨a9, c9, p9, q9, A9, rfl, ho9, hb9⟩
      have z9 : w.heap.size + 2 ≤ w2.heap.size := by have := K1.out.size; rw [HE.out] at this; exact this
      have K9 : Below (w.heap.size + 2) ((w.alloc (.cells #[.slice a n c, .slice p m q, .int .i64 fuel, .bool dead] 25)).alloc (.cells #[.slice none 0 0, .slice none 0 0, .int .i64 0, .bool false] 25)) w9 := K1.out.trans (hb9.mono z9)
      have hc9 : ∀ b o, b < w.heap.size + 2 → w9.cell? ⟨b, o, none⟩ = _ := fun b o hb => K9.cell (p := ⟨b, o, none⟩) hb
      have hf9 : ∀ b o, b < w.heap.size + 2 → w9.frozen? ⟨b, o, none⟩ = _ := fun b o hb => K9.frozen (p := ⟨b, o, none⟩) hb
      have hz9 : w.heap.size + 1 < w9.heap.size := by have := hb9.size; omega
      have HX : Hid (OwnD w9 (w.heap.size + 2) a9 n d p9 m S L F A9 ∧ Below w.heap.size w w9) := ⟨ho9.mono z9, HFIN.out _ K9⟩
      clear ho9 hb9 K9
      (try clear hc1)
      (try clear hc3)
      (try clear hc4)
      go_wp2
      refine bodyPost_ret (v := .agg #[.slice a9 n c9, .slice p9 m q9, .int .i64 fuel, .bool dead]) (by simp [results, Try.results17, go_sem, hc9]) rfl ⟨a9, c9, p9, q9, A9, rfl, ?_, ?_⟩
      · exact ((((HX.out.1.setOther (by simp) _).setOther (by simp) _).setOther (by simp) _).setOther (by simp) _).mono (by omega)
      · exact (((HX.out.2.setCell (by simp; try omega) _).setCell (by simp; try omega) _).setCell (by simp; try omega) _).setCell (by simp; try omega) _
    | true =>
      rw [hnum] at he
      subst he
      have HNM : Hid (numB seq = true) := hnum
      clear hnum
      by_cases c1 : at_ < 2
      · go_wp2_with fail
        refine (l1Copy_any a p n c m q d S L F fuel dead w2 (HA.out.below (HFIN.out _ K1.out)) (HP.out.below (HFIN.out _ K1.out)) hn hm HLL.out).mono ?_
        rintro e w9 ⟨a9, c9, p9, q9, A9, rfl, ho9, hb9⟩
        have z9 : w.heap.size + 2 ≤ w2.heap.size := by have := K1.out.size; rw [HE.out] at this; exact this
        have K9 : Below (w.heap.size + 2) ((w.alloc (.cells #[.slice a n c, .slice p m q, .int .i64 fuel, .bool dead] 25)).alloc (.cells #[.slice none 0 0, .slice none 0 0, .int .i64 0, .bool false] 25)) w9 := K1.out.trans (hb9.mono z9)
        have hc9 : ∀ b o, b < w.heap.size + 2 → w9.cell? ⟨b, o, none⟩ = _ := fun b o hb => K9.cell (p := ⟨b, o, none⟩) hb
        have hf9 : ∀ b o, b < w.heap.size + 2 → w9.frozen? ⟨b, o, none⟩ = _ := fun b o hb => K9.frozen (p := ⟨b, o, none⟩) hb
        have hz9 : w.heap.size + 1 < w9.heap.size := by have := hb9.size; omega
        have HX : Hid (OwnD w9 (w.heap.size + 2) a9 n d p9 m S L F A9 ∧ Below w.heap.size w w9) := ⟨ho9.mono z9, HFIN.out _ K9⟩
        clear ho9 hb9 K9
        (try clear hc1)
        (try clear hc3)
        (try clear hc4)
        go_wp2
        refine bodyPost_ret (v := .agg #[.slice a9 n c9, .slice p9 m q9, .int .i64 fuel, .bool dead]) (by simp [results, Try.results17, go_sem, hc9]) rfl ⟨a9, c9, p9, q9, A9, rfl, ?_, ?_⟩
        · exact ((((HX.out.1.setOther (by simp) _).setOther (by simp) _).setOther (by simp) _).setOther (by simp) _).mono (by omega)
        · exact (((HX.out.2.setCell (by simp; try omega) _).setCell (by simp; try omega) _).setCell (by simp; try omega) _).setCell (by simp; try omega) _
      · have c1' : decide (at_ < 2) = false := decide_eq_false c1
        go_wp2_with fail
        refine (l1Sectors_any a p n c m q fuel dead w2 hn).mono ?_
        rintro e w3 ⟨rfl, hb3⟩
        have K3 : Hid (Below (w.heap.size + 2) ((w.alloc (.cells #[.slice a n c, .slice p m q, .int .i64 fuel, .bool dead] 25)).alloc (.cells #[.slice none 0 0, .slice none 0 0, .int .i64 0, .bool false] 25)) w3) := K1.out.trans (hb3.mono z1)
        have z3 := hb3.size
        have hc3 : ∀ b o, b < w.heap.size + 2 → w3.cell? ⟨b, o, none⟩ = _ := fun b o hb => K3.out.cell (p := ⟨b, o, none⟩) hb
        clear hb3 hc1
        by_cases c2 : (n : Int) / 64 < at_
        · go_wp2_with fail
          refine (l1Copy_any a p n c m q d S L F fuel dead w3 (HA.out.below (HFIN.out _ K3.out)) (HP.out.below (HFIN.out _ K3.out)) hn hm HLL.out).mono ?_
          rintro e w9 ⟨a9, c9, p9, q9, A9, rfl, ho9, hb9⟩
          have z9 : w.heap.size + 2 ≤ w3.heap.size := by have := K3.out.size; rw [HE.out] at this; exact this
          have K9 : Below (w.heap.size + 2) ((w.alloc (.cells #[.slice a n c, .slice p m q, .int .i64 fuel, .bool dead] 25)).alloc (.cells #[.slice none 0 0, .slice none 0 0, .int .i64 0, .bool false] 25)) w9 := K3.out.trans (hb9.mono z9)
          have hc9 : ∀ b o, b < w.heap.size + 2 → w9.cell? ⟨b, o, none⟩ = _ := fun b o hb => K9.cell (p := ⟨b, o, none⟩) hb
          have hf9 : ∀ b o, b < w.heap.size + 2 → w9.frozen? ⟨b, o, none⟩ = _ := fun b o hb => K9.frozen (p := ⟨b, o, none⟩) hb
          have hz9 : w.heap.size + 1 < w9.heap.size := by have := hb9.size; omega
          have HX : Hid (OwnD w9 (w.heap.size + 2) a9 n d p9 m S L F A9 ∧ Below w.heap.size w w9) := ⟨ho9.mono z9, HFIN.out _ K9⟩
          clear ho9 hb9 K9
          (try clear hc1)
          (try clear hc3)
          (try clear hc4)
          go_wp2
          refine bodyPost_ret (v := .agg #[.slice a9 n c9, .slice p9 m q9, .int .i64 fuel, .bool dead]) (by simp [results, Try.results17, go_sem, hc9]) rfl ⟨a9, c9, p9, q9, A9, rfl, ?_, ?_⟩
          · exact ((((HX.out.1.setOther (by simp) _).setOther (by simp) _).setOther (by simp) _).setOther (by simp) _).mono (by omega)
          · exact (((HX.out.2.setCell (by simp; try omega) _).setCell (by simp; try omega) _).setCell (by simp; try omega) _).setCell (by simp; try omega) _
        · have c2' : decide ((n : Int) / 64 < at_) = false := decide_eq_false c2
          have e2 : IntKind.i64.wrap (at_ + (K : Int)) = at_ + (K : Int) := by rw [IntKind.wrap_i64]; omega
          have c3 : (n : Int) / 64 < at_ + (K : Int) := by
            apply Classical.byContradiction
            intro hh
            exact HBAD.out ⟨HV.out, HNM.out, by omega, by omega⟩
          go_wp2_with fail
          refine (l1Sectors_any a p n c m q fuel dead w3 hn).mono ?_
          rintro e w4 ⟨rfl, hb4⟩
          have K4 : Hid (Below (w.heap.size + 2) ((w.alloc (.cells #[.slice a n c, .slice p m q, .int .i64 fuel, .bool dead] 25)).alloc (.cells #[.slice none 0 0, .slice none 0 0, .int .i64 0, .bool false] 25)) w4) := K3.out.trans (hb4.mono (by omega))
          have hc4 : ∀ b o, b < w.heap.size + 2 → w4.cell? ⟨b, o, none⟩ = _ := fun b o hb => K4.out.cell (p := ⟨b, o, none⟩) hb
          clear hb4 hc3
          go_wp2_with fail
          refine (l1Copy_any a p n c m q d S L F fuel dead w4 (HA.out.below (HFIN.out _ K4.out)) (HP.out.below (HFIN.out _ K4.out)) hn hm HLL.out).mono ?_
          rintro e w9 ⟨a9, c9, p9, q9, A9, rfl, ho9, hb9⟩
          have z9 : w.heap.size + 2 ≤ w4.heap.size := by have := K4.out.size; rw [HE.out] at this; exact this
          have K9 : Below (w.heap.size + 2) ((w.alloc (.cells #[.slice a n c, .slice p m q, .int .i64 fuel, .bool dead] 25)).alloc (.cells #[.slice none 0 0, .slice none 0 0, .int .i64 0, .bool false] 25)) w9 := K4.out.trans (hb9.mono z9)
          have hc9 : ∀ b o, b < w.heap.size + 2 → w9.cell? ⟨b, o, none⟩ = _ := fun b o hb => K9.cell (p := ⟨b, o, none⟩) hb
          have hf9 : ∀ b o, b < w.heap.size + 2 → w9.frozen? ⟨b, o, none⟩ = _ := fun b o hb => K9.frozen (p := ⟨b, o, none⟩) hb
          have hz9 : w.heap.size + 1 < w9.heap.size := by have := hb9.size; omega
          have HX : Hid (OwnD w9 (w.heap.size + 2) a9 n d p9 m S L F A9 ∧ Below w.heap.size w w9) := ⟨ho9.mono z9, HFIN.out _ K9⟩
          clear ho9 hb9 K9
          (try clear hc1)
          (try clear hc3)
          (try clear hc4)
          go_wp2
          refine bodyPost_ret (v := .agg #[.slice a9 n c9, .slice p9 m q9, .int .i64 fuel, .bool dead]) (by simp [results, Try.results17, go_sem, hc9]) rfl ⟨a9, c9, p9, q9, A9, rfl, ?_, ?_⟩
          · exact ((((HX.out.1.setOther (by simp) _).setOther (by simp) _).setOther (by simp) _).setOther (by simp) _).mono (by omega)
          · exact (((HX.out.2.setCell (by simp; try omega) _).setCell (by simp; try omega) _).setCell (by simp; try omega) _).setCell (by simp; try omega) _
end Go.Proofs.Ytlcamfkgkcjehaa
