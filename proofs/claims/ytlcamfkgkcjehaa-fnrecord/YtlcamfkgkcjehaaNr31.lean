import Derived.Test.YtlcamfkgkcjehaaNr29
import Derived.Test.YtlcamfkgkcjehaaNr23
import Derived.Test.YtlcamfkgkcjehaaNr30
import Derived.Deep.CutRange
import Derived.Deep.CutBlock
import Derived.Test.YtlcamfkgkcjehaaNr26
import Derived.Test.YtlcamfkgkcjehaaNr28
import Derived.Laws.BytesArg
namespace Go.Proofs.Ytlcamfkgkcjehaa
open Go.RowKit Go.Deep
set_option linter.unusedVariables false
set_option maxRecDepth 100000

theorem Stt.live.writes {t : Stt} (h : t.live 0) {at_ : Int} {G : Nat → Nat → Int} : ∀ k, k < 2000 → (t.writes at_ G k).live k
  | 0, _ => h
  | k + 1, hk => by
    have ih := Stt.live.writes h (at_ := at_) (G := G) k (by omega)
    have := ih.write (by omega) (at_ + k) (G k)
    show ((t.writes at_ G k).write (at_ + k) (G k)).live (k + 1)
    rw [this.1]
    exact this.2
theorem Stt.live.recd {t : Stt} (h : t.live 0) {at_ : Int} {G : Nat → Nat → Int} (k : Nat) (hk : k < 1000) : (((if 0 < k then (t.writes at_ G k).sync else t.writes at_ G k)).write (at_ + k) (G k)).live (k + 1) := by
  have h1 : (if 0 < k then (t.writes at_ G k).sync else t.writes at_ G k).live k := by
    split
    · rw [(h.writes k (by omega)).sync.1]
      exact (h.writes k (by omega)).sync.2
    · exact h.writes k (by omega)
  have := h1.write (by omega) (at_ + k) (G k)
  rw [this.1]
  exact this.2
theorem specY_sq (t : Stt) (a p : Option Addr) (n c q : Nat) (w : World) (ha : Rd .u8 w a n t.d) (hp : RdP w p t.m t.S t.L t.F) (hv : t.ok n) (hl : ∃ j, t.live j) :
    Calls Try.prog 49 #[.agg #[.slice a n c, .slice p t.m q, .int .i64 t.fuel, .bool t.dead]] w (t.sync.retQ n w) := by
  obtain ⟨j, hl⟩ := hl
  rw [hl.sync.1]
  exact specY_q t a p n c q w ha hp hv j hl
/-- A disk handed back whose cache can grow. -/
def RetQ (w : World) (e : Ending) (w' : World) (n : Nat) (d : Nat → Int) (m : Nat) (S : Nat → Int) (L : Nat → Nat) (F : Nat → Nat → Int) (fuel : Int) (dead : Bool) : Prop :=
  ∃ a c p q A, e = .returned (.agg #[.slice a n c, .slice p m q, .int .i64 fuel, .bool dead]) ∧ OwnQ w' w.heap.size a n c d p m q S L F A ∧ Below w.heap.size w w'
theorem l1Copy_q (a p : Option Addr) (n c m q : Nat) (d S : Nat → Int) (L : Nat → Nat) (F : Nat → Nat → Int) (fuel : Int) (dead : Bool) (w : World) (ha : Rd .u8 w a n d) (hp : RdP w p m S L F) (hn : n ≤ 1048576) (hm : m ≤ 1048576) (hL : ∀ i, i < m → L i ≤ 1048576) :
    Calls Try.prog 47 #[.agg #[.slice a n c, .slice p m q, .int .i64 fuel, .bool dead]] w fun e w' => RetQ w e w' n d m S L F fuel dead := by
  refine (l1Copy_gath a p n c m q d S L F fuel dead w ha hp hn hm hL).mono ?_
  rintro e w' ⟨a', c', p', q', A', C', he, q1, q2, q3, q4, q5, q6⟩
  exact ⟨a', c', p', q', A', he, ⟨q1, ⟨C', q2⟩, q3, q5, q6⟩, q4⟩

set_option maxHeartbeats 4000000 in
theorem specRecQ_bad (a p ad : Option Addr) (n c m q N cp : Nat) (d S : Nat → Int) (L : Nat → Nat) (F : Nat → Nat → Int) (fuel : Int) (dead : Bool) (at_ seq : Int) (w : World) (ha : Rd .u8 w a n d) (hp : RdP w p m S L F) (hn : n ≤ 1048576) (hm : m ≤ 1048576) (hL : ∀ i, i < m → L i ≤ 1048576) (hN : N ≤ 30000) (hbad : ¬ (VD n m S L fuel ∧ numB seq = true ∧ 2 ≤ at_ ∧ at_ ≤ (n : Int) / 64 - cntOf N)) :
    Calls Try.prog 17 #[.agg #[.slice a n c, .slice p m q, .int .i64 fuel, .bool dead], .int .i64 at_, .int .i64 seq, .slice ad N cp] w fun e w' => RetQ w e w' n d m S L F fuel dead := by
  obtain ⟨K, hK⟩ : ∃ K, K = cntOf N := ⟨_, rfl⟩
  rw [← hK] at hbad
  have HK : Hid (cntOf N = K) := hK.symm
  have hk1 : 1 ≤ K := by rw [hK]; exact cntOf_pos N
  have hk2 : K ≤ 625 := by rw [hK]; exact cntOf_le hN
  clear hK
  have HBAD : Hid (¬ (VD n m S L fuel ∧ numB seq = true ∧ 2 ≤ at_ ∧ at_ ≤ (n : Int) / 64 - K)) := hbad
  have hk3 : ¬ (K : Int) = 0 := by omega
  have hk4 : ((K : Int) == 0) = false := by simp; omega
  have e0 : IntKind.i64.wrap (N : Int) = (N : Int) := by rw [IntKind.wrap_i64]; omega
  have HA : Hid (Rd .u8 w a n d) := ha
  have HP : Hid (RdP w p m S L F) := hp
  have HLL : Hid (∀ i, i < m → L i ≤ 1048576) := hL
  have HFIN : Hid (∀ W : World, Below (w.heap.size + 2) ((w.alloc (.cells #[.slice a n c, .slice p m q, .int .i64 fuel, .bool dead] 25)).alloc (.cells #[.slice none 0 0, .slice none 0 0, .int .i64 0, .bool false] 25)) W → Below w.heap.size w W) := fun W h => (below_alloc2' _ _ _).trans (h.mono (by omega))
  have HE : Hid (∀ o1 o2, ((w.alloc o1).alloc o2).heap.size = w.heap.size + 2) := fun _ _ => by simp
  clear ha hp hL hbad
  go_enter Try.func17, Try.ntmps17
  go_wp2_with fail
  refine (specRecS N hN _).mono ?_
  rintro e w0 ⟨rfl, rfl⟩
  rw [HK.out]
  go_wp2_with fail
  refine (specValid_any a p n c m q S L F fuel dead _ (HP.out.below (below_alloc2' _ _ _)) hn hm).mono ?_
  rintro e w1 ⟨⟨b1, rfl, hv1⟩, hb1⟩
  rw [HE.out] at hb1
  have K1 : Hid (Below (w.heap.size + 2) ((w.alloc (.cells #[.slice a n c, .slice p m q, .int .i64 fuel, .bool dead] 25)).alloc (.cells #[.slice none 0 0, .slice none 0 0, .int .i64 0, .bool false] 25)) w1) := hb1
  have z1 : w.heap.size + 2 ≤ w1.heap.size := by have := hb1.size; rw [HE.out] at this; exact this
  have hc1 : ∀ b o, b < w.heap.size + 2 → w1.cell? ⟨b, o, none⟩ = _ := fun b o hb => K1.out.cell (p := ⟨b, o, none⟩) hb
  clear hb1
  cases b1 with
  | false =>
    clear hv1
    go_wp2_with fail
    refine (l1Copy_q a p n c m q d S L F fuel dead w1 (HA.out.below (HFIN.out _ K1.out)) (HP.out.below (HFIN.out _ K1.out)) hn hm HLL.out).mono ?_
    rintro e w9 ⟨a9, c9, p9, q9, A9, rfl, ho9, hb9⟩
    have z9 : w.heap.size + 2 ≤ w1.heap.size := by have := K1.out.size; rw [HE.out] at this; exact this
    have K9 : Below (w.heap.size + 2) ((w.alloc (.cells #[.slice a n c, .slice p m q, .int .i64 fuel, .bool dead] 25)).alloc (.cells #[.slice none 0 0, .slice none 0 0, .int .i64 0, .bool false] 25)) w9 := K1.out.trans (hb9.mono z9)
    have hc9 : ∀ b o, b < w.heap.size + 2 → w9.cell? ⟨b, o, none⟩ = _ := fun b o hb => K9.cell (p := ⟨b, o, none⟩) hb
    have hf9 : ∀ b o, b < w.heap.size + 2 → w9.frozen? ⟨b, o, none⟩ = _ := fun b o hb => K9.frozen (p := ⟨b, o, none⟩) hb
    have hz9 : w.heap.size + 1 < w9.heap.size := by have := hb9.size; omega
    have HX : Hid (OwnQ w9 (w.heap.size + 2) a9 n c9 d p9 m q9 S L F A9 ∧ Below w.heap.size w w9) := ⟨ho9.mono z9, HFIN.out _ K9⟩
    clear ho9 hb9 K9
    (try clear hc1)
    (try clear hc3)
    (try clear hc4)
    go_wp2
    refine bodyPost_ret (v := .agg #[.slice a9 n c9, .slice p9 m q9, .int .i64 fuel, .bool dead]) (by simp [results, Try.results17, go_sem, hc9]) rfl ⟨a9, c9, p9, q9, A9, rfl, ?_, ?_⟩
    · exact ((((HX.out.1.setOther (by simp) _).setOther (by simp) _).setOther (by simp) _).setOther (by simp) _).mono (by omega)
    · exact (((HX.out.2.setCell (by simp; try omega) _).setCell (by simp; try omega) _).setCell (by simp; try omega) _).setCell (by simp; try omega) _
  | true =>
    have HV : Hid (VD n m S L fuel) := hv1.1 rfl
    clear hv1
    go_wp2_with fail
    refine (l2Number_any seq w1).mono ?_
    rintro e w2 ⟨he, hw2⟩
    subst hw2
    cases hnum : numB seq with
    | false =>
      rw [hnum] at he
      subst he
      go_wp2_with fail
      refine (l1Copy_q a p n c m q d S L F fuel dead w2 (HA.out.below (HFIN.out _ K1.out)) (HP.out.below (HFIN.out _ K1.out)) hn hm HLL.out).mono ?_
      rintro e w9 ⟨a9, c9, p9, q9, A9, rfl, ho9, hb9⟩
      have z9 : w.heap.size + 2 ≤ w2.heap.size := by have := K1.out.size; rw [HE.out] at this; exact this
      have K9 : Below (w.heap.size + 2) ((w.alloc (.cells #[.slice a n c, .slice p m q, .int .i64 fuel, .bool dead] 25)).alloc (.cells #[.slice none 0 0, .slice none 0 0, .int .i64 0, .bool false] 25)) w9 := K1.out.trans (hb9.mono z9)
      have hc9 : ∀ b o, b < w.heap.size + 2 → w9.cell? ⟨b, o, none⟩ = _ := fun b o hb => K9.cell (p := ⟨b, o, none⟩) hb
      have hf9 : ∀ b o, b < w.heap.size + 2 → w9.frozen? ⟨b, o, none⟩ = _ := fun b o hb => K9.frozen (p := ⟨b, o, none⟩) hb
      have hz9 : w.heap.size + 1 < w9.heap.size := by have := hb9.size; omega
      have HX : Hid (OwnQ w9 (w.heap.size + 2) a9 n c9 d p9 m q9 S L F A9 ∧ Below w.heap.size w w9) := ⟨ho9.mono z9, HFIN.out _ K9⟩
      clear ho9 hb9 K9
      (try clear hc1)
      (try clear hc3)
      (try clear hc4)
      go_wp2
      refine bodyPost_ret (v := .agg #[.slice a9 n c9, .slice p9 m q9, .int .i64 fuel, .bool dead]) (by simp [results, Try.results17, go_sem, hc9]) rfl ⟨a9, c9, p9, q9, A9, rfl, ?_, ?_⟩
      · exact ((((HX.out.1.setOther (by simp) _).setOther (by simp) _).setOther (by simp) _).setOther (by simp) _).mono (by omega)
      · exact (((HX.out.2.setCell (by simp; try omega) _).setCell (by simp; try omega) _).setCell (by simp; try omega) _).setCell (by simp; try omega) _
    | true =>
      rw [hnum] at he
      subst he
      have HNM : Hid (numB seq = true) := hnum
      clear hnum
      by_cases c1 : at_ < 2
      · go_wp2_with fail
        refine (l1Copy_q a p n c m q d S L F fuel dead w2 (HA.out.below (HFIN.out _ K1.out)) (HP.out.below (HFIN.out _ K1.out)) hn hm HLL.out).mono ?_
        rintro e w9 ⟨a9, c9, p9, q9, A9, rfl, ho9, hb9⟩
        have z9 : w.heap.size + 2 ≤ w2.heap.size := by have := K1.out.size; rw [HE.out] at this; exact this
        have K9 : Below (w.heap.size + 2) ((w.alloc (.cells #[.slice a n c, .slice p m q, .int .i64 fuel, .bool dead] 25)).alloc (.cells #[.slice none 0 0, .slice none 0 0, .int .i64 0, .bool false] 25)) w9 := K1.out.trans (hb9.mono z9)
        have hc9 : ∀ b o, b < w.heap.size + 2 → w9.cell? ⟨b, o, none⟩ = _ := fun b o hb => K9.cell (p := ⟨b, o, none⟩) hb
        have hf9 : ∀ b o, b < w.heap.size + 2 → w9.frozen? ⟨b, o, none⟩ = _ := fun b o hb => K9.frozen (p := ⟨b, o, none⟩) hb
        have hz9 : w.heap.size + 1 < w9.heap.size := by have := hb9.size; omega
        have HX : Hid (OwnQ w9 (w.heap.size + 2) a9 n c9 d p9 m q9 S L F A9 ∧ Below w.heap.size w w9) := ⟨ho9.mono z9, HFIN.out _ K9⟩
        clear ho9 hb9 K9
        (try clear hc1)
        (try clear hc3)
        (try clear hc4)
        go_wp2
        refine bodyPost_ret (v := .agg #[.slice a9 n c9, .slice p9 m q9, .int .i64 fuel, .bool dead]) (by simp [results, Try.results17, go_sem, hc9]) rfl ⟨a9, c9, p9, q9, A9, rfl, ?_, ?_⟩
        · exact ((((HX.out.1.setOther (by simp) _).setOther (by simp) _).setOther (by simp) _).setOther (by simp) _).mono (by omega)
        · exact (((HX.out.2.setCell (by simp; try omega) _).setCell (by simp; try omega) _).setCell (by simp; try omega) _).setCell (by simp; try omega) _
      · have c1' : decide (at_ < 2) = false := decide_eq_false c1
        go_wp2_with fail
        refine (l1Sectors_any a p n c m q fuel dead w2 hn).mono ?_
        rintro e w3 ⟨rfl, hb3⟩
        have K3 : Hid (Below (w.heap.size + 2) ((w.alloc (.cells #[.slice a n c, .slice p m q, .int .i64 fuel, .bool dead] 25)).alloc (.cells #[.slice none 0 0, .slice none 0 0, .int .i64 0, .bool false] 25)) w3) := K1.out.trans (hb3.mono z1)
        have z3 := hb3.size
        have hc3 : ∀ b o, b < w.heap.size + 2 → w3.cell? ⟨b, o, none⟩ = _ := fun b o hb => K3.out.cell (p := ⟨b, o, none⟩) hb
        clear hb3 hc1
        by_cases c2 : (n : Int) / 64 < at_
        · go_wp2_with fail
          refine (l1Copy_q a p n c m q d S L F fuel dead w3 (HA.out.below (HFIN.out _ K3.out)) (HP.out.below (HFIN.out _ K3.out)) hn hm HLL.out).mono ?_
          rintro e w9 ⟨a9, c9, p9, q9, A9, rfl, ho9, hb9⟩
          have z9 : w.heap.size + 2 ≤ w3.heap.size := by have := K3.out.size; rw [HE.out] at this; exact this
          have K9 : Below (w.heap.size + 2) ((w.alloc (.cells #[.slice a n c, .slice p m q, .int .i64 fuel, .bool dead] 25)).alloc (.cells #[.slice none 0 0, .slice none 0 0, .int .i64 0, .bool false] 25)) w9 := K3.out.trans (hb9.mono z9)
          have hc9 : ∀ b o, b < w.heap.size + 2 → w9.cell? ⟨b, o, none⟩ = _ := fun b o hb => K9.cell (p := ⟨b, o, none⟩) hb
          have hf9 : ∀ b o, b < w.heap.size + 2 → w9.frozen? ⟨b, o, none⟩ = _ := fun b o hb => K9.frozen (p := ⟨b, o, none⟩) hb
          have hz9 : w.heap.size + 1 < w9.heap.size := by have := hb9.size; omega
          have HX : Hid (OwnQ w9 (w.heap.size + 2) a9 n c9 d p9 m q9 S L F A9 ∧ Below w.heap.size w w9) := ⟨ho9.mono z9, HFIN.out _ K9⟩
          clear ho9 hb9 K9
          (try clear hc1)
          (try clear hc3)
          (try clear hc4)
          go_wp2
          refine bodyPost_ret (v := .agg #[.slice a9 n c9, .slice p9 m q9, .int .i64 fuel, .bool dead]) (by simp [results, Try.results17, go_sem, hc9]) rfl ⟨a9, c9, p9, q9, A9, rfl, ?_, ?_⟩
          · exact ((((HX.out.1.setOther (by simp) _).setOther (by simp) _).setOther (by simp) _).setOther (by simp) _).mono (by omega)
          · exact (((HX.out.2.setCell (by simp; try omega) _).setCell (by simp; try omega) _).setCell (by simp; try omega) _).setCell (by simp; try omega) _
        · have c2' : decide ((n : Int) / 64 < at_) = false := decide_eq_false c2
          have e2 : IntKind.i64.wrap (at_ + (K : Int)) = at_ + (K : Int) := by rw [IntKind.wrap_i64]; omega
          have c3 : (n : Int) / 64 < at_ + (K : Int) := by
            apply Classical.byContradiction
            intro hh
            exact HBAD.out ⟨HV.out, HNM.out, by omega, by omega⟩
          go_wp2_with fail
          refine (l1Sectors_any a p n c m q fuel dead w3 hn).mono ?_
          rintro e w4 ⟨rfl, hb4⟩
          have K4 : Hid (Below (w.heap.size + 2) ((w.alloc (.cells #[.slice a n c, .slice p m q, .int .i64 fuel, .bool dead] 25)).alloc (.cells #[.slice none 0 0, .slice none 0 0, .int .i64 0, .bool false] 25)) w4) := K3.out.trans (hb4.mono (by omega))
          have hc4 : ∀ b o, b < w.heap.size + 2 → w4.cell? ⟨b, o, none⟩ = _ := fun b o hb => K4.out.cell (p := ⟨b, o, none⟩) hb
          clear hb4 hc3
          go_wp2_with fail
          refine (l1Copy_q a p n c m q d S L F fuel dead w4 (HA.out.below (HFIN.out _ K4.out)) (HP.out.below (HFIN.out _ K4.out)) hn hm HLL.out).mono ?_
          rintro e w9 ⟨a9, c9, p9, q9, A9, rfl, ho9, hb9⟩
          have z9 : w.heap.size + 2 ≤ w4.heap.size := by have := K4.out.size; rw [HE.out] at this; exact this
          have K9 : Below (w.heap.size + 2) ((w.alloc (.cells #[.slice a n c, .slice p m q, .int .i64 fuel, .bool dead] 25)).alloc (.cells #[.slice none 0 0, .slice none 0 0, .int .i64 0, .bool false] 25)) w9 := K4.out.trans (hb9.mono z9)
          have hc9 : ∀ b o, b < w.heap.size + 2 → w9.cell? ⟨b, o, none⟩ = _ := fun b o hb => K9.cell (p := ⟨b, o, none⟩) hb
          have hf9 : ∀ b o, b < w.heap.size + 2 → w9.frozen? ⟨b, o, none⟩ = _ := fun b o hb => K9.frozen (p := ⟨b, o, none⟩) hb
          have hz9 : w.heap.size + 1 < w9.heap.size := by have := hb9.size; omega
          have HX : Hid (OwnQ w9 (w.heap.size + 2) a9 n c9 d p9 m q9 S L F A9 ∧ Below w.heap.size w w9) := ⟨ho9.mono z9, HFIN.out _ K9⟩
          clear ho9 hb9 K9
          (try clear hc1)
          (try clear hc3)
          (try clear hc4)
          go_wp2
          refine bodyPost_ret (v := .agg #[.slice a9 n c9, .slice p9 m q9, .int .i64 fuel, .bool dead]) (by simp [results, Try.results17, go_sem, hc9]) rfl ⟨a9, c9, p9, q9, A9, rfl, ?_, ?_⟩
          · exact ((((HX.out.1.setOther (by simp) _).setOther (by simp) _).setOther (by simp) _).setOther (by simp) _).mono (by omega)
          · exact (((HX.out.2.setCell (by simp; try omega) _).setCell (by simp; try omega) _).setCell (by simp; try omega) _).setCell (by simp; try omega) _
set_option maxHeartbeats 4000000 in
theorem specRecQ_good (t : Stt) (a p ad : Option Addr) (n c q N cp last : Nat) (f : Nat → Int) (at_ seq : Int) (w : World) (ha : Rd .u8 w a n t.d) (hp : RdP w p t.m t.S t.L t.F) (hrd : Rd .u8 w ad N f) (hf : ∀ j, j < N → 0 ≤ f j ∧ f j < 256) (hv : t.ok n) (hN : N ≤ 30000) (hcp : N ≤ cp) (hcm : cp ≤ 9223372036854775807) (hl : cntOf N = last + 1) (hq : numB seq = true) (hlv : t.live 0) (a0 : 2 ≤ at_) (a1 : at_ ≤ (n : Int) / 64 - cntOf N) :
    Calls Try.prog 17 #[.agg #[.slice a n c, .slice p t.m q, .int .i64 t.fuel, .bool t.dead], .int .i64 at_, .int .i64 seq, .slice ad N cp] w ((t.recd at_ (secW N seq f) last).retQ n w) := by
  have HLV0 : Hid (t.live 0) := hlv
  clear hlv
  have HOK : Hid (t.ok n) := hv
  have HT : Hid (Stt.ok n t ∧ VD n t.m t.S t.L t.fuel) := ⟨hv, hv⟩
  obtain ⟨G, hG⟩ : ∃ G : Nat → Nat → Int, G = secW N seq f := ⟨_, rfl⟩
  rw [← hG]
  have HG : Hid (G = secW N seq f) := hG
  clear hG
  rw [hl] at a1
  have HL1 : Hid (cntOf N = last + 1) := hl
  have hl6 : last ≤ 624 := by have := cntOf_le hN; omega
  have hVH := hv.1
  unfold VH at hVH
  obtain ⟨hn, hm, hL⟩ := stt_vd_lens (show VD n t.m t.S t.L t.fuel from hv)
  have hn4 : n ≠ 64 := by omega
  have hn6 : (n : Int) / 64 ≤ 1024 := by omega
  have a1' : at_ + (last : Int) + 1 ≤ (n : Int) / 64 := by omega
  have HQ : Hid (numB seq = true ∧ 0 ≤ seq ∧ seq ≤ 2000000000) := by
    refine ⟨hq, ?_⟩
    unfold numB at hq
    simp at hq
    omega
  have HRD : Hid (Rd .u8 w ad N f) := hrd
  have HF : Hid (∀ j, j < N → 0 ≤ f j ∧ f j < 256) := hf
  clear hVH hv hq hl hrd hf a1
  have hk3 : ¬ (last : Int) + 1 = 0 := by omega
  have hk4 : (((last : Int) + 1) == 0) = false := by simp; omega
  have e0 : IntKind.i64.wrap (N : Int) = (N : Int) := by rw [IntKind.wrap_i64]; omega
  have e1 : IntKind.i64.wrap (at_ + ((last : Int) + 1)) = at_ + ((last : Int) + 1) := by rw [IntKind.wrap_i64]; omega
  have e3 : IntKind.i64.wrap (at_ + ((last : Int) + 1) - 1) = at_ + (last : Int) := by rw [IntKind.wrap_i64]; omega
  have e4 : IntKind.i64.wrap ((last : Int) + 1 - 1) = (last : Int) := by rw [IntKind.wrap_i64]; omega
  have c1 : ¬ at_ < 2 := by omega
  have c1' : decide (at_ < 2) = false := decide_eq_false c1
  have c2 : ¬ (n : Int) / 64 < at_ := by omega
  have c2' : decide ((n : Int) / 64 < at_) = false := decide_eq_false c2
  have c3 : ¬ (n : Int) / 64 < at_ + ((last : Int) + 1) := by omega
  have c3' : decide ((n : Int) / 64 < at_ + ((last : Int) + 1)) = false := decide_eq_false c3
  have HA : Hid (Rd .u8 w a n t.d) := ha
  have HP : Hid (RdP w p t.m t.S t.L t.F) := hp
  have HLL : Hid (∀ i, i < t.m → t.L i ≤ 1048576) := hL
  have HFIN : Hid (∀ W : World, Below (w.heap.size + 2) ((w.alloc (.cells #[.slice a n c, .slice p t.m q, .int .i64 t.fuel, .bool t.dead] 25)).alloc (.cells #[.slice none 0 0, .slice none 0 0, .int .i64 0, .bool false] 25)) W → Below w.heap.size w W) := fun W h => (below_alloc2' _ _ _).trans (h.mono (by omega))
  have HE : Hid (∀ o1 o2, ((w.alloc o1).alloc o2).heap.size = w.heap.size + 2) := fun _ _ => by simp
  clear ha hp hL
  go_enter Try.func17, Try.ntmps17
  go_wp2_with fail
  refine (specRecS N hN _).mono ?_
  rintro e w0 ⟨rfl, rfl⟩
  rw [HL1.out]
  rw [show (((last + 1 : Nat)) : Int) = (last : Int) + 1 from by simp]
  go_wp2_with fail
  refine (specValid_any a p n c t.m q t.S t.L t.F t.fuel t.dead _ (HP.out.below (below_alloc2' _ _ _)) hn hm).mono ?_
  rintro e w1 ⟨h1, hb1⟩
  have := ans_true' h1 HT.out.2
  subst this
  rw [HE.out] at hb1
  have K1 : Hid (Below (w.heap.size + 2) ((w.alloc (.cells #[.slice a n c, .slice p t.m q, .int .i64 t.fuel, .bool t.dead] 25)).alloc (.cells #[.slice none 0 0, .slice none 0 0, .int .i64 0, .bool false] 25)) w1) := hb1
  have z1 : w.heap.size + 2 ≤ w1.heap.size := by have := hb1.size; rw [HE.out] at this; exact this
  have hc1 : ∀ b o, b < w.heap.size + 2 → w1.cell? ⟨b, o, none⟩ = _ := fun b o hb => K1.out.cell (p := ⟨b, o, none⟩) hb
  clear hb1 h1
  go_wp2_with fail
  refine (l2Number_any seq w1).mono ?_
  rintro e w2 ⟨he, hw2⟩
  subst hw2
  rw [HQ.out.1] at he
  subst he
  go_wp2_with fail
  refine (l1Sectors_any a p n c t.m q t.fuel t.dead w2 hn).mono ?_
  rintro e w3 ⟨rfl, hb3⟩
  have K3 : Hid (Below (w.heap.size + 2) ((w.alloc (.cells #[.slice a n c, .slice p t.m q, .int .i64 t.fuel, .bool t.dead] 25)).alloc (.cells #[.slice none 0 0, .slice none 0 0, .int .i64 0, .bool false] 25)) w3) := K1.out.trans (hb3.mono z1)
  have z3 := hb3.size
  clear hb3 hc1 K1
  have hc3 : ∀ b o, b < w.heap.size + 2 → w3.cell? ⟨b, o, none⟩ = _ := fun b o hb => K3.out.cell (p := ⟨b, o, none⟩) hb
  go_wp2_with fail
  refine (l1Sectors_any a p n c t.m q t.fuel t.dead w3 hn).mono ?_
  rintro e w4 ⟨rfl, hb4⟩
  have K4 : Hid (Below (w.heap.size + 2) ((w.alloc (.cells #[.slice a n c, .slice p t.m q, .int .i64 t.fuel, .bool t.dead] 25)).alloc (.cells #[.slice none 0 0, .slice none 0 0, .int .i64 0, .bool false] 25)) w4) := K3.out.trans (hb4.mono (by omega))
  have z4 := hb4.size
  clear hb4 hc3 K3
  go_wp2_with fail
  refine (l2Sectors_any ad N cp f seq w4 (HRD.out.below (HFIN.out _ K4.out)) HF.out hN hcp hcm HQ.out.2.1 HQ.out.2.2).mono ?_
  rintro e w5 ⟨bs, cap, rfl, hs5, hb5⟩
  rw [HL1.out, ← HG.out] at hs5
  rw [HL1.out]
  have z5 := hb5.size
  have K5 : Hid (Below (w.heap.size + 2) ((w.alloc (.cells #[.slice a n c, .slice p t.m q, .int .i64 t.fuel, .bool t.dead] 25)).alloc (.cells #[.slice none 0 0, .slice none 0 0, .int .i64 0, .bool false] 25)) w5) := K4.out.trans (hb5.mono (by omega))
  have hblk : w5.heap[w.heap.size]? = some (.cells #[.slice a n c, .slice p t.m q, .int .i64 t.fuel, .bool t.dead] 25) := by
    rw [K5.out.block w.heap.size (by omega), (below_alloc _ _).block w.heap.size (by simp)]
    exact blk_alloc_new _ _
  have X5 : Hid (RdX w5 w.heap.size bs (last + 1) G) := rdS_off hs5 (by omega) hblk hn4
  have D5 : Hid (RecSt w w5 n bs last G t) := by
    have r0 := rowInNew w (.slice a n c) (.slice p t.m q) t.fuel t.dead
    have r1 : DkRow w5 w.heap.size (.slice a n c) (.slice p t.m q) t.fuel t.dead := rowIn.of_block r0 ((K5.out.block w.heap.size (by omega)).trans ((below_alloc _ _).block w.heap.size (by simp)))
    exact ⟨⟨a, c, p, q, r1, HA.out.below (HFIN.out _ K5.out), HP.out.below (HFIN.out _ K5.out)⟩, X5.out, box_res K5.out, HFIN.out _ K5.out, by omega⟩
  clear hs5 hb5 hblk K4 K5 X5
  go_wp2
  go_loopw [11] (fun i wr => ∃ j : Nat, j ≤ last ∧ i = .int .i64 j ∧ RecSt w wr n bs last G (t.writes at_ G j)) (fun i _ => last - (intOf i).toNat)
  case atStart => exact ⟨0, Nat.zero_le _, rfl, D5.out⟩
  case round =>
    obtain ⟨j, hj, rfl, hst⟩ := hrel
    have HST : Hid (RecSt w wr n bs last G (t.writes at_ G j)) := hst
    have hzr := hst.2.2.2.2
    clear hst
    by_cases hlt : j < last
    · obtain ⟨⟨aj, cj, pj, qj, hrow, hra, hrp⟩, hrx, _, _, _⟩ := HST.out
      obtain ⟨adj, cpj, s1, s2, s3⟩ := hrx.2 j (by omega)
      have HRA : Hid (Rd .u8 wr.drew aj n (t.writes at_ G j).d ∧ RdP wr.drew pj (t.writes at_ G j).m (t.writes at_ G j).S (t.writes at_ G j).L (t.writes at_ G j).F ∧ Rd .u8 wr.drew adj 64 (G j)) := ⟨hra, hrp, s2⟩
      obtain ⟨x0, x1, x2, x3, xf, xl⟩ := hrow.cells
      have hbb : bs < wr.heap.size := World.block_lt_of_cell? _ _ s1
      have ij : (j : Int) + 1 < (last : Int) + 1 := by omega
      have ij2 : (j : Int) < ((last + 1 : Nat) : Int) := by omega
      have ij3 : (j : Int) < (last : Int) + 1 := by omega
      have w1' : IntKind.i64.wrap ((j : Int) + 1) = (j : Int) + 1 := by rw [IntKind.wrap_i64]; omega
      have w2' : IntKind.i64.wrap (at_ + (j : Int)) = at_ + (j : Int) := by rw [IntKind.wrap_i64]; omega
      have HC : Hid (∀ w4 : World, Below wr.drew.heap.size wr.drew w4 → (w4.cell? ⟨w.heap.size, 0, none⟩ = some (.slice aj n cj) ∧ w4.cell? ⟨w.heap.size, 1, none⟩ = some (.slice pj (t.writes at_ G j).m qj) ∧ w4.cell? ⟨w.heap.size, 2, none⟩ = some (.int .i64 (t.writes at_ G j).fuel) ∧ w4.cell? ⟨w.heap.size, 3, none⟩ = some (.bool (t.writes at_ G j).dead) ∧ w4.cell? ⟨bs, j, none⟩ = some (.slice adj 64 cpj)) ∧ (∀ x, w4.frozen? ⟨w.heap.size, x, none⟩ = false) ∧ w.heap.size < w4.heap.size) := by
        intro w4 hb
        refine ⟨⟨(hb.cell (p := ⟨w.heap.size, 0, none⟩) xl).trans x0, (hb.cell (p := ⟨w.heap.size, 1, none⟩) xl).trans x1, (hb.cell (p := ⟨w.heap.size, 2, none⟩) xl).trans x2, (hb.cell (p := ⟨w.heap.size, 3, none⟩) xl).trans x3, (hb.cell (p := ⟨bs, j, none⟩) hbb).trans s1⟩, fun x => (hb.frozen (p := ⟨w.heap.size, x, none⟩) xl).trans (xf x), Nat.lt_of_lt_of_le xl hb.size⟩
      clear hrow hra hrp hrx s2 s3
      go_wp2
      refine wp_region_late (S := (fun w' => w'.cell? ⟨w.heap.size, 0, none⟩ = some (.slice aj n cj) ∧ w'.cell? ⟨w.heap.size, 1, none⟩ = some (.slice pj (t.writes at_ G j).m qj) ∧ w'.cell? ⟨w.heap.size, 2, none⟩ = some (.int .i64 (t.writes at_ G j).fuel) ∧ w'.cell? ⟨w.heap.size, 3, none⟩ = some (.bool (t.writes at_ G j).dead) ∧ w'.cell? ⟨bs, j, none⟩ = some (.slice adj 64 cpj))) 9 (by kernel_rfl) ?_ (fun hHeld => ?_)
      · ((try dsimp only); go_keep)
      refine late_take 0 .zero (v := ?_) (by kernel_rfl) (by kernel_rfl) (by kernel_rfl) (by kernel_rfl) (fun _ _ _ h => h) (by rfl) ?_ (by assumption) ?_
      rotate_left
      · (intro w hSw; (try dsimp only at hSw); go_simp) <;> with_reducible rfl
      simp only [Act.put, List.setIfInBounds_toArray, List.set_cons_zero, List.set_cons_succ]
      refine late_take 1 (.succ .zero) (v := ?_) (by kernel_rfl) (by kernel_rfl) (by kernel_rfl) (by kernel_rfl) (fun _ _ _ h => h) (by rfl) ?_ (by assumption) ?_
      rotate_left
      · (intro w hSw; (try dsimp only at hSw); go_simp) <;> with_reducible rfl
      simp only [Act.put, List.setIfInBounds_toArray, List.set_cons_zero, List.set_cons_succ]
      refine late_take 2 (.succ (.succ .zero)) (v := ?_) (by kernel_rfl) (by kernel_rfl) (by kernel_rfl) (by kernel_rfl) (fun _ _ _ h => h) (by rfl) ?_ (by assumption) ?_
      rotate_left
      · (intro w hSw; (try dsimp only at hSw); go_simp) <;> with_reducible rfl
      simp only [Act.put, List.setIfInBounds_toArray, List.set_cons_zero, List.set_cons_succ]
      refine late_take 3 (.succ (.succ (.succ .zero))) (v := ?_) (by kernel_rfl) (by kernel_rfl) (by kernel_rfl) (by kernel_rfl) (fun _ _ _ h => h) (by rfl) ?_ (by assumption) ?_
      rotate_left
      · (intro w hSw; (try dsimp only at hSw); go_simp) <;> with_reducible rfl
      simp only [Act.put, List.setIfInBounds_toArray, List.set_cons_zero, List.set_cons_succ]
      refine late_take 4 (.succ (.succ (.succ (.succ .zero)))) (v := ?_) (by kernel_rfl) (by kernel_rfl) (by kernel_rfl) (by kernel_rfl) (fun _ _ _ h => h) (by rfl) ?_ (by assumption) ?_
      rotate_left
      · (intro w hSw; (try dsimp only at hSw); go_simp) <;> with_reducible rfl
      simp only [Act.put, List.setIfInBounds_toArray, List.set_cons_zero, List.set_cons_succ]
      refine late_take 5 (.succ (.succ (.succ (.succ (.succ .zero))))) (v := ?_) (by kernel_rfl) (by kernel_rfl) (by kernel_rfl) (by kernel_rfl) (fun _ _ _ h => h) (by rfl) ?_ (by assumption) ?_
      rotate_left
      · (intro w hSw; (try dsimp only at hSw); go_simp) <;> with_reducible rfl
      simp only [Act.put, List.setIfInBounds_toArray, List.set_cons_zero, List.set_cons_succ]
      refine late_take 6 (.succ (.succ (.succ (.succ (.succ (.succ .zero)))))) (v := ?_) (by kernel_rfl) (by kernel_rfl) (by kernel_rfl) (by kernel_rfl) (fun _ _ _ h => h) (by rfl) ?_ (by assumption) ?_
      rotate_left
      · (intro w hSw; (try dsimp only at hSw); go_simp) <;> with_reducible rfl
      simp only [Act.put, List.setIfInBounds_toArray, List.set_cons_zero, List.set_cons_succ]
      refine late_take 7 (.succ (.succ (.succ (.succ (.succ (.succ (.succ .zero))))))) (v := ?_) (by kernel_rfl) (by kernel_rfl) (by kernel_rfl) (by kernel_rfl) (fun _ _ _ h => h) (by rfl) ?_ (by assumption) ?_
      rotate_left
      · (intro w hSw; (try dsimp only at hSw); go_simp) <;> with_reducible rfl
      simp only [Act.put, List.setIfInBounds_toArray, List.set_cons_zero, List.set_cons_succ]
      refine late_one 8 (.succ (.succ (.succ (.succ (.succ (.succ (.succ (.succ .zero)))))))) (by kernel_rfl) (fun K hK => ?_)
      (refine step_dw (by rfl) 56 59 63 (by rfl) (.agg #[.slice aj n cj, .slice pj (t.writes at_ G j).m qj, .int .i64 (t.writes at_ G j).fuel, .bool (t.writes at_ G j).dead]) (.int .i64 (at_ + (j : Int))) (.slice adj 64 cpj) (by rfl) (by rfl) (by rfl) ?_; refine (specW_st (t.writes at_ G j) aj pj adj n cj qj cpj (at_ + (j : Int)) (G j) wr.drew HRA.out.1 HRA.out.2.1 HRA.out.2.2 (HT.out.1.writes j (by omega) (by omega)) (by omega) (by omega)).mono ?_; rintro e w4 ⟨a4, c4, p4, q4, A4, he, ho4, hb4⟩; refine ⟨_, he, ?_⟩; clear he; obtain ⟨⟨k0, k1, k2, k3, k4⟩, kf, kl⟩ := HC.out w4 hb4)
      refine hK.out _ _ ?_ (fun hHeld2 => ?_)
      · (intro _; (try dsimp only); go_keep)
      clear hK K
      replace hHeld := hHeld2 (by decide)
      clear hHeld2
      try simp only [Act.put, List.setIfInBounds_toArray, List.set_cons_zero, List.set_cons_succ]
      refine late_one 9 (.succ (.succ (.succ (.succ (.succ (.succ (.succ (.succ (.succ .zero))))))))) (by kernel_rfl) (fun K hK => ?_)
      go_simp
      refine hK.out _ _ ?_ (fun hHeld2 => ?_)
      · (intro hne; exact absurd rfl hne)
      clear hK K hHeld2
      refine wpLate_done (by kernel_rfl) ?_ _
      have HY : Hid (RecSt w ((((w4.setCell ⟨w.heap.size, 0, none⟩ (.slice a4 n c4)).setCell ⟨w.heap.size, 1, none⟩ (.slice p4 (t.writes at_ G (j + 1)).m q4)).setCell ⟨w.heap.size, 2, none⟩ (.int .i64 (t.writes at_ G (j + 1)).fuel)).setCell ⟨w.heap.size, 3, none⟩ (.bool (t.writes at_ G (j + 1)).dead)) n bs last G (t.writes at_ G (j + 1))) := HST.out.next (w4 := w4) ((Below.refl _ _).drew.trans hb4) ho4
      clear hb4 ho4 k0 k1 k2 k3 k4 kf kl hHeld HC HRA x0 x1 x2 x3 xf s1 HST
      go_wp2
      go_roundw
      case rel => exact ⟨j + 1, by omega, by go_num, HY.out⟩
      case measure => simp [intOf]; omega
    · have e : j = last := by omega
      subst e
      have HOW : Hid ((t.writes at_ G j).ok n) := HT.out.1.writes j (by omega) (by omega)
      obtain ⟨t2, ht2⟩ : ∃ t2, t2 = (if 0 < j then (t.writes at_ G j).sync else t.writes at_ G j) := ⟨_, rfl⟩
      have HLV : Hid ((t2.write (at_ + (j : Int)) (G j)).live (j + 1)) := by rw [ht2]; exact HLV0.out.recd j (by omega)
      have HREC : Hid (t.recd at_ G j = (t2.write (at_ + (j : Int)) (G j)).sync) := by rw [ht2]; rfl
      have HT2 : Hid (t2.ok n) := by
        show t2.ok n
        rw [ht2]
        split
        · exact HOW.out.sync
        · exact HOW.out
      have HT3 : Hid ((t2.write (at_ + (j : Int)) (G j)).ok n) := HT2.out.write _ (by omega) (by omega)
      have w1' : IntKind.i64.wrap ((j : Int) + 1) = (j : Int) + 1 := by rw [IntKind.wrap_i64]; omega
      have w2' : IntKind.i64.wrap (at_ + (j : Int)) = at_ + (j : Int) := by rw [IntKind.wrap_i64]; omega
      have w3' : IntKind.i64.wrap (j : Int) = (j : Int) := by rw [IntKind.wrap_i64]; omega
      have ij2 : (j : Int) < ((j + 1 : Nat) : Int) := by omega
      have ij4 : (0 : Int) ≤ (j : Int) := by omega
      have ij3 : (j : Int) < (j : Int) + 1 := by omega
      by_cases hj0 : 0 < j
      · have hj1 : (1 : Int) < (j : Int) + 1 := by omega
        rw [if_pos hj0] at ht2
        have HT2E : Hid (t2 = (t.writes at_ G j).sync) := ht2
        clear ht2
        obtain ⟨⟨aj, cj, pj, qj, hrow, hra, hrp⟩, hrx, hres, hbel, _⟩ := HST.out
        have HRA0 : Hid (Rd .u8 wr aj n (t.writes at_ G j).d ∧ RdP wr pj (t.writes at_ G j).m (t.writes at_ G j).S (t.writes at_ G j).L (t.writes at_ G j).F) := ⟨hra, hrp⟩
        obtain ⟨x0, x1, x2, x3, xf, xl⟩ := hrow.cells
        clear hra hrp hrx hres hbel
        go_wp2_with fail
        refine (specY_st (t.writes at_ G j) aj pj n cj qj wr HRA0.out.1 HRA0.out.2 HOW.out).mono ?_
        rintro e w6 ⟨a6, c6, p6, q6, A6, rfl, ho6, hb6⟩
        rw [← HT2E.out] at ho6
        rw [← HT2E.out]
        have HW : Hid (RecSt w ((((w6.setCell ⟨w.heap.size, 0, none⟩ (.slice a6 n c6)).setCell ⟨w.heap.size, 1, none⟩ (.slice p6 t2.m q6)).setCell ⟨w.heap.size, 2, none⟩ (.int .i64 t2.fuel)).setCell ⟨w.heap.size, 3, none⟩ (.bool t2.dead)) n bs j G t2) := HST.out.next hb6 ho6
        obtain ⟨k0, k1, k2, k3, kf, kl⟩ := (hrow.below hb6).cells
        clear hrow x0 x1 x2 x3 xf xl hb6 ho6 HRA0 HST
        go_wp2
        clear k0 k1 k2 k3 kf kl
        obtain ⟨W, hWW⟩ : ∃ W, W = ((((w6.setCell ⟨w.heap.size, 0, none⟩ (.slice a6 n c6)).setCell ⟨w.heap.size, 1, none⟩ (.slice p6 t2.m q6)).setCell ⟨w.heap.size, 2, none⟩ (.int .i64 t2.fuel)).setCell ⟨w.heap.size, 3, none⟩ (.bool t2.dead)) := ⟨_, rfl⟩
        rw [← hWW] at HW ⊢
        clear hWW
        obtain ⟨⟨ak, ck, pk, qk, hrow, hra, hrp⟩, hrx, hres, hbel, hzw⟩ := HW.out
        obtain ⟨adj, cpj, s1, s2, s3⟩ := hrx.2 j (by omega)
        have HRA : Hid (Rd .u8 W.drew ak n t2.d ∧ RdP W.drew pk t2.m t2.S t2.L t2.F ∧ Rd .u8 W.drew adj 64 (G j)) := ⟨hra, hrp, s2⟩
        obtain ⟨x0, x1, x2, x3, xf, xl⟩ := hrow.cells
        obtain ⟨y0, y1, y2, y3, yf, yl⟩ := hres.cells
        have hnb : ¬ (bs = w.heap.size + 1) := fun e => by
          obtain ⟨ad0, cp0, s0, _⟩ := hrx.2 0 (by omega)
          rw [e, y0] at s0
          simp at s0
        have hnb2 : ¬ (w.heap.size + 1 = bs) := fun e => hnb e.symm
        have hbb : bs < W.heap.size := World.block_lt_of_cell? _ _ s1
        have HC : Hid (∀ w4 : World, Below W.drew.heap.size W.drew w4 → (w4.cell? ⟨w.heap.size, 0, none⟩ = some (.slice ak n ck) ∧ w4.cell? ⟨w.heap.size, 1, none⟩ = some (.slice pk t2.m qk) ∧ w4.cell? ⟨w.heap.size, 2, none⟩ = some (.int .i64 t2.fuel) ∧ w4.cell? ⟨w.heap.size, 3, none⟩ = some (.bool t2.dead) ∧ w4.cell? ⟨bs, j, none⟩ = some (.slice adj 64 cpj)) ∧ DkRow w4 (w.heap.size + 1) (.slice none 0 0) (.slice none 0 0) 0 false ∧ Below w.heap.size w w4 ∧ W.heap.size ≤ w4.heap.size) := by
          intro w4 hb
          exact ⟨⟨(hb.cell (p := ⟨w.heap.size, 0, none⟩) xl).trans x0, (hb.cell (p := ⟨w.heap.size, 1, none⟩) xl).trans x1, (hb.cell (p := ⟨w.heap.size, 2, none⟩) xl).trans x2, (hb.cell (p := ⟨w.heap.size, 3, none⟩) xl).trans x3, (hb.cell (p := ⟨bs, j, none⟩) hbb).trans s1⟩, DkRow.below (w := W.drew) hres hb, hbel.trans (Below.mono ((Below.refl _ _).drew.trans hb) (by show w.heap.size ≤ W.heap.size; omega)), hb.size⟩
        clear hrow hra hrp hrx s2 s3 hres hbel y0 y1 y2 y3 yf HW
        go_region_held3 (fun w' => w'.cell? ⟨w.heap.size, 0, none⟩ = some (.slice ak n ck) ∧ w'.cell? ⟨w.heap.size, 1, none⟩ = some (.slice pk t2.m qk) ∧ w'.cell? ⟨w.heap.size, 2, none⟩ = some (.int .i64 t2.fuel) ∧ w'.cell? ⟨w.heap.size, 3, none⟩ = some (.bool t2.dead) ∧ w'.cell? ⟨bs, j, none⟩ = some (.slice adj 64 cpj)) (go_keep)
          (first
          | (go_at_call 48; refine (specW_st t2 ak pk adj n ck qk cpj (at_ + (j : Int)) (G j) W.drew HRA.out.1 HRA.out.2.1 HRA.out.2.2 HT2.out (by omega) (by omega)).mono ?_; rintro e w7 ⟨a7, c7, p7, q7, A7, rfl, ho7, hb7⟩; obtain ⟨⟨u0, u1, u2, u3, u4⟩, -, -, z7⟩ := HC.out w7 hb7)
          | (go_at_call 49; refine (specY_sq (t2.write (at_ + (j : Int)) (G j)) a7 p7 n c7 q7 w7 ho7.data.rd ho7.cache.rd HT3.out ⟨_, HLV.out⟩).mono ?_; rintro e w9 ⟨a9, c9, p9, q9, A9, rfl, ho9, hb9⟩; obtain ⟨⟨u0, u1, u2, u3, u4⟩, R9, F9, z9⟩ := HC.out w9 (hb7.trans (hb9.mono z7)); obtain ⟨v0, v1, v2, v3, vf, vl⟩ := R9.cells))
        have HX : Hid (OwnQ w9 (w.heap.size + 2) a9 n c9 (t.recd at_ G j).d p9 (t.recd at_ G j).m q9 (t.recd at_ G j).S (t.recd at_ G j).L (t.recd at_ G j).F A9 ∧ Below w.heap.size w w9) := ⟨by rw [HREC.out]; exact ho9.mono (by omega), F9⟩
        have hne1 : ¬ (w.heap.size + 1 = w.heap.size) := by omega
        clear ho9 ho7 hb9 hb7 R9 F9 u0 u1 u2 u3 u4 x0 x1 x2 x3 xf s1 HC HRA
        rw [← HREC.out]
        go_wp2
        refine bodyPost_ret (v := .agg #[.slice a9 n c9, .slice p9 (t.recd at_ G j).m q9, .int .i64 (t.recd at_ G j).fuel, .bool (t.recd at_ G j).dead]) (by simp [results, Try.results17, go_sem, v0, v1, v2, v3]) rfl ⟨a9, c9, p9, q9, A9, rfl, ?_, ?_⟩
        · exact ((((HX.out.1.setOther (by simp) _).setOther (by simp) _).setOther (by simp) _).setOther (by simp) _).mono (by omega)
        · exact (((HX.out.2.setCell (by simp; try omega) _).setCell (by simp; try omega) _).setCell (by simp; try omega) _).setCell (by simp; try omega) _
      · have hj1 : ¬ (1 : Int) < (j : Int) + 1 := by omega
        have hj2 : decide ((1 : Int) < (j : Int) + 1) = false := decide_eq_false hj1
        rw [if_neg hj0] at ht2
        have HW : Hid (RecSt w wr n bs j G t2) := by rw [ht2]; exact HST.out
        clear ht2 HST
        go_wp2
        obtain ⟨⟨ak, ck, pk, qk, hrow, hra, hrp⟩, hrx, hres, hbel, hzw⟩ := HW.out
        obtain ⟨adj, cpj, s1, s2, s3⟩ := hrx.2 j (by omega)
        have HRA : Hid (Rd .u8 wr.drew ak n t2.d ∧ RdP wr.drew pk t2.m t2.S t2.L t2.F ∧ Rd .u8 wr.drew adj 64 (G j)) := ⟨hra, hrp, s2⟩
        obtain ⟨x0, x1, x2, x3, xf, xl⟩ := hrow.cells
        obtain ⟨y0, y1, y2, y3, yf, yl⟩ := hres.cells
        have hnb : ¬ (bs = w.heap.size + 1) := fun e => by
          obtain ⟨ad0, cp0, s0, _⟩ := hrx.2 0 (by omega)
          rw [e, y0] at s0
          simp at s0
        have hnb2 : ¬ (w.heap.size + 1 = bs) := fun e => hnb e.symm
        have hbb : bs < wr.heap.size := World.block_lt_of_cell? _ _ s1
        have HC : Hid (∀ w4 : World, Below wr.drew.heap.size wr.drew w4 → (w4.cell? ⟨w.heap.size, 0, none⟩ = some (.slice ak n ck) ∧ w4.cell? ⟨w.heap.size, 1, none⟩ = some (.slice pk t2.m qk) ∧ w4.cell? ⟨w.heap.size, 2, none⟩ = some (.int .i64 t2.fuel) ∧ w4.cell? ⟨w.heap.size, 3, none⟩ = some (.bool t2.dead) ∧ w4.cell? ⟨bs, j, none⟩ = some (.slice adj 64 cpj)) ∧ DkRow w4 (w.heap.size + 1) (.slice none 0 0) (.slice none 0 0) 0 false ∧ Below w.heap.size w w4 ∧ wr.heap.size ≤ w4.heap.size) := by
          intro w4 hb
          exact ⟨⟨(hb.cell (p := ⟨w.heap.size, 0, none⟩) xl).trans x0, (hb.cell (p := ⟨w.heap.size, 1, none⟩) xl).trans x1, (hb.cell (p := ⟨w.heap.size, 2, none⟩) xl).trans x2, (hb.cell (p := ⟨w.heap.size, 3, none⟩) xl).trans x3, (hb.cell (p := ⟨bs, j, none⟩) hbb).trans s1⟩, DkRow.below (w := wr.drew) hres hb, hbel.trans (Below.mono ((Below.refl _ _).drew.trans hb) (by show w.heap.size ≤ wr.heap.size; omega)), hb.size⟩
        clear hrow hra hrp hrx s2 s3 hres hbel y0 y1 y2 y3 yf HW
        go_region_held3 (fun w' => w'.cell? ⟨w.heap.size, 0, none⟩ = some (.slice ak n ck) ∧ w'.cell? ⟨w.heap.size, 1, none⟩ = some (.slice pk t2.m qk) ∧ w'.cell? ⟨w.heap.size, 2, none⟩ = some (.int .i64 t2.fuel) ∧ w'.cell? ⟨w.heap.size, 3, none⟩ = some (.bool t2.dead) ∧ w'.cell? ⟨bs, j, none⟩ = some (.slice adj 64 cpj)) (go_keep)
          (first
          | (go_at_call 48; refine (specW_st t2 ak pk adj n ck qk cpj (at_ + (j : Int)) (G j) wr.drew HRA.out.1 HRA.out.2.1 HRA.out.2.2 HT2.out (by omega) (by omega)).mono ?_; rintro e w7 ⟨a7, c7, p7, q7, A7, rfl, ho7, hb7⟩; obtain ⟨⟨u0, u1, u2, u3, u4⟩, -, -, z7⟩ := HC.out w7 hb7)
          | (go_at_call 49; refine (specY_sq (t2.write (at_ + (j : Int)) (G j)) a7 p7 n c7 q7 w7 ho7.data.rd ho7.cache.rd HT3.out ⟨_, HLV.out⟩).mono ?_; rintro e w9 ⟨a9, c9, p9, q9, A9, rfl, ho9, hb9⟩; obtain ⟨⟨u0, u1, u2, u3, u4⟩, R9, F9, z9⟩ := HC.out w9 (hb7.trans (hb9.mono z7)); obtain ⟨v0, v1, v2, v3, vf, vl⟩ := R9.cells))
        have HX : Hid (OwnQ w9 (w.heap.size + 2) a9 n c9 (t.recd at_ G j).d p9 (t.recd at_ G j).m q9 (t.recd at_ G j).S (t.recd at_ G j).L (t.recd at_ G j).F A9 ∧ Below w.heap.size w w9) := ⟨by rw [HREC.out]; exact ho9.mono (by omega), F9⟩
        have hne1 : ¬ (w.heap.size + 1 = w.heap.size) := by omega
        clear ho9 ho7 hb9 hb7 R9 F9 u0 u1 u2 u3 u4 x0 x1 x2 x3 xf s1 HC HRA
        rw [← HREC.out]
        go_wp2
        refine bodyPost_ret (v := .agg #[.slice a9 n c9, .slice p9 (t.recd at_ G j).m q9, .int .i64 (t.recd at_ G j).fuel, .bool (t.recd at_ G j).dead]) (by simp [results, Try.results17, go_sem, v0, v1, v2, v3]) rfl ⟨a9, c9, p9, q9, A9, rfl, ?_, ?_⟩
        · exact ((((HX.out.1.setOther (by simp) _).setOther (by simp) _).setOther (by simp) _).setOther (by simp) _).mono (by omega)
        · exact (((HX.out.2.setCell (by simp; try omega) _).setCell (by simp; try omega) _).setCell (by simp; try omega) _).setCell (by simp; try omega) _
end Go.Proofs.Ytlcamfkgkcjehaa

namespace Go.Proofs.Ytlcamfkgkcjehaa
open Go.RowKit Go.Deep Go.Proofs
set_option linter.unusedVariables false
set_option maxRecDepth 100000

theorem OwnB.grownPend {w w' : World} {B B2 n m : Nat} {a : Option Addr} {f : Nat → Int} {v : Value} {xs : List Value} (h : OwnB w B a n f) (hr : w.ownsRow B2 49 2 v m xs) (hg : w.grownBy w' v.ownBlock) : OwnB w' B a n f := by
  rcases h with h0 | ⟨g, rfl, hg', hr'⟩
  · exact Or.inl h0
  · refine Or.inr ⟨g, rfl, hg', hr'.of_block (hg.block g hr'.lt (fun e => ?_))⟩
    rcases hr.2 with ⟨hv, _⟩ | ⟨g2, cap, cur, hv, _, hh, _⟩
    · rw [hv] at e; simp [Value.ownBlock] at e
    · rw [hv] at e
      simp [Value.ownBlock] at e
      subst e
      obtain ⟨c', hc', _⟩ := hr'
      rw [hh] at hc'
      injection hc' with e1
      injection e1 with _ e2 _
      revert e2
      decide

theorem rdDk_of {W : World} {B nn c' m q : Nat} {a p : Option Addr} {d S : Nat → Int} {L : Nat → Nat} {F : Nat → Nat → Int} {A : Nat → Option Addr} {C : Nat → Nat} (hd : OwnB W B a nn d) (hcap : nn ≤ c' ∧ c' ≤ 9223372036854775807) (hG : Gath W B (.slice p m q) m S L F A C) (hn : nn ≤ 1048576) (hm : m ≤ 4000) (hL : ∀ i, i < m → L i ≤ 1048576) (fuel : Int) (dead : Bool) (hrg : ∀ j, 0 ≤ d j ∧ d j < 256) : RdDk W B (.agg #[.slice a nn c', .slice p m q, .int .i64 fuel, .bool dead]) :=
  ⟨a, p, nn, c', m, q, d, S, L, F, fuel, dead, rfl, hd.rdB, hG.rdPB, hn, hcap.1, hcap.2, hm, hL, hrg⟩

/-- The cache grown by one. -/
theorem sp_grow {w W w2 w5 : World} {B g n c m q l c2 nn : Nat} {b a p a2 : Option Addr} {f d S f2 : Nat → Int} {L : Nat → Nat} {F : Nat → Nat → Int} {A : Nat → Option Addr} {C : Nat → Nat} {v0 v' : Value} {fuel s : Int} {dead : Bool}
    (hs : SpSt w W B g b n c f v0 (.slice p m q) fuel dead) (hB : B ≤ w.heap.size) (ho : OwnB W B a nn d) (hG : Gath W B (.slice p m q) m S L F A C) (hs2 : SpSt w w2 B g b n c f v0 (.slice p m q) fuel dead) (hb : Below W.heap.size W w2) (hn : OwnB w2 W.heap.size a2 l f2)
    (hr : w5.ownsRow B 49 2 v' (m + 1) (pendRow S A L C m ++ [.int .i64 s, .slice a2 l c2])) (hg : (w2.alloc (.cells #[.int .i64 s, .slice a2 l c2] 49)).grownBy w5 (Value.slice p m q).ownBlock) :
    SpSt w w5 B g b n c f v0 (.slice p m q) fuel dead ∧ OwnB w5 B a nn d ∧ Gath w5 B v' (m + 1) (fun i => if i = m then s else S i) (fun i => if i = m then l else L i) (fun i => if i = m then f2 else F i) (fun i => if i = m then a2 else A i) (fun i => if i = m then c2 else C i) := by
  have h1 := rowIn.lt hs.res
  have hbw : Below W.heap.size W (w2.alloc (.cells #[.int .i64 s, .slice a2 l c2] 49)) := hb.trans ((below_alloc _ _).mono hb.size)
  have s1 := hs2.below hB (below_alloc w2 (.cells #[.int .i64 s, .slice a2 l c2] 49))
  have g1 : Gath (w2.alloc (.cells #[.int .i64 s, .slice a2 l c2] 49)) B (.slice p m q) m S L F A C := hG.below hbw
  refine ⟨s1.grow hB hg (fun k e => ⟨(g1.row.lt k e).1, fun e2 => ?_, fun e2 => ?_⟩) (owns_cells g1.row), ((ho.below hbw).grownPend g1.row hg), ?_⟩
  · subst e2; exact g1.notDk s1.box e
  · subst e2; exact g1.notDk s1.res e
  · have g2 : Gath W B (.slice p m q) m (fun i => if i = m then s else S i) (fun i => if i = m then l else L i) (fun i => if i = m then f2 else F i) A C := hG.congr (fun i hi => by simp only [if_neg (Nat.ne_of_lt hi)]) (fun i hi => by simp only [if_neg (Nat.ne_of_lt hi)]) (fun i hi => by simp only [if_neg (Nat.ne_of_lt hi)])
    refine g2.more (by omega) hbw a2 c2 (by simpa using hn.below (below_alloc _ _)) ?_ hg
    have e : pendRow (fun i => if i = m then s else S i) A (fun i => if i = m then l else L i) C m = pendRow S A L C m := by
      unfold pendRow
      refine List.map_congr_left (fun x hx => ?_)
      have hx2 := List.mem_range.1 hx
      unfold pendCell
      simp only [if_neg (show x / 2 ≠ m by omega)]
    rw [e]
    simpa using hr

/-- The cells of the box, and that they can be written. -/
theorem SpSt.six {w W : World} {B g : Nat} {b : Option Addr} {n c : Nat} {f : Nat → Int} {v0 v1 : Value} {fuel : Int} {dead : Bool} (h : SpSt w W B g b n c f v0 v1 fuel dead) : W.cell? ⟨w.heap.size, 0, none⟩ = some v0 ∧ W.cell? ⟨w.heap.size, 1, none⟩ = some v1 ∧ W.cell? ⟨w.heap.size, 2, none⟩ = some (.int .i64 fuel) ∧ W.cell? ⟨w.heap.size, 3, none⟩ = some (.bool dead) ∧ (∀ o, W.frozen? ⟨w.heap.size, o, none⟩ = false) ∧ w.heap.size < W.heap.size := h.box.cells

set_option maxHeartbeats 4000000 in
theorem l1Spoil_any (B g : Nat) (b : Option Addr) (n c : Nat) (f : Nat → Int) (a p : Option Addr) (nn c' m q : Nat) (d S : Nat → Int) (L : Nat → Nat) (F : Nat → Nat → Int) (A : Nat → Option Addr) (fuel : Int) (dead : Bool) (w : World) (hcur : DrwL w B g b n c f) (ho : OwnQ w B a nn c' d p m q S L F A) (hB : B ≤ w.heap.size) (h1 : 1024 ≤ nn) (h2 : nn ≤ 1048576) (hm : m ≤ 2000) (hL : ∀ i, i < m → L i ≤ 1048576) (hrg : ∀ j, 0 ≤ d j ∧ d j < 256) :
    Calls Try.prog 42 #[.pointer (some ⟨g, 0, none⟩), .agg #[.slice a nn c', .slice p m q, .int .i64 fuel, .bool dead]] w (RetSp w B g b n c f) := by
  have HRG : Hid (∀ j, 0 ≤ d j ∧ d j < 256) := hrg
  clear hrg
  have HLL : Hid (∀ i, i < m → L i ≤ 1048576) := hL
  have S0 : Hid (SpSt w ((w.alloc (.cells #[.slice a nn c', .slice p m q, .int .i64 fuel, .bool dead] 25)).alloc (.cells #[.slice none 0 0, .slice none 0 0, .int .i64 0, .bool false] 25)) B g b n c f (.slice a nn c') (.slice p m q) fuel dead) := by
    refine ⟨(rowInNew w _ _ _ _).below (below_alloc _ _), ?_, hcur.below ((below_alloc2 w _ _).mono hB), ⟨BelC.ofBelow (below_alloc2 w _ _) hB, fun k hk _ _ => (below_alloc2 w _ _).block k hk⟩⟩
    have h := rowInNew (w.alloc (.cells #[.slice a nn c', .slice p m q, .int .i64 fuel, .bool dead] 25)) (.slice none 0 0) (.slice none 0 0) 0 false
    rw [show (w.alloc (.cells #[.slice a nn c', .slice p m q, .int .i64 fuel, .bool dead] 25)).heap.size = w.heap.size + 1 by simp] at h
    exact h
  have O0 : Hid (OwnQ ((w.alloc (.cells #[.slice a nn c', .slice p m q, .int .i64 fuel, .bool dead] 25)).alloc (.cells #[.slice none 0 0, .slice none 0 0, .int .i64 0, .bool false] 25)) B a nn c' d p m q S L F A) := ho.below (below_alloc2 w _ _)
  have hgB : g < B := hcur.cur
  have hcc := ho.caps
  clear hL hcur ho
  go_enter Try.func42, Try.ntmps42
  go_wp2_with fail
  generalize ((w.alloc (.cells #[.slice a nn c', .slice p m q, .int .i64 fuel, .bool dead] 25)).alloc (.cells #[.slice none 0 0, .slice none 0 0, .int .i64 0, .bool false] 25)) = W0 at S0 O0 ⊢
  refine (l1Below_any g b n c f 6 W0 S0.out.cur.drw (by omega) (by omega)).mono ?_
  rintro e w1 ⟨x, rfl, x0, x1, hd1, ho1⟩
  have S1 : Hid (SpSt w w1 B g b n c f (.slice a nn c') (.slice p m q) fuel dead) := S0.out.cur' hB ho1 hd1
  have O1 : Hid (OwnQ w1 B a nn c' d p m q S L F A) := O0.out.belC hgB (BelC.ofOnly ho1)
  clear hd1 ho1 S0 O0
  have hx : x = 0 ∨ x = 1 ∨ x = 2 ∨ x = 3 ∨ x = 4 ∨ x = 5 := by omega
  clear x0 x1
  rcases hx with rfl | rfl | rfl | rfl | rfl | rfl
  · obtain ⟨ga, rfl⟩ : ∃ ga, a = some ⟨ga, 0, none⟩ := by
      rcases O1.out.data with h | ⟨ga, e, _⟩
      · omega
      · exact ⟨ga, e⟩
    have i1n : (1 : Int) ≤ (nn : Int) := by omega
    have ic1 : ¬ (c' = 1) := by omega
    obtain ⟨y0, y1, y2, y3, yf, yl⟩ := S1.out.box.cells
    go_upto_region 14 with fail
    have S9 : Hid (SpSt w (w1.setCell ⟨w.heap.size, 0, none⟩ (.slice (some ⟨ga, 1, none⟩) (nn - 1) (c' - 1))) B g b n c f (.slice (some ⟨ga, 1, none⟩) (nn - 1) (c' - 1)) (.slice p m q) fuel dead) := S1.out.setAt hB 0 _ (dk_set0 S1.out.box _)
    have O9 : Hid (OwnQ (w1.setCell ⟨w.heap.size, 0, none⟩ (.slice (some ⟨ga, 1, none⟩) (nn - 1) (c' - 1))) B (some ⟨ga, 0, none⟩) nn c' d p m q S L F A) := O1.out.onlyDk S1.out.box ((OnlyAt.refl _ _).setCell 0 _)
    generalize (w1.setCell ⟨w.heap.size, 0, none⟩ (.slice (some ⟨ga, 1, none⟩) (nn - 1) (c' - 1))) = W9 at S9 O9 ⊢
    clear y0 y1 y2 y3 yf yl S1 O1

    obtain ⟨y0, y1, y2, y3, yf, yl⟩ := S9.out.box.cells
    obtain ⟨r0, r1, r2, r3, rf, rl⟩ := S9.out.res.cells
    go_wp2
    refine bodyPost_ret (v := .agg #[.slice (some ⟨ga, 1, none⟩) (nn - 1) (c' - 1), .slice p m q, .int .i64 fuel, .bool dead]) (by simp [results, Try.results42, go_sem, r0, r1, r2, r3]) rfl ⟨_, rfl, ?_, ?_, ?_⟩
    · exact OwnQ.rdTail (O9.out.onlyDk S9.out.res (S9.out.fin hB).2.2) (by omega) h2 (by omega) HLL.out fuel dead HRG.out
    · exact (S9.out.fin hB).1
    · exact (S9.out.fin hB).2.1
  · obtain ⟨y0, y1, y2, y3, yf, yl⟩ := S1.out.box.cells
    go_upto_region 14 with fail
    have S9 : Hid (SpSt w (w1.setCell ⟨w.heap.size, 2, none⟩ (.int .i64 (-2))) B g b n c f (.slice a nn c') (.slice p m q) (-2) dead) := S1.out.setAt hB 2 _ (dk_set2 S1.out.box _)
    have O9 : Hid (OwnQ (w1.setCell ⟨w.heap.size, 2, none⟩ (.int .i64 (-2))) B a nn c' d p m q S L F A) := O1.out.onlyDk S1.out.box ((OnlyAt.refl _ _).setCell 2 _)
    generalize (w1.setCell ⟨w.heap.size, 2, none⟩ (.int .i64 (-2))) = W9 at S9 O9 ⊢
    clear y0 y1 y2 y3 yf yl S1 O1

    obtain ⟨y0, y1, y2, y3, yf, yl⟩ := S9.out.box.cells
    obtain ⟨r0, r1, r2, r3, rf, rl⟩ := S9.out.res.cells
    go_wp2
    refine bodyPost_ret (v := .agg #[.slice a nn c', .slice p m q, .int .i64 (-2), .bool dead]) (by simp [results, Try.results42, go_sem, r0, r1, r2, r3]) rfl ⟨_, rfl, ?_, ?_, ?_⟩
    · exact OwnQ.rdDk (O9.out.onlyDk S9.out.res (S9.out.fin hB).2.2) h2 (by omega) HLL.out _ _ HRG.out
    · exact (S9.out.fin hB).1
    · exact (S9.out.fin hB).2.1
  · go_wp2_with fail
    refine (l1Below_any g b n c f 2 w1 S1.out.cur.drw (by omega) (by omega)).mono ?_
    rintro e w2 ⟨x2, rfl, x20, x21, hd2, ho2⟩
    have S2 : Hid (SpSt w w2 B g b n c f (.slice a nn c') (.slice p m q) fuel dead) := S1.out.cur' hB ho2 hd2
    have O2 : Hid (OwnQ w2 B a nn c' d p m q S L F A) := O1.out.belC hgB (BelC.ofOnly ho2)
    clear hd2 ho2 S1 O1
    have wx : IntKind.i64.wrap (1000000 + x2) = 1000000 + x2 := by rw [IntKind.wrap_i64]; omega
    obtain ⟨y0, y1, y2, y3, yf, yl⟩ := S2.out.box.cells
    go_upto_region 14 with fail
    have S9 : Hid (SpSt w (w2.setCell ⟨w.heap.size, 2, none⟩ (.int .i64 (1000000 + x2))) B g b n c f (.slice a nn c') (.slice p m q) (1000000 + x2) dead) := S2.out.setAt hB 2 _ (dk_set2 S2.out.box _)
    have O9 : Hid (OwnQ (w2.setCell ⟨w.heap.size, 2, none⟩ (.int .i64 (1000000 + x2))) B a nn c' d p m q S L F A) := O2.out.onlyDk S2.out.box ((OnlyAt.refl _ _).setCell 2 _)
    generalize (w2.setCell ⟨w.heap.size, 2, none⟩ (.int .i64 (1000000 + x2))) = W9 at S9 O9 ⊢
    clear y0 y1 y2 y3 yf yl S2 O2

    obtain ⟨y0, y1, y2, y3, yf, yl⟩ := S9.out.box.cells
    obtain ⟨r0, r1, r2, r3, rf, rl⟩ := S9.out.res.cells
    go_wp2
    refine bodyPost_ret (v := .agg #[.slice a nn c', .slice p m q, .int .i64 (1000000 + x2), .bool dead]) (by simp [results, Try.results42, go_sem, r0, r1, r2, r3]) rfl ⟨_, rfl, ?_, ?_, ?_⟩
    · exact OwnQ.rdDk (O9.out.onlyDk S9.out.res (S9.out.fin hB).2.2) h2 (by omega) HLL.out _ _ HRG.out
    · exact (S9.out.fin hB).1
    · exact (S9.out.fin hB).2.1
  · obtain ⟨CC, hG1⟩ := O1.out.cache
    have HG1 : Hid (Gath w1 B (.slice p m q) m S L F A CC) := hG1
    have OD : Hid (OwnB w1 B a nn d) := O1.out.data
    clear hG1
    have hm2 : m ≤ 1048576 := by omega
    have hBW : B ≤ w1.heap.size := by have := rowIn.lt S1.out.res; omega
    have HA : Hid (∀ wa : World, Below w1.drew.heap.size w1.drew wa → SpSt w wa B g b n c f (.slice a nn c') (.slice p m q) fuel dead) := fun wa hb => S1.out.below hB ((Below.refl _ _).drew.trans hb)
    have HB : Hid (∀ wa wb : World, Below w1.drew.heap.size w1.drew wa → Drw wb g b n c f → OnlyAt (some ⟨g, 0, none⟩) wa wb → SpSt w wb B g b n c f (.slice a nn c') (.slice p m q) fuel dead ∧ OwnB wb B a nn d ∧ Gath wb B (.slice p m q) m S L F A CC ∧ B ≤ wb.heap.size) := by
      intro wa wb hba hd ho
      have hw : Below w1.heap.size w1 wa := (Below.refl _ _).drew.trans hba
      have hz := hw.size
      exact ⟨(S1.out.below hB hw).cur' hB ho hd, (OD.out.below hw).belC hgB (BelC.ofOnly ho), gath_keep (HG1.out.below hw) (fun k hk hl _ => ho.block k (fun x e => by injection e with e; subst e; show g ≠ k; omega)), by rw [ho.size]; omega⟩
    obtain ⟨y0, y1, y2, y3, yf, yl⟩ := S1.out.box.cells
    go_upto_region 9 with fail
    refine wp_region_late (S := (fun w' => w'.cell? ⟨w.heap.size, 0, none⟩ = some (.slice a nn c') ∧ w'.cell? ⟨w.heap.size, 1, none⟩ = some (.slice p m q) ∧ w'.cell? ⟨w.heap.size, 2, none⟩ = some (.int .i64 fuel) ∧ w'.cell? ⟨w.heap.size, 3, none⟩ = some (.bool dead))) 12 (by kernel_rfl) ?_ (fun hHeld => ?_)
    · ((try dsimp only); go_keep)
    refine late_take 0 .zero (v := ?_) (by kernel_rfl) (by kernel_rfl) (by kernel_rfl) (by kernel_rfl) (fun _ _ _ h => h) (by rfl) ?_ (by assumption) ?_
    rotate_left
    · (intro w hSw; (try dsimp only at hSw); go_simp) <;> with_reducible rfl
    simp only [Act.put, List.setIfInBounds_toArray, List.set_cons_zero, List.set_cons_succ]
    refine late_take 1 (.succ .zero) (v := ?_) (by kernel_rfl) (by kernel_rfl) (by kernel_rfl) (by kernel_rfl) (fun _ _ _ h => h) (by rfl) ?_ (by assumption) ?_
    rotate_left
    · (intro w hSw; (try dsimp only at hSw); go_simp) <;> with_reducible rfl
    simp only [Act.put, List.setIfInBounds_toArray, List.set_cons_zero, List.set_cons_succ]
    refine late_take 2 (.succ (.succ .zero)) (v := ?_) (by kernel_rfl) (by kernel_rfl) (by kernel_rfl) (by kernel_rfl) (fun _ _ _ h => h) (by rfl) ?_ (by assumption) ?_
    rotate_left
    · (intro w hSw; (try dsimp only at hSw); go_simp) <;> with_reducible rfl
    simp only [Act.put, List.setIfInBounds_toArray, List.set_cons_zero, List.set_cons_succ]
    refine late_take 4 (.succ (.succ (.succ (.succ .zero)))) (v := ?_) (by kernel_rfl) (by kernel_rfl) (by kernel_rfl) (by kernel_rfl) (fun _ _ _ h => h) (by rfl) ?_ (by assumption) ?_
    rotate_left
    · (intro w hSw; (try dsimp only at hSw); go_simp) <;> with_reducible rfl
    simp only [Act.put, List.setIfInBounds_toArray, List.set_cons_zero, List.set_cons_succ]
    refine late_one 3 (.succ (.succ (.succ .zero))) (by kernel_rfl) (fun K hK => ?_)
    (refine step_t rfl _ _ _ rfl (.agg #[.slice a nn c', .slice p m q, .int .i64 fuel, .bool dead]) (by rfl) (enters_of Try.func24 (by kernel_rfl) rfl) ?_; refine (l1Sectors_any a p nn c' m q fuel dead w1.drew h2).mono ?_; rintro e wa ⟨rfl, hba⟩; refine ⟨_, rfl, ?_⟩; have Sa := HA.out wa hba; obtain ⟨y0, y1, y2, y3, yf, yl⟩ := Sa.six)
    refine hK.out _ _ ?_ (fun hHeld2 => ?_)
    · (intro _; (try dsimp only); go_keep)
    clear hK K
    replace hHeld := hHeld2 (by decide)
    clear hHeld2
    try simp only [Act.put, List.setIfInBounds_toArray, List.set_cons_zero, List.set_cons_succ]
    refine late_one 5 (.succ (.succ (.succ (.succ (.succ .zero))))) (by kernel_rfl) (fun K hK => ?_)
    (refine step_tc rfl _ _ _ _ rfl (.pointer (some ⟨g, 0, none⟩)) (by rfl) (enters_of Try.func36 (by kernel_rfl) rfl) ?_; refine (l1Below_any g b n c f 2 wa Sa.cur.drw (by omega) (by omega)).mono ?_; rintro e wb ⟨x2, rfl, x20, x21, hd2, ho2⟩; refine ⟨_, rfl, ?_⟩; obtain ⟨Sb, ODb, HGb, hBWb⟩ := HB.out wa wb hba hd2 ho2; have ws : IntKind.i64.wrap ((nn : Int) / 64 - x2) = (nn : Int) / 64 - x2 := (by rw [IntKind.wrap_i64]; omega); obtain ⟨y0, y1, y2, y3, yf, yl⟩ := Sb.six)
    refine hK.out _ _ ?_ (fun hHeld2 => ?_)
    · (intro _; (try dsimp only); go_keep)
    clear hK K
    replace hHeld := hHeld2 (by decide)
    clear hHeld2
    try simp only [Act.put, List.setIfInBounds_toArray, List.set_cons_zero, List.set_cons_succ]
    refine late_take 6 (.succ (.succ (.succ (.succ (.succ (.succ .zero)))))) (v := ?_) (by kernel_rfl) (by kernel_rfl) (by kernel_rfl) (by kernel_rfl) (fun _ _ _ h => h) (by rfl) ?_ (by assumption) ?_
    rotate_left
    · (intro w hSw; (try dsimp only at hSw); go_simp) <;> with_reducible rfl
    simp only [Act.put, List.setIfInBounds_toArray, List.set_cons_zero, List.set_cons_succ]
    refine late_one 7 (.succ (.succ (.succ (.succ (.succ (.succ (.succ .zero))))))) (by kernel_rfl) (fun K hK => ?_)
    (refine step_c rfl _ _ _ rfl (enters_of Try.func41 (by kernel_rfl) rfl) ?_; refine (zeros_cat 64 64 wb (by rfl) (by omega)).mono ?_; rintro e w3 ⟨a3, c3, rfl, ho3, hb3, -⟩; refine ⟨_, rfl, ?_⟩; have S3 := Sb.below hB hb3; obtain ⟨y0, y1, y2, y3, yf, yl⟩ := S3.six)
    refine hK.out _ _ ?_ (fun hHeld2 => ?_)
    · (intro _; (try dsimp only); go_keep)
    clear hK K
    replace hHeld := hHeld2 (by decide)
    clear hHeld2
    try simp only [Act.put, List.setIfInBounds_toArray, List.set_cons_zero, List.set_cons_succ]
    refine late_take 8 (.succ (.succ (.succ (.succ (.succ (.succ (.succ (.succ .zero)))))))) (v := ?_) (by kernel_rfl) (by kernel_rfl) (by kernel_rfl) (by kernel_rfl) (fun _ _ _ h => h) (by rfl) ?_ (by assumption) ?_
    rotate_left
    · (intro w hSw; (try dsimp only at hSw); go_simp) <;> with_reducible rfl
    simp only [Act.put, List.setIfInBounds_toArray, List.set_cons_zero, List.set_cons_succ]
    refine late_one 9 (.succ (.succ (.succ (.succ (.succ (.succ (.succ (.succ (.succ .zero))))))))) (by kernel_rfl) (fun K hK => ?_)
    go_simp
    refine hK.out _ _ ?_ (fun hHeld2 => ?_)
    · (intro _; (try dsimp only); go_keep)
    clear hK K
    replace hHeld := hHeld2 (by decide)
    clear hHeld2
    try simp only [Act.put, List.setIfInBounds_toArray, List.set_cons_zero, List.set_cons_succ]
    refine late_one 10 (.succ (.succ (.succ (.succ (.succ (.succ (.succ (.succ (.succ (.succ .zero)))))))))) (by kernel_rfl) (fun K hK => ?_)
    (refine step_append_made (by rfl) (.tmp 26) (.tmp 34) (by rfl) B m (.slice p m q) (pendRow S A L CC m) ((nn : Int) / 64 - x2) a3 64 c3 (by rfl) (owns_below HGb.row hb3) (by rfl) hm2 (Nat.le_trans hBWb hb3.size) ?_; intro v5 w5 hr5 hg5; obtain ⟨p5, q5, hv5⟩ := owns_shape hr5; subst hv5; obtain ⟨S5, O5, G5⟩ := sp_grow Sb hB ODb HGb S3 hb3 ho3 hr5 hg5; obtain ⟨y0, y1, y2, y3, yf, yl⟩ := S5.six)
    refine hK.out _ _ ?_ (fun hHeld2 => ?_)
    · (intro _; (try dsimp only); go_keep)
    clear hK K
    replace hHeld := hHeld2 (by decide)
    clear hHeld2
    try simp only [Act.put, List.setIfInBounds_toArray, List.set_cons_zero, List.set_cons_succ]
    refine late_take 11 (.succ (.succ (.succ (.succ (.succ (.succ (.succ (.succ (.succ (.succ (.succ .zero))))))))))) (v := ?_) (by kernel_rfl) (by kernel_rfl) (by kernel_rfl) (by kernel_rfl) (fun _ _ _ h => h) (by rfl) ?_ (by assumption) ?_
    rotate_left
    · (intro w hSw; (try dsimp only at hSw); go_simp) <;> with_reducible rfl
    simp only [Act.put, List.setIfInBounds_toArray, List.set_cons_zero, List.set_cons_succ]
    refine late_one 12 (.succ (.succ (.succ (.succ (.succ (.succ (.succ (.succ (.succ (.succ (.succ (.succ .zero)))))))))))) (by kernel_rfl) (fun K hK => ?_)
    go_simp
    refine hK.out _ _ ?_ (fun hHeld2 => ?_)
    · (intro hne; exact absurd rfl hne)
    clear hK K hHeld2
    refine wpLate_done (by kernel_rfl) ?_ _
    have S9 : Hid (SpSt w (w5.setCell ⟨w.heap.size, 1, none⟩ (.slice p5 (m + 1) q5)) B g b n c f (.slice a nn c') (.slice p5 (m + 1) q5) fuel dead) := S5.setAt hB 1 _ (S5.box.setCache _)
    have O9 : Hid (OwnB (w5.setCell ⟨w.heap.size, 1, none⟩ (.slice p5 (m + 1) q5)) B a nn d) := O5.onlyDk S5.box ((OnlyAt.refl _ _).setCell 1 _)
    have G9 : Hid (Gath (w5.setCell ⟨w.heap.size, 1, none⟩ (.slice p5 (m + 1) q5)) B (.slice p5 (m + 1) q5) (m + 1) (fun i => if i = m then ((nn : Int) / 64 - x2) else S i) (fun i => if i = m then 64 else L i) (fun i => if i = m then (fun _ => 0) else F i) (fun i => if i = m then a3 else A i) (fun i => if i = m then c3 else CC i)) := G5.onlyDk S5.box ((OnlyAt.refl _ _).setCell 1 _)
    generalize (w5.setCell ⟨w.heap.size, 1, none⟩ (.slice p5 (m + 1) q5)) = W9 at S9 O9 G9 ⊢
    clear y0 y1 y2 y3 yf yl S1 O1 S5 O5 G5 HG1 OD hr5 hg5 S3 hb3 ho3 Sa Sb ODb HGb hd2 ho2 hba HA HB

    obtain ⟨y0, y1, y2, y3, yf, yl⟩ := S9.out.box.cells
    obtain ⟨r0, r1, r2, r3, rf, rl⟩ := S9.out.res.cells
    go_wp2
    refine bodyPost_ret (v := .agg #[.slice a nn c', .slice p5 (m + 1) q5, .int .i64 fuel, .bool dead]) (by simp [results, Try.results42, go_sem, r0, r1, r2, r3]) rfl ⟨_, rfl, ?_, ?_, ?_⟩
    · exact rdDk_of (O9.out.onlyDk S9.out.res (S9.out.fin hB).2.2) hcc (G9.out.onlyDk S9.out.res (S9.out.fin hB).2.2) h2 (by omega) (fun i hi => by by_cases e : i = m; (· rw [if_pos e]; omega); (· rw [if_neg e]; exact HLL.out i (by omega))) fuel dead HRG.out
    · exact (S9.out.fin hB).1
    · exact (S9.out.fin hB).2.1
  · obtain ⟨CC, hG1⟩ := O1.out.cache
    have HG1 : Hid (Gath w1 B (.slice p m q) m S L F A CC) := hG1
    have OD : Hid (OwnB w1 B a nn d) := O1.out.data
    clear hG1
    have hm2 : m ≤ 1048576 := by omega
    have hBW : B ≤ w1.heap.size := by have := rowIn.lt S1.out.res; omega
    have HT : Hid (∀ w3 : World, Below w1.drew.heap.size w1.drew w3 → Below w1.heap.size w1 w3) := fun w3 hb => (Below.refl _ _).drew.trans hb
    obtain ⟨y0, y1, y2, y3, yf, yl⟩ := S1.out.box.cells
    go_upto_region 11 with fail
    refine wp_region_late (S := (fun w' => w'.cell? ⟨w.heap.size, 0, none⟩ = some (.slice a nn c') ∧ w'.cell? ⟨w.heap.size, 1, none⟩ = some (.slice p m q) ∧ w'.cell? ⟨w.heap.size, 2, none⟩ = some (.int .i64 fuel) ∧ w'.cell? ⟨w.heap.size, 3, none⟩ = some (.bool dead))) 7 (by kernel_rfl) ?_ (fun hHeld => ?_)
    · ((try dsimp only); go_keep)
    refine late_take 0 .zero (v := ?_) (by kernel_rfl) (by kernel_rfl) (by kernel_rfl) (by kernel_rfl) (fun _ _ _ h => h) (by rfl) ?_ (by assumption) ?_
    rotate_left
    · (intro w hSw; (try dsimp only at hSw); go_simp) <;> with_reducible rfl
    simp only [Act.put, List.setIfInBounds_toArray, List.set_cons_zero, List.set_cons_succ]
    refine late_take 1 (.succ .zero) (v := ?_) (by kernel_rfl) (by kernel_rfl) (by kernel_rfl) (by kernel_rfl) (fun _ _ _ h => h) (by rfl) ?_ (by assumption) ?_
    rotate_left
    · (intro w hSw; (try dsimp only at hSw); go_simp) <;> with_reducible rfl
    simp only [Act.put, List.setIfInBounds_toArray, List.set_cons_zero, List.set_cons_succ]
    refine late_one 2 (.succ (.succ .zero)) (by kernel_rfl) (fun K hK => ?_)
    (refine step_c rfl _ _ _ rfl (enters_of Try.func41 (by kernel_rfl) rfl) ?_; refine (zeros_cat 63 63 w1.drew (by rfl) (by omega)).mono ?_; rintro e w3 ⟨a3, c3, rfl, ho3, hb3, -⟩; refine ⟨_, rfl, ?_⟩; have S3 := S1.out.below hB (HT.out w3 hb3); obtain ⟨y0, y1, y2, y3, yf, yl⟩ := S3.six)
    refine hK.out _ _ ?_ (fun hHeld2 => ?_)
    · (intro _; (try dsimp only); go_keep)
    clear hK K
    replace hHeld := hHeld2 (by decide)
    clear hHeld2
    try simp only [Act.put, List.setIfInBounds_toArray, List.set_cons_zero, List.set_cons_succ]
    refine late_take 3 (.succ (.succ (.succ .zero))) (v := ?_) (by kernel_rfl) (by kernel_rfl) (by kernel_rfl) (by kernel_rfl) (fun _ _ _ h => h) (by rfl) ?_ (by assumption) ?_
    rotate_left
    · (intro w hSw; (try dsimp only at hSw); go_simp) <;> with_reducible rfl
    simp only [Act.put, List.setIfInBounds_toArray, List.set_cons_zero, List.set_cons_succ]
    refine late_one 4 (.succ (.succ (.succ (.succ .zero)))) (by kernel_rfl) (fun K hK => ?_)
    go_simp
    refine hK.out _ _ ?_ (fun hHeld2 => ?_)
    · (intro _; (try dsimp only); go_keep)
    clear hK K
    replace hHeld := hHeld2 (by decide)
    clear hHeld2
    try simp only [Act.put, List.setIfInBounds_toArray, List.set_cons_zero, List.set_cons_succ]
    refine late_one 5 (.succ (.succ (.succ (.succ (.succ .zero))))) (by kernel_rfl) (fun K hK => ?_)
    (refine step_append_made (by rfl) (.tmp 40) (.tmp 43) (by rfl) B m (.slice p m q) (pendRow S A L CC m) 1 a3 63 c3 (by rfl) (owns_below HG1.out.row (HT.out w3 hb3)) (by rfl) hm2 (Nat.le_trans hBW (HT.out w3 hb3).size) ?_; intro v5 w5 hr5 hg5; obtain ⟨p5, q5, hv5⟩ := owns_shape hr5; subst hv5; obtain ⟨S5, O5, G5⟩ := sp_grow S1.out hB OD.out HG1.out S3 (HT.out w3 hb3) ho3 hr5 hg5; obtain ⟨y0, y1, y2, y3, yf, yl⟩ := S5.six)
    refine hK.out _ _ ?_ (fun hHeld2 => ?_)
    · (intro _; (try dsimp only); go_keep)
    clear hK K
    replace hHeld := hHeld2 (by decide)
    clear hHeld2
    try simp only [Act.put, List.setIfInBounds_toArray, List.set_cons_zero, List.set_cons_succ]
    refine late_take 6 (.succ (.succ (.succ (.succ (.succ (.succ .zero)))))) (v := ?_) (by kernel_rfl) (by kernel_rfl) (by kernel_rfl) (by kernel_rfl) (fun _ _ _ h => h) (by rfl) ?_ (by assumption) ?_
    rotate_left
    · (intro w hSw; (try dsimp only at hSw); go_simp) <;> with_reducible rfl
    simp only [Act.put, List.setIfInBounds_toArray, List.set_cons_zero, List.set_cons_succ]
    refine late_one 7 (.succ (.succ (.succ (.succ (.succ (.succ (.succ .zero))))))) (by kernel_rfl) (fun K hK => ?_)
    go_simp
    refine hK.out _ _ ?_ (fun hHeld2 => ?_)
    · (intro hne; exact absurd rfl hne)
    clear hK K hHeld2
    refine wpLate_done (by kernel_rfl) ?_ _
    have S9 : Hid (SpSt w (w5.setCell ⟨w.heap.size, 1, none⟩ (.slice p5 (m + 1) q5)) B g b n c f (.slice a nn c') (.slice p5 (m + 1) q5) fuel dead) := S5.setAt hB 1 _ (S5.box.setCache _)
    have O9 : Hid (OwnB (w5.setCell ⟨w.heap.size, 1, none⟩ (.slice p5 (m + 1) q5)) B a nn d) := O5.onlyDk S5.box ((OnlyAt.refl _ _).setCell 1 _)
    have G9 : Hid (Gath (w5.setCell ⟨w.heap.size, 1, none⟩ (.slice p5 (m + 1) q5)) B (.slice p5 (m + 1) q5) (m + 1) (fun i => if i = m then 1 else S i) (fun i => if i = m then 63 else L i) (fun i => if i = m then (fun _ => 0) else F i) (fun i => if i = m then a3 else A i) (fun i => if i = m then c3 else CC i)) := G5.onlyDk S5.box ((OnlyAt.refl _ _).setCell 1 _)
    generalize (w5.setCell ⟨w.heap.size, 1, none⟩ (.slice p5 (m + 1) q5)) = W9 at S9 O9 G9 ⊢
    clear y0 y1 y2 y3 yf yl S1 O1 S5 O5 G5 HG1 OD hr5 hg5 S3 hb3 ho3

    obtain ⟨y0, y1, y2, y3, yf, yl⟩ := S9.out.box.cells
    obtain ⟨r0, r1, r2, r3, rf, rl⟩ := S9.out.res.cells
    go_wp2
    refine bodyPost_ret (v := .agg #[.slice a nn c', .slice p5 (m + 1) q5, .int .i64 fuel, .bool dead]) (by simp [results, Try.results42, go_sem, r0, r1, r2, r3]) rfl ⟨_, rfl, ?_, ?_, ?_⟩
    · exact rdDk_of (O9.out.onlyDk S9.out.res (S9.out.fin hB).2.2) hcc (G9.out.onlyDk S9.out.res (S9.out.fin hB).2.2) h2 (by omega) (fun i hi => by by_cases e : i = m; (· rw [if_pos e]; omega); (· rw [if_neg e]; exact HLL.out i (by omega))) fuel dead HRG.out
    · exact (S9.out.fin hB).1
    · exact (S9.out.fin hB).2.1
  · obtain ⟨ga, rfl⟩ : ∃ ga, a = some ⟨ga, 0, none⟩ := by
      rcases O1.out.data with h | ⟨ga, e, _⟩
      · omega
      · exact ⟨ga, e⟩
    have D1 : Hid (Drw w1.drew g b n c f) := S1.out.cur.drw.below (Below.refl _ _).drew
    have HC : Hid (∀ w2 : World, Drw w2 g b n c f → OnlyAt (some ⟨g, 0, none⟩) w1.drew w2 → ((w2.cell? ⟨w.heap.size, 0, none⟩ = some (.slice (some ⟨ga, 0, none⟩) nn c') ∧ w2.cell? ⟨w.heap.size, 1, none⟩ = some (.slice p m q) ∧ w2.cell? ⟨w.heap.size, 2, none⟩ = some (.int .i64 fuel) ∧ w2.cell? ⟨w.heap.size, 3, none⟩ = some (.bool dead) ∧ (∀ o, w2.frozen? ⟨w.heap.size, o, none⟩ = false) ∧ w.heap.size < w2.heap.size) ∧ SpSt w w2 B g b n c f (.slice (some ⟨ga, 0, none⟩) nn c') (.slice p m q) fuel dead ∧ OwnQ w2 B (some ⟨ga, 0, none⟩) nn c' d p m q S L F A)) := by
      intro w2 hd2 ho2
      have ho3 : OnlyAt (some ⟨g, 0, none⟩) w1 w2 := ⟨ho2.os, ho2.tape, ho2.output, ho2.size, ho2.block⟩
      have S2 := S1.out.cur' hB ho3 hd2
      exact ⟨S2.box.cells, S2, O1.out.belC hgB (BelC.ofOnly ho3)⟩
    obtain ⟨y0, y1, y2, y3, yf, yl⟩ := S1.out.box.cells
    go_upto_region 13 with fail
    refine wp_region_late (S := (fun w' => w'.cell? ⟨w.heap.size, 0, none⟩ = some (.slice (some ⟨ga, 0, none⟩) nn c') ∧ w'.cell? ⟨w.heap.size, 1, none⟩ = some (.slice p m q) ∧ w'.cell? ⟨w.heap.size, 2, none⟩ = some (.int .i64 fuel) ∧ w'.cell? ⟨w.heap.size, 3, none⟩ = some (.bool dead))) 8 (by kernel_rfl) ?_ (fun hHeld => ?_)
    · ((try dsimp only); go_keep)
    refine late_take 0 .zero (v := ?_) (by kernel_rfl) (by kernel_rfl) (by kernel_rfl) (by kernel_rfl) (fun _ _ _ h => h) (by rfl) ?_ (by assumption) ?_
    rotate_left
    · (intro w hSw; (try dsimp only at hSw); go_simp) <;> with_reducible rfl
    simp only [Act.put, List.setIfInBounds_toArray, List.set_cons_zero, List.set_cons_succ]
    refine late_take 1 (.succ .zero) (v := ?_) (by kernel_rfl) (by kernel_rfl) (by kernel_rfl) (by kernel_rfl) (fun _ _ _ h => h) (by rfl) ?_ (by assumption) ?_
    rotate_left
    · (intro w hSw; (try dsimp only at hSw); go_simp) <;> with_reducible rfl
    simp only [Act.put, List.setIfInBounds_toArray, List.set_cons_zero, List.set_cons_succ]
    refine late_take 2 (.succ (.succ .zero)) (v := ?_) (by kernel_rfl) (by kernel_rfl) (by kernel_rfl) (by kernel_rfl) (fun _ _ _ h => h) (by rfl) ?_ (by assumption) ?_
    rotate_left
    · (intro w hSw; (try dsimp only at hSw); go_simp) <;> with_reducible rfl
    simp only [Act.put, List.setIfInBounds_toArray, List.set_cons_zero, List.set_cons_succ]
    refine late_one 3 (.succ (.succ (.succ .zero))) (by kernel_rfl) (fun K hK => ?_)
    (refine step_tc rfl _ _ _ _ rfl (.pointer (some ⟨g, 0, none⟩)) (by rfl) (enters_of Try.func36 (by kernel_rfl) rfl) ?_; refine (l1Below_any g b n c f 2 w1.drew D1.out (by omega) (by omega)).mono ?_; rintro e w2 ⟨x2, rfl, x20, x21, hd2, ho2⟩; refine ⟨_, rfl, ?_⟩; obtain ⟨⟨y0, y1, y2, y3, yf, yl⟩, S2, O2⟩ := HC.out w2 hd2 ho2; have wx : IntKind.i64.wrap (16 - x2) = 16 - x2 := (by rw [IntKind.wrap_i64]; omega); obtain ⟨l, hl, hl2⟩ : ∃ l : Nat, IntKind.i64.wrap (64 * (16 - x2)) = (l : Int) ∧ l ≤ nn := ⟨(64 * (16 - x2)).toNat, by rw [IntKind.wrap_i64]; omega, by omega⟩; have il0 : (0 : Int) ≤ (l : Int) := (by omega); have ilc : (l : Int) ≤ (c' : Int) := (by omega))
    refine hK.out _ _ ?_ (fun hHeld2 => ?_)
    · (intro _; (try dsimp only); go_keep)
    clear hK K
    replace hHeld := hHeld2 (by decide)
    clear hHeld2
    try simp only [Act.put, List.setIfInBounds_toArray, List.set_cons_zero, List.set_cons_succ]
    refine late_take 4 (.succ (.succ (.succ (.succ .zero)))) (v := ?_) (by kernel_rfl) (by kernel_rfl) (by kernel_rfl) (by kernel_rfl) (fun _ _ _ h => h) (by rfl) ?_ (by assumption) ?_
    rotate_left
    · (intro w hSw; (try dsimp only at hSw); go_simp) <;> with_reducible rfl
    simp only [Act.put, List.setIfInBounds_toArray, List.set_cons_zero, List.set_cons_succ]
    refine late_take 5 (.succ (.succ (.succ (.succ (.succ .zero))))) (v := ?_) (by kernel_rfl) (by kernel_rfl) (by kernel_rfl) (by kernel_rfl) (fun _ _ _ h => h) (by rfl) ?_ (by assumption) ?_
    rotate_left
    · (intro w hSw; (try dsimp only at hSw); go_simp) <;> with_reducible rfl
    simp only [Act.put, List.setIfInBounds_toArray, List.set_cons_zero, List.set_cons_succ]
    refine late_take 6 (.succ (.succ (.succ (.succ (.succ (.succ .zero)))))) (v := ?_) (by kernel_rfl) (by kernel_rfl) (by kernel_rfl) (by kernel_rfl) (fun _ _ _ h => h) (by rfl) ?_ (by assumption) ?_
    rotate_left
    · (intro w hSw; (try dsimp only at hSw); go_simp) <;> with_reducible rfl
    simp only [Act.put, List.setIfInBounds_toArray, List.set_cons_zero, List.set_cons_succ]
    refine late_take 7 (.succ (.succ (.succ (.succ (.succ (.succ (.succ .zero))))))) (v := ?_) (by kernel_rfl) (by kernel_rfl) (by kernel_rfl) (by kernel_rfl) (fun _ _ _ h => h) (by rfl) ?_ (by assumption) ?_
    rotate_left
    · (intro w hSw; (try dsimp only at hSw); go_simp) <;> with_reducible rfl
    simp only [Act.put, List.setIfInBounds_toArray, List.set_cons_zero, List.set_cons_succ]
    refine late_one 8 (.succ (.succ (.succ (.succ (.succ (.succ (.succ (.succ .zero)))))))) (by kernel_rfl) (fun K hK => ?_)
    go_simp
    refine hK.out _ _ ?_ (fun hHeld2 => ?_)
    · (intro hne; exact absurd rfl hne)
    clear hK K hHeld2
    refine wpLate_done (by kernel_rfl) ?_ _

    have S9 : Hid (SpSt w (w2.setCell ⟨w.heap.size, 0, none⟩ (.slice (some ⟨ga, 0, none⟩) l c')) B g b n c f (.slice (some ⟨ga, 0, none⟩) l c') (.slice p m q) fuel dead) := S2.setAt hB 0 _ (dk_set0 S2.box _)
    have O9 : Hid (OwnQ (w2.setCell ⟨w.heap.size, 0, none⟩ (.slice (some ⟨ga, 0, none⟩) l c')) B (some ⟨ga, 0, none⟩) nn c' d p m q S L F A) := O2.onlyDk S2.box ((OnlyAt.refl _ _).setCell 0 _)
    generalize (w2.setCell ⟨w.heap.size, 0, none⟩ (.slice (some ⟨ga, 0, none⟩) l c')) = W9 at S9 O9 ⊢
    clear y0 y1 y2 y3 yf yl S1 O1 S2 O2 hd2 ho2 HC D1

    obtain ⟨y0, y1, y2, y3, yf, yl⟩ := S9.out.box.cells
    obtain ⟨r0, r1, r2, r3, rf, rl⟩ := S9.out.res.cells
    go_wp2
    refine bodyPost_ret (v := .agg #[.slice (some ⟨ga, 0, none⟩) l c', .slice p m q, .int .i64 fuel, .bool dead]) (by simp [results, Try.results42, go_sem, r0, r1, r2, r3]) rfl ⟨_, rfl, ?_, ?_, ?_⟩
    · exact OwnQ.rdCut (O9.out.onlyDk S9.out.res (S9.out.fin hB).2.2) h2 (by omega) HLL.out l hl2 fuel dead HRG.out
    · exact (S9.out.fin hB).1
    · exact (S9.out.fin hB).2.1
end Go.Proofs.Ytlcamfkgkcjehaa

namespace Go.Proofs.Ytlcamfkgkcjehaa
open Go.RowKit Go.Deep
set_option linter.unusedVariables false
set_option maxRecDepth 100000

/-- When a record is written at all (the disk being valid). -/
def Wr (nn M : Nat) (at_ sq : Int) : Prop := M ≤ 30000 ∧ numB sq = true ∧ 2 ≤ at_ ∧ at_ ≤ (nn : Int) / 64 - cntOf M
theorem rec_both {nn : Nat} {t : Stt} (h : t.ok nn) {M : Nat} (at_ sq : Int) (Fp : Nat → Int) (hM : M ≤ 30001) (hf : ∀ j, 0 ≤ Fp j ∧ Fp j < 256) :
    ∃ u : Stt, u.ok nn ∧ ((¬ Wr nn M at_ sq ∧ u = t) ∨ (Wr nn M at_ sq ∧ ∃ last, cntOf M = last + 1 ∧ u = t.recd at_ (secW M sq Fp) last)) ∧
      (∀ (W : World) (a p ad : Option Addr) (c q cp : Nat), M ≤ cp → cp ≤ 9223372036854775807 → Rd .u8 W a nn t.d → RdP W p t.m t.S t.L t.F → Rd .u8 W ad M Fp → Calls Try.prog 17 #[.agg #[.slice a nn c, .slice p t.m q, .int .i64 t.fuel, .bool t.dead], .int .i64 at_, .int .i64 sq, .slice ad M cp] W fun e w' => RetD W e w' nn u.d u.m u.S u.L u.F u.fuel u.dead) ∧
      (∀ (W : World) (a p ad : Option Addr) (c q cp : Nat), M ≤ cp → cp ≤ 9223372036854775807 → Rd .u8 W a nn t.d → RdP W p t.m t.S t.L t.F → Rd .u8 W ad M Fp → Calls Try.prog 18 #[.agg #[.slice a nn c, .slice p t.m q, .int .i64 t.fuel, .bool t.dead], .int .i64 at_, .int .i64 sq, .slice ad M cp] W fun e w' => RetD W e w' nn u.d u.m u.S u.L u.F u.fuel u.dead) := by
  obtain ⟨hn, hm, hL⟩ := stt_vd_lens (show VD nn t.m t.S t.L t.fuel from h)
  by_cases h3 : 30000 < M
  · refine ⟨t, h, .inl ⟨fun q => by have := q.1; omega, rfl⟩, fun W a p ad c q cp k1 k2 k3 k4 k5 => ?_, fun W a p ad c q cp k1 k2 k3 k4 k5 => ?_⟩
    · exact specRec_big a p ad nn c t.m q M cp t.d t.S t.L t.F t.fuel t.dead at_ sq W k3 k4 hn hm hL h3 (by omega)
    · exact implRec_big a p ad nn c t.m q M cp t.d t.S t.L t.F t.fuel t.dead at_ sq W k3 k4 hn hm hL h3 (by omega)
  by_cases hw : Wr nn M at_ sq
  · obtain ⟨last, hl⟩ : ∃ last, cntOf M = last + 1 := ⟨cntOf M - 1, by have := cntOf_pos M; omega⟩
    have hok : (t.recd at_ (secW M sq Fp) last).ok nn := by
      have hw3 := hw.2.2.1
      have hw4 := hw.2.2.2
      have q2 := Stt.ok.writes (G := secW M sq Fp) h last (at_ := at_) (by omega) (by omega)
      have q3 : (if 0 < last then (t.writes at_ (secW M sq Fp) last).sync else t.writes at_ (secW M sq Fp) last).ok nn := by
        split
        · exact q2.sync
        · exact q2
      exact (q3.write _ (by omega) (by omega)).sync
    refine ⟨_, hok, .inr ⟨hw, last, hl, rfl⟩, fun W a p ad c q cp k1 k2 k3 k4 k5 => ?_, fun W a p ad c q cp k1 k2 k3 k4 k5 => ?_⟩
    · exact specRec_good t a p ad nn c q M cp last Fp at_ sq W k3 k4 k5 (fun j _ => hf j) h (by omega) k1 k2 hl hw.2.1 hw.2.2.1 hw.2.2.2
    · exact implRec_good t a p ad nn c q M cp last Fp at_ sq W k3 k4 k5 (fun j _ => hf j) h (by omega) k1 k2 hl hw.2.1 hw.2.2.1 hw.2.2.2
  · have hbad : ¬ (VD nn t.m t.S t.L t.fuel ∧ numB sq = true ∧ 2 ≤ at_ ∧ at_ ≤ (nn : Int) / 64 - cntOf M) := fun q => hw ⟨by omega, q.2⟩
    refine ⟨t, h, .inl ⟨hw, rfl⟩, fun W a p ad c q cp k1 k2 k3 k4 k5 => ?_, fun W a p ad c q cp k1 k2 k3 k4 k5 => ?_⟩
    · exact specRec_bad a p ad nn c t.m q M cp t.d t.S t.L t.F t.fuel t.dead at_ sq W k3 k4 hn hm hL (by omega) hbad
    · exact implRec_bad a p ad nn c t.m q M cp t.d t.S t.L t.F t.fuel t.dead at_ sq W k3 k4 hn hm hL (by omega) hbad

/-- What the law asks of the disk behind the crash. -/
theorem rec_crash {nn : Nat} {t u : Stt} (hm : t.m = 0) {M : Nat} {at_ sq : Int} {Fp : Nat → Int} (hu : (¬ Wr nn M at_ sq ∧ u = t) ∨ (Wr nn M at_ sq ∧ ∃ last, cntOf M = last + 1 ∧ u = t.recd at_ (secW M sq Fp) last)) (K : Nat → Bool) (nk : Nat) :
    (∀ i : Nat, ¬ Wr nn M at_ sq ∨ (i : Int) < at_ ∨ at_ + cntOf M ≤ (i : Int) → SameS (crashTo u.d u.S u.F K nk u.m) t.d i) ∧
    (Wr nn M at_ sq → ∀ A : Nat, at_ = (A : Int) → getN (fun j => t.d ((A + cntOf M - 1) * 64 + j)) 0 4 ≠ sq → ¬ recOk (fun i j => t.d ((A + i) * 64 + j)) ((nn : Int) / 64 - A) sq →
      (recOk (fun i j => (crashTo u.d u.S u.F K nk u.m) ((A + i) * 64 + j)) ((nn : Int) / 64 - A) sq → getN ((fun i j => (crashTo u.d u.S u.F K nk u.m) ((A + i) * 64 + j)) 0) 6 2 = (cntOf M : Int) ∧ catL (recLz (fun i j => (crashTo u.d u.S u.F K nk u.m) ((A + i) * 64 + j))) (cntOf M) = M ∧ ∀ j, j < M → catF (recLz (fun i j => (crashTo u.d u.S u.F K nk u.m) ((A + i) * 64 + j))) (recFz (fun i j => (crashTo u.d u.S u.F K nk u.m) ((A + i) * 64 + j))) (cntOf M) j = Fp j) ∧
      (u.dead = false → recOk (fun i j => (crashTo u.d u.S u.F K nk u.m) ((A + i) * 64 + j)) ((nn : Int) / 64 - A) sq)) := by
  rcases hu with ⟨hw, rfl⟩ | ⟨hw, last, hl, rfl⟩
  · refine ⟨fun i _ => ?_, fun q => absurd q hw⟩
    rw [hm]
    exact SameS.refl _ _
  · obtain ⟨A, hA⟩ : ∃ A : Nat, at_ = (A : Int) := ⟨at_.toNat, by have := hw.2.2.1; omega⟩
    subst hA
    have hl6 : last ≤ 1000 := by have := hw.1; unfold cntOf at hl; split at hl <;> omega
    obtain ⟨hq, hq3⟩ := recd_q (t := t) (A := A) (G := secW M sq Fp) hm hl6
    have ht := crash_q (t := t) K nk hq
    have hs := hw.2.1
    have hsq : 0 ≤ sq ∧ sq < 4294967296 := by
      unfold numB at hs
      simp at hs
      omega
    refine ⟨fun i hi => ht.1 i ?_, fun _ A' hA' hlast hno => ?_⟩
    · rcases hi with q | q | q
      · exact absurd hw q
      · omega
      · omega
    have eA : A' = A := by omega
    subst eA
    rw [hl] at hlast ⊢
    rw [show A' + (last + 1) - 1 = A' + last by omega] at hlast
    have hr : (last : Int) + 1 ≤ (nn : Int) / 64 - A' := by have := hw.2.2.2; rw [hl] at this; omega
    refine ⟨fun hr1 => ?_, fun hd => ?_⟩
    · rcases ht.2 with hall | ⟨h1, h2⟩
      · exact (whole_yes hw.1 hl hr hall).2
      · exact absurd hr1 (torn_no hsq.1 hsq.2 hw.1 hl h1 h2 hlast hno)
    · have q3 := hq3 hd
      have e : crashTo (t.recd A' (secW M sq Fp) last).d (t.recd A' (secW M sq Fp) last).S (t.recd A' (secW M sq Fp) last).F K nk (t.recd A' (secW M sq Fp) last).m = (t.recd A' (secW M sq Fp) last).d := by rw [q3.2]; rfl
      rw [e]
      refine (whole_yes (f := Fp) hw.1 hl hr (fun x hx => ?_)).1
      rcases q3.1 (A' + x) with ⟨y, hy, ey, s⟩ | ⟨ey, s⟩
      · have : x = y := by omega
        subst this
        exact s
      · omega
theorem secW_rg (N : Nat) (seq : Int) (f : Nat → Int) (hf : ∀ j, 0 ≤ f j ∧ f j < 256) (x : Nat) : ∀ j, j < 64 → 0 ≤ secW N seq f x j ∧ secW N seq f x j < 256 := by
  unfold secW recF sealF
  exact putN_range (recH_range _ _ _ _ _ (fun j _ => hf _))
/-- The bytes behind the crash are bytes. -/
theorem rec_range {nn : Nat} {t u : Stt} (hm : t.m = 0) {M : Nat} {at_ sq : Int} {Fp : Nat → Int} (hu : (¬ Wr nn M at_ sq ∧ u = t) ∨ (Wr nn M at_ sq ∧ ∃ last, cntOf M = last + 1 ∧ u = t.recd at_ (secW M sq Fp) last)) (K : Nat → Bool) (nk : Nat) (hd : ∀ j, 0 ≤ t.d j ∧ t.d j < 256) (hf : ∀ j, 0 ≤ Fp j ∧ Fp j < 256) : ∀ j, 0 ≤ crashTo u.d u.S u.F K nk u.m j ∧ crashTo u.d u.S u.F K nk u.m j < 256 := by
  rcases hu with ⟨hw, rfl⟩ | ⟨hw, last, hl, rfl⟩
  · rw [hm]
    exact hd
  · obtain ⟨A, hA⟩ : ∃ A : Nat, at_ = (A : Int) := ⟨at_.toNat, by have := hw.2.2.1; omega⟩
    subst hA
    have hl6 : last ≤ 1000 := by have := hw.1; unfold cntOf at hl; split at hl <;> omega
    have ht := crash_q (t := t) K nk (recd_q (t := t) (A := A) (G := secW M sq Fp) hm hl6).1
    intro j
    have ej : j / 64 * 64 + j % 64 = j := by omega
    have same : SameS (crashTo (t.recd A (secW M sq Fp) last).d (t.recd A (secW M sq Fp) last).S (t.recd A (secW M sq Fp) last).F K nk (t.recd A (secW M sq Fp) last).m) t.d (j / 64) → 0 ≤ crashTo (t.recd A (secW M sq Fp) last).d (t.recd A (secW M sq Fp) last).S (t.recd A (secW M sq Fp) last).F K nk (t.recd A (secW M sq Fp) last).m j ∧ crashTo (t.recd A (secW M sq Fp) last).d (t.recd A (secW M sq Fp) last).S (t.recd A (secW M sq Fp) last).F K nk (t.recd A (secW M sq Fp) last).m j < 256 := fun h => by
      have := h (j % 64) (by omega)
      rw [ej] at this
      rw [this]
      exact hd j
    have news : ∀ x, IsS (crashTo (t.recd A (secW M sq Fp) last).d (t.recd A (secW M sq Fp) last).S (t.recd A (secW M sq Fp) last).F K nk (t.recd A (secW M sq Fp) last).m) (j / 64) (secW M sq Fp x) → 0 ≤ crashTo (t.recd A (secW M sq Fp) last).d (t.recd A (secW M sq Fp) last).S (t.recd A (secW M sq Fp) last).F K nk (t.recd A (secW M sq Fp) last).m j ∧ crashTo (t.recd A (secW M sq Fp) last).d (t.recd A (secW M sq Fp) last).S (t.recd A (secW M sq Fp) last).F K nk (t.recd A (secW M sq Fp) last).m j < 256 := fun x h => by
      have := h (j % 64) (by omega)
      rw [ej] at this
      rw [this]
      exact secW_rg M sq Fp hf x _ (by omega)
    by_cases ho : j / 64 < A ∨ A + last < j / 64
    · exact same (ht.1 _ ho)
    · have ex : j / 64 = A + (j / 64 - A) := by omega
      rcases ht.2 with hall | ⟨h1, h2⟩
      · have := hall (j / 64 - A) (by omega)
        rw [← ex] at this
        exact news _ this
      · by_cases e : j / 64 = A + last
        · rw [← e] at h1
          exact same h1
        · rcases h2 (j / 64 - A) (by omega) with q | q
          · rw [← ex] at q
            exact same q
          · rw [← ex] at q
            exact news _ q
end Go.Proofs.Ytlcamfkgkcjehaa

namespace Go.Proofs.Ytlcamfkgkcjehaa
open Go.RowKit Go.Deep
set_option linter.unusedVariables false
set_option maxRecDepth 100000

/-- The text that bytes make. -/
def txtOf (f : Nat → Int) (n : Nat) : ByteArray := strOfNums ((List.range n).map f)

theorem conv_rd {a : Option Addr} {n : Nat} {f : Nat → Int} {w : World} (h : Rd .u8 w a n f) (hn : n ≠ 0) (c : Nat) : (convert 22 9 (.slice a n c)).run Try.prog w = .ok (.string (txtOf f n)) w := by
  rcases h with h0 | ⟨b, off, rfl, hc⟩
  · exact absurd h0 hn
  · exact run_convert_bytes_arg (P := Try.prog) w 22 5 (by kernel_rfl) (by kernel_rfl) b off n c ((List.range n).map f) (by simp) (fun i hi => by rw [hc i hi]; simp [List.getD, hi]) 9 (by kernel_rfl)

theorem txtOf_congr {f g : Nat → Int} {n : Nat} (h : ∀ i, i < n → f i = g i) : txtOf f n = txtOf g n := by
  unfold txtOf
  congr 1
  exact List.map_congr_left (fun i hi => h i (List.mem_range.1 hi))

set_option maxHeartbeats 400000 in
theorem lwBytes_yes (a b : Option Addr) (n c c' : Nat) (f g : Nat → Int) (w : World) (ha : Rd .u8 w a n f) (hb : Rd .u8 w b n g) (hn : n ≠ 0) (he : ∀ i, i < n → f i = g i) :
    Calls Try.prog 10 #[.slice a n c, .slice b n c'] w fun e w' => e = .returned (.bool true) ∧ w' = w := by
  have h1 := conv_rd ha hn c
  have h2 := conv_rd hb hn c'
  rw [← txtOf_congr he] at h2
  generalize txtOf f n = x at h1 h2
  clear ha hb hn he
  go_enter Try.func10, Try.ntmps10
  go_wp2
  go_ret
  exact ⟨by simp, rfl⟩
end Go.Proofs.Ytlcamfkgkcjehaa

namespace Go.Proofs.Ytlcamfkgkcjehaa
open Go.RowKit Go.Deep
set_option linter.unusedVariables false
set_option maxRecDepth 100000

set_option maxHeartbeats 1000000 in
theorem lwAt_k (a : Option Addr) (n c : Nat) (x : Int) (f : Nat → Int) (w : World) (h : Rd .u8 w a n f) (hf : ∀ i, i < n → 0 ≤ f i ∧ f i < 256) (hn : n ≤ 1048576) (hi : 0 ≤ x ∧ x ≤ 1000) :
    Calls Try.prog 54 #[.slice a n c, .int .i64 x] w fun e w' => ∃ v : Int, e = .returned (.int .i64 v) ∧ (0 ≤ v ∧ v < 256) ∧ w' = w := by
  obtain ⟨i, rfl⟩ : ∃ i : Nat, x = (i : Int) := ⟨x.toNat, by omega⟩
  by_cases hlt : i < n
  · rcases h with h0 | ⟨b, o, rfl, hc⟩
    · omega
    have hci := hc i hlt
    have hr := hf i hlt
    clear hc hf
    go_enter Try.func54, Try.ntmps54
    go_wp2
    go_ret
    exact ⟨_, rfl, by omega, rfl⟩
  · clear h hf
    go_enter Try.func54, Try.ntmps54
    go_wp2
    go_ret
    exact ⟨_, rfl, by omega, rfl⟩
theorem conv_zero {w : World} (a : Option Addr) (c : Nat) : (convert 22 9 (.slice a 0 c)).run Try.prog w = .ok (.string ByteArray.empty) w := by
  cases a with
  | none => exact run_convert_bytes_nil (P := Try.prog) w 22 5 (by kernel_rfl) (by kernel_rfl) 0 c 9 (by kernel_rfl)
  | some x =>
    rw [run_convert_bytes_string (P := Try.prog) w 22 9 5 _ 0 c (by kernel_rfl) (by kernel_rfl) (by kernel_rfl)]
    simp [Conv.bytesToString, loadCells]
    rfl
set_option maxHeartbeats 400000 in
theorem lwBytes_eq (a b : Option Addr) (n c c' : Nat) (f g : Nat → Int) (w : World) (ha : Rd .u8 w a n f) (hb : Rd .u8 w b n g) (he : ∀ i, i < n → f i = g i) :
    Calls Try.prog 10 #[.slice a n c, .slice b n c'] w fun e w' => e = .returned (.bool true) ∧ w' = w := by
  by_cases hn : n = 0
  · subst hn
    have h1 : ∀ w : World, (convert 22 9 (.slice a 0 c)).run Try.prog w = .ok (.string ByteArray.empty) w := fun w => conv_zero a c
    have h2 : ∀ w : World, (convert 22 9 (.slice b 0 c')).run Try.prog w = .ok (.string ByteArray.empty) w := fun w => conv_zero b c'
    clear ha hb he
    go_enter Try.func10, Try.ntmps10
    go_wp2
    go_ret
    exact ⟨by simp, rfl⟩
  · exact lwBytes_yes a b n c c' f g w ha hb hn he

/-- A row of m bools of the call's own. -/
def KeepRow (w W : World) (v : Value) (m : Nat) : Prop := ∃ K : Nat → Bool, W.ownsRow w.heap.size 4 1 v m (boolRow K m) ∧ Below w.heap.size w W
set_option maxHeartbeats 2000000 in
theorem lwKeep_any (b : Option Addr) (n c : Nat) (f : Nat → Int) (w : World) (h : Rd .u8 w b n f) (hf : ∀ i, i < n → 0 ≤ f i ∧ f i < 256) (hn : n ≤ 1048576) :
    Calls Try.prog 19 #[.slice b n c, .int .i64 0] w fun e w' => ∃ a cp K, e = .returned (.slice a 8 cp) ∧ RdBl w' a 8 K ∧ Below w.heap.size w w' := by
  have HR : Hid (Rd .u8 w b n f ∧ ∀ i, i < n → 0 ≤ f i ∧ f i < 256) := ⟨h, hf⟩
  clear h hf
  obtain ⟨i0, hi, hz0, hz1, hz2⟩ := info_parts Try.info4
  have HI : Hid (Try.prog.info? 4 = some i0 ∧ i0.zero = some (.bool false) ∧ i0.size = 1 ∧ i0.bytes = 1) := ⟨hi, hz0, hz1, hz2⟩
  clear hi hz0 hz1 hz2
  go_enter Try.func19, Try.ntmps19
  go_wp2
  go_loopw [5, 6] (fun u i wr => ∃ j : Nat, j ≤ 8 ∧ i = .int .i64 j ∧ KeepRow w wr u j) (fun _ i _ => (8 - intOf i).toNat)
  case atStart => exact ⟨0, by omega, rfl, fun _ => false, World.ownsRow_lit w (e := 4) (size := 1) #[] 0 (Nat.le_refl _) (Nat.zero_le _) rfl, (Below.refl _ _).alloc (Nat.le_refl _) _⟩
  case round =>
    obtain ⟨j, hj, rfl, K, hown, hb⟩ := hrel
    have HO : Hid (wr.ownsRow w.heap.size 4 1 u5 j (boolRow K j)) := hown
    have HB : Hid (Below w.heap.size w wr) := hb
    have hz := hb.size
    clear hown hb
    by_cases hlt : j < 8
    · have hd : ((j : Int)).tdiv 4 = (j : Int) / 4 := Int.tdiv_eq_ediv_of_nonneg (by omega)
      have hmm : ((j : Int)).tmod 4 = (j : Int) % 4 := Int.tmod_eq_emod_of_nonneg (by omega)
      go_wp2_with fail
      refine (lwAt_k b n c _ f wr (HR.out.1.below HB.out) HR.out.2 hn (by omega)).mono ?_
      rintro e w2 ⟨v, rfl, hv, hw2⟩
      subst hw2
      have O2 : Hid (∀ o, (w2.alloc (.cells #[.bool o] 4)).ownsRow w.heap.size 4 1 u5 j (boolRow K j)) := fun o => owns_below HO.out (below_alloc _ _)
      have hz9 : ∀ o, w.heap.size ≤ (w2.alloc (.cells #[.bool o] 4)).heap.size := fun o => by rw [alloc_size]; omega
      have h8 : j = 0 ∨ j = 1 ∨ j = 2 ∨ j = 3 ∨ j = 4 ∨ j = 5 ∨ j = 6 ∨ j = 7 := by omega
      clear HO hd hmm
      rcases h8 with rfl | rfl | rfl | rfl | rfl | rfl | rfl | rfl
      all_goals
        go_wp2_with (at_builtin; refine wpList_append_own _ rfl _ _ 26 rfl w.heap.size 4 i0 (.bool false) 1 1 Try.underlying26 HI.out.1 HI.out.2.1 HI.out.2.2.1 HI.out.2.2.2 rfl (by decide) _ _ _ rfl (O2.out _) ⟨w2.heap.size, 0, none⟩ 1 1 [.bool _] rfl rfl (cell_one_new _ _ _) (by intro u hu; simp at hu; subst hu; rfl) (by unfold maxLen; omega) (by omega) (hz9 _) ?_)
        intro v' w3 hown3 hgr3 _
        rw [boolRow_succ] at hown3
        have hb : Below w.heap.size w2 w3 := Below.grown ((below_alloc w2 _).mono hz) hgr3 (hz9 _) (owns_blockGe (O2.out false))
        have HX3 : Hid (KeepRow w w3 v' _) := ⟨_, hown3, HB.out.trans hb⟩
        clear hown3 hgr3 O2 hb HB
        go_wp2
        go_roundw
        case rel => exact ⟨_, by decide, rfl, HX3.out⟩
        case measure => simp [intOf]
    · have e : j = 8 := by omega
      subst e
      obtain ⟨a, cp, rfl, ho⟩ := ownBl_ofRow HO.out
      have HF : Hid (∃ a' cp' K', Ending.returned (.slice a 8 cp) = .returned (.slice a' 8 cp') ∧ RdBl wr a' 8 K' ∧ Below w.heap.size w wr) := ⟨a, cp, K, rfl, ho.rd, HB.out⟩
      clear ho HO
      go_wp2
      go_ret
      exact HF.out
end Go.Proofs.Ytlcamfkgkcjehaa
