import Derived.Test.YtfbhlegkpmcfoaaSupW
import Derived.Test.YtfbhlegkpmcfoaaRunX
namespace Go.Proofs.Ytfbhlegkpmcfoaa
open Go.RowKit Go.Deep
set_option linter.unusedVariables false
set_option maxRecDepth 100000

theorem below_alloc3 (w : World) (o1 o2 o3 : Obj) : Below w.heap.size w (((w.alloc o1).alloc o2).alloc o3) :=
  ((below_alloc _ _).alloc (by simp) _).alloc (by simp; omega) _

set_option maxHeartbeats 400000 in
theorem closure_super (b bs : Nat) (gen ar fi : Int) (w : World) (R : World → Prop) (h0 : w.cell? ⟨bs, 0, none⟩ = some (.int .i64 gen)) (h1 : w.cell? ⟨bs, 1, none⟩ = some (.int .i64 ar)) (h2 : w.cell? ⟨bs, 2, none⟩ = some (.int .i64 fi))
    (h : Calls Try.prog 45 #[.pointer (some ⟨b, 0, none⟩), .agg #[.int .i64 gen, .int .i64 ar, .int .i64 fi]] w fun e w' => Stepped e ∧ R w') :
    Calls Try.prog 44 #[.pointer (some ⟨b, 0, none⟩), .pointer (some ⟨bs, 0, none⟩)] w fun e w' => Stepped e ∧ R w' := by
  have H : Hid (Calls Try.prog 45 #[.pointer (some ⟨b, 0, none⟩), .agg #[.int .i64 gen, .int .i64 ar, .int .i64 fi]] w fun e w' => Stepped e ∧ R w') := h
  clear h
  go_enter Try.func44, Try.ntmps44
  go_wp2_with fail
  refine H.out.mono ?_
  rintro e w1 ⟨he | he, hR⟩
  · subst he
    go_wp2
    go_end0
    exact ⟨Or.inl rfl, hR⟩
  · subst he
    go_wp2
    exact ⟨rfl, Or.inr rfl, hR⟩

set_option maxHeartbeats 1000000 in
theorem implSuper_bad (a p : Option Addr) (n c m q : Nat) (d S : Nat → Int) (L : Nat → Nat) (F : Nat → Nat → Int) (fuel : Int) (dead : Bool) (gen ar fi : Int) (w : World) (ha : Rd .u8 w a n d) (hp : RdP w p m S L F) (hbad : ¬ (VD n m S L fuel ∧ goodB gen ar fi = true)) (hn : n ≤ 1048576) (hm : m ≤ 1048576) (hL : ∀ i, i < m → L i ≤ 1048576) :
    Calls Try.prog 17 #[.agg #[.slice a n c, .slice p m q, .int .i64 fuel, .bool dead], .agg #[.int .i64 gen, .int .i64 ar, .int .i64 fi]] w fun e w' => RetD w e w' n d m S L F fuel dead := by
  have HBAD : Hid (¬ (VD n m S L fuel ∧ goodB gen ar fi = true)) := hbad
  have HA : Hid (Rd .u8 w a n d) := ha
  have HP : Hid (RdP w p m S L F) := hp
  have HLL : Hid (∀ i, i < m → L i ≤ 1048576) := hL
  have HFIN : Hid (∀ W : World, Below (w.heap.size + 3) (((w.alloc (.cells #[.slice a n c, .slice p m q, .int .i64 fuel, .bool dead] 40)).alloc (.cells #[.int .i64 gen, .int .i64 ar, .int .i64 fi] 34)).alloc (.cells #[.slice none 0 0, .slice none 0 0, .int .i64 0, .bool false] 40)) W → Below w.heap.size w W) := fun W h => (below_alloc3 _ _ _ _).trans (h.mono (by omega))
  have HE : Hid (∀ o1 o2 o3, (((w.alloc o1).alloc o2).alloc o3).heap.size = w.heap.size + 3) := fun _ _ _ => by simp
  clear ha hp hL hbad
  go_enter Try.func17, Try.ntmps17
  go_wp2_with fail
  refine (implValid_any a p n c m q S L F fuel dead _ (HP.out.below (below_alloc3 _ _ _ _)) hn hm).mono ?_
  rintro e w1 ⟨⟨b1, rfl, hv1⟩, hb1⟩
  rw [HE.out] at hb1
  have K1 : Hid (Below (w.heap.size + 3) (((w.alloc (.cells #[.slice a n c, .slice p m q, .int .i64 fuel, .bool dead] 40)).alloc (.cells #[.int .i64 gen, .int .i64 ar, .int .i64 fi] 34)).alloc (.cells #[.slice none 0 0, .slice none 0 0, .int .i64 0, .bool false] 40)) w1) := hb1
  have hc1 : ∀ b o, b < w.heap.size + 3 → w1.cell? ⟨b, o, none⟩ = _ := fun b o hb => hb1.cell (p := ⟨b, o, none⟩) hb
  clear hb1
  cases b1 with
  | false =>
    clear hv1
    go_wp2_with fail
    refine (copyDisk_any a p n c m q d S L F fuel dead w1 (HA.out.below (HFIN.out _ K1.out)) (HP.out.below (HFIN.out _ K1.out)) hn hm HLL.out).mono ?_
    rintro e w9 ⟨a9, c9, p9, q9, A9, rfl, ho9, hb9⟩
    have z9 : w.heap.size + 3 ≤ w1.heap.size := by have := K1.out.size; rw [HE.out] at this; exact this
    have K9 : Below (w.heap.size + 3) (((w.alloc (.cells #[.slice a n c, .slice p m q, .int .i64 fuel, .bool dead] 40)).alloc (.cells #[.int .i64 gen, .int .i64 ar, .int .i64 fi] 34)).alloc (.cells #[.slice none 0 0, .slice none 0 0, .int .i64 0, .bool false] 40)) w9 := K1.out.trans (hb9.mono z9)
    have hc9 : ∀ b o, b < w.heap.size + 3 → w9.cell? ⟨b, o, none⟩ = _ := fun b o hb => K9.cell (p := ⟨b, o, none⟩) hb
    have hf9 : ∀ b o, b < w.heap.size + 3 → w9.frozen? ⟨b, o, none⟩ = _ := fun b o hb => K9.frozen (p := ⟨b, o, none⟩) hb
    have hz9 : w.heap.size + 2 < w9.heap.size := by have := hb9.size; omega
    have HX : Hid (OwnD w9 (w.heap.size + 3) a9 n d p9 m S L F A9 ∧ Below w.heap.size w w9) := ⟨ho9.mono z9, HFIN.out _ K9⟩
    clear ho9 hb9 K9 hc1
    go_wp2
    refine bodyPost_ret (v := .agg #[.slice a9 n c9, .slice p9 m q9, .int .i64 fuel, .bool dead]) (by simp [results, Try.results17, go_sem, hc9]) rfl ⟨a9, c9, p9, q9, A9, rfl, ?_, ?_⟩
    · exact ((((HX.out.1.setOther (by simp) _).setOther (by simp) _).setOther (by simp) _).setOther (by simp) _).mono (by omega)
    · exact (((HX.out.2.setCell (by simp; try omega) _).setCell (by simp; try omega) _).setCell (by simp; try omega) _).setCell (by simp; try omega) _
  | true =>
    have HB : Hid (goodB gen ar fi = false) := by
      show _ = _
      cases hq : goodB gen ar fi with
      | false => rfl
      | true => exact absurd ⟨hv1.1 rfl, hq⟩ HBAD.out
    clear hv1
    go_wp2_with fail
    refine (validSuper_any gen ar fi w1).mono ?_
    rintro e w2 ⟨he, hb2⟩
    rw [HB.out] at he
    subst he
    have z1 : w.heap.size + 3 ≤ w1.heap.size := by have := K1.out.size; rw [HE.out] at this; exact this
    have K2 : Hid (Below (w.heap.size + 3) (((w.alloc (.cells #[.slice a n c, .slice p m q, .int .i64 fuel, .bool dead] 40)).alloc (.cells #[.int .i64 gen, .int .i64 ar, .int .i64 fi] 34)).alloc (.cells #[.slice none 0 0, .slice none 0 0, .int .i64 0, .bool false] 40)) w2) := K1.out.trans (hb2.mono z1)
    clear hc1
    have hc1 : ∀ b o, b < w.heap.size + 3 → w2.cell? ⟨b, o, none⟩ = _ := fun b o hb => K2.out.cell (p := ⟨b, o, none⟩) hb
    clear hb2
    go_wp2_with fail
    refine (copyDisk_any a p n c m q d S L F fuel dead w2 (HA.out.below (HFIN.out _ K2.out)) (HP.out.below (HFIN.out _ K2.out)) hn hm HLL.out).mono ?_
    rintro e w9 ⟨a9, c9, p9, q9, A9, rfl, ho9, hb9⟩
    have z9 : w.heap.size + 3 ≤ w2.heap.size := by have := K2.out.size; rw [HE.out] at this; exact this
    have K9 : Below (w.heap.size + 3) (((w.alloc (.cells #[.slice a n c, .slice p m q, .int .i64 fuel, .bool dead] 40)).alloc (.cells #[.int .i64 gen, .int .i64 ar, .int .i64 fi] 34)).alloc (.cells #[.slice none 0 0, .slice none 0 0, .int .i64 0, .bool false] 40)) w9 := K2.out.trans (hb9.mono z9)
    have hc9 : ∀ b o, b < w.heap.size + 3 → w9.cell? ⟨b, o, none⟩ = _ := fun b o hb => K9.cell (p := ⟨b, o, none⟩) hb
    have hf9 : ∀ b o, b < w.heap.size + 3 → w9.frozen? ⟨b, o, none⟩ = _ := fun b o hb => K9.frozen (p := ⟨b, o, none⟩) hb
    have hz9 : w.heap.size + 2 < w9.heap.size := by have := hb9.size; omega
    have HX : Hid (OwnD w9 (w.heap.size + 3) a9 n d p9 m S L F A9 ∧ Below w.heap.size w w9) := ⟨ho9.mono z9, HFIN.out _ K9⟩
    clear ho9 hb9 K9 hc1
    go_wp2
    refine bodyPost_ret (v := .agg #[.slice a9 n c9, .slice p9 m q9, .int .i64 fuel, .bool dead]) (by simp [results, Try.results17, go_sem, hc9]) rfl ⟨a9, c9, p9, q9, A9, rfl, ?_, ?_⟩
    · exact ((((HX.out.1.setOther (by simp) _).setOther (by simp) _).setOther (by simp) _).setOther (by simp) _).mono (by omega)
    · exact (((HX.out.2.setCell (by simp; try omega) _).setCell (by simp; try omega) _).setCell (by simp; try omega) _).setCell (by simp; try omega) _

set_option maxHeartbeats 1000000 in
theorem implSuper_good (a p : Option Addr) (n c m q : Nat) (d S : Nat → Int) (L : Nat → Nat) (F : Nat → Nat → Int) (fuel : Int) (dead : Bool) (gen ar fi : Int) (w : World) (ha : Rd .u8 w a n d) (hp : RdP w p m S L F) (hv : VD n m S L fuel) (hgd : goodB gen ar fi = true) (hn : n ≤ 1048576) (hm : m ≤ 1048576) (hL : ∀ i, i < m → L i ≤ 1048576) (d2 : Nat → Int) (m2 : Nat) (S2 : Nat → Int) (L2 : Nat → Nat) (F2 : Nat → Nat → Int) (fuel2 : Int) (dead2 : Bool) (hdo : SuperDoes n m d S L F fuel dead gen ar fi d2 m2 S2 L2 F2 fuel2 dead2) :
    Calls Try.prog 17 #[.agg #[.slice a n c, .slice p m q, .int .i64 fuel, .bool dead], .agg #[.int .i64 gen, .int .i64 ar, .int .i64 fi]] w fun e w' => RetD w e w' n d2 m2 S2 L2 F2 fuel2 dead2 := by
  have hmf : ∀ (fn : Fn) (first cap : Array Value) (w : World), (Instr.makeFunc fn first cap).run Try.prog w = .ok (.func fn first cap) w := fun _ _ _ _ => rfl
  have HV : Hid (VD n m S L fuel) := hv
  have HGD : Hid (goodB gen ar fi = true) := hgd
  have HDO : Hid (SuperDoes n m d S L F fuel dead gen ar fi d2 m2 S2 L2 F2 fuel2 dead2) := hdo
  have HA : Hid (Rd .u8 w a n d) := ha
  have HP : Hid (RdP w p m S L F) := hp
  have HLL : Hid (∀ i, i < m → L i ≤ 1048576) := hL
  have HFIN : Hid (∀ W : World, Below (w.heap.size + 3) (((w.alloc (.cells #[.slice a n c, .slice p m q, .int .i64 fuel, .bool dead] 40)).alloc (.cells #[.int .i64 gen, .int .i64 ar, .int .i64 fi] 34)).alloc (.cells #[.slice none 0 0, .slice none 0 0, .int .i64 0, .bool false] 40)) W → Below w.heap.size w W) := fun W h => (below_alloc3 _ _ _ _).trans (h.mono (by omega))
  have HE : Hid (∀ o1 o2 o3, (((w.alloc o1).alloc o2).alloc o3).heap.size = w.heap.size + 3) := fun _ _ _ => by simp
  clear ha hp hL hv hgd hdo
  go_enter Try.func17, Try.ntmps17
  go_wp2_with fail
  refine (implValid_any a p n c m q S L F fuel dead _ (HP.out.below (below_alloc3 _ _ _ _)) hn hm).mono ?_
  rintro e w1 ⟨h1, hb1⟩
  have := ans_true' h1 HV.out
  subst this
  rw [HE.out] at hb1
  have K1 : Hid (Below (w.heap.size + 3) (((w.alloc (.cells #[.slice a n c, .slice p m q, .int .i64 fuel, .bool dead] 40)).alloc (.cells #[.int .i64 gen, .int .i64 ar, .int .i64 fi] 34)).alloc (.cells #[.slice none 0 0, .slice none 0 0, .int .i64 0, .bool false] 40)) w1) := hb1
  have hc1 : ∀ b o, b < w.heap.size + 3 → w1.cell? ⟨b, o, none⟩ = _ := fun b o hb => hb1.cell (p := ⟨b, o, none⟩) hb
  clear hb1 h1
  go_wp2_with fail
  refine (validSuper_any gen ar fi w1).mono ?_
  rintro e w2 ⟨he, hb2⟩
  rw [HGD.out] at he
  subst he
  have z1 : w.heap.size + 3 ≤ w1.heap.size := by have := K1.out.size; rw [HE.out] at this; exact this
  have K2 : Hid (Below (w.heap.size + 3) (((w.alloc (.cells #[.slice a n c, .slice p m q, .int .i64 fuel, .bool dead] 40)).alloc (.cells #[.int .i64 gen, .int .i64 ar, .int .i64 fi] 34)).alloc (.cells #[.slice none 0 0, .slice none 0 0, .int .i64 0, .bool false] 40)) w2) := K1.out.trans (hb2.mono z1)
  have z2 := hb2.size
  clear hc1 hb2
  have hc2 : ∀ b o, b < w.heap.size + 3 → w2.cell? ⟨b, o, none⟩ = _ := fun b o hb => K2.out.cell (p := ⟨b, o, none⟩) hb
  have eq1 : ∀ o, w2.cell? ⟨w.heap.size + 1, o, none⟩ = ((w.alloc (.cells #[.slice a n c, .slice p m q, .int .i64 fuel, .bool dead] 40)).alloc (.cells #[.int .i64 gen, .int .i64 ar, .int .i64 fi] 34)).cell? ⟨w.heap.size + 1, o, none⟩ := fun o => by
    rw [hc2 _ _ (by omega), (below_alloc _ _).cell (p := ⟨w.heap.size + 1, o, none⟩) (by simp)]
  have e0 : w2.cell? ⟨w.heap.size + 1, 0, none⟩ = some (.int .i64 gen) := by rw [eq1]; simp
  have e1 : w2.cell? ⟨w.heap.size + 1, 1, none⟩ = some (.int .i64 ar) := by rw [eq1]; simp
  have e2 : w2.cell? ⟨w.heap.size + 1, 2, none⟩ = some (.int .i64 fi) := by rw [eq1]; simp
  have HST : Hid (∀ (W : World) (b B : Nat) (a' p' : Option Addr) (c' q' : Nat) (A C), Dev W b (.slice a' n c') (.slice p' m q') fuel dead → OwnB W B a' n d → Gath W B (.slice p' m q') m S L F A C → (n ≠ 0 → ∀ i, i < m → L i ≠ 0 → A i ≠ a') → n ≤ c' → c' ≤ 9223372036854775807 → B ≤ b → w2.heap.size + 2 ≤ B → Below w2.heap.size w2 W →
      Calls Try.prog 44 #[.pointer (some ⟨b, 0, none⟩), .pointer (some ⟨w.heap.size + 1, 0, none⟩)] W fun e w' => Stepped e ∧ Left W b B n w' d2 m2 S2 L2 F2 fuel2 dead2) := by
    intro W b B a' p' c' q' A C q1 q2 q3 q4 q5 q6 q7 q8 q9
    have hl : w.heap.size + 1 < w2.heap.size := by omega
    exact closure_super b _ gen ar fi W _ ((q9.cell (p := ⟨w.heap.size + 1, 0, none⟩) hl).trans e0) ((q9.cell (p := ⟨w.heap.size + 1, 1, none⟩) hl).trans e1) ((q9.cell (p := ⟨w.heap.size + 1, 2, none⟩) hl).trans e2) (HDO.out W b B a' p' c' q' A C q1 q2 q3 q4 q5 q6 q7)
  clear e0 e1 e2 eq1
  go_wp2_with fail
  refine (runSteps_super a p n c m q d S L F fuel dead _ w2 (HA.out.below (HFIN.out _ K2.out)) (HP.out.below (HFIN.out _ K2.out)) hn hm HLL.out d2 m2 S2 L2 F2 fuel2 dead2 HST.out).mono ?_
  rintro e w9 ⟨a9, c9, p9, q9, A9, rfl, ho9, hb9⟩
  have z9 : w.heap.size + 3 ≤ w2.heap.size := by have := K2.out.size; rw [HE.out] at this; exact this
  have K9 : Below (w.heap.size + 3) (((w.alloc (.cells #[.slice a n c, .slice p m q, .int .i64 fuel, .bool dead] 40)).alloc (.cells #[.int .i64 gen, .int .i64 ar, .int .i64 fi] 34)).alloc (.cells #[.slice none 0 0, .slice none 0 0, .int .i64 0, .bool false] 40)) w9 := K2.out.trans (hb9.mono z9)
  have hc9 : ∀ b o, b < w.heap.size + 3 → w9.cell? ⟨b, o, none⟩ = _ := fun b o hb => K9.cell (p := ⟨b, o, none⟩) hb
  have hf9 : ∀ b o, b < w.heap.size + 3 → w9.frozen? ⟨b, o, none⟩ = _ := fun b o hb => K9.frozen (p := ⟨b, o, none⟩) hb
  have hz9 : w.heap.size + 2 < w9.heap.size := by have := hb9.size; omega
  have HX : Hid (OwnD w9 (w.heap.size + 3) a9 n d2 p9 m2 S2 L2 F2 A9 ∧ Below w.heap.size w w9) := ⟨ho9.mono z9, HFIN.out _ K9⟩
  clear ho9 hb9 K9 hc2 HST
  go_wp2
  refine bodyPost_ret (v := .agg #[.slice a9 n c9, .slice p9 m2 q9, .int .i64 fuel2, .bool dead2]) (by simp [results, Try.results17, go_sem, hc9]) rfl ⟨a9, c9, p9, q9, A9, rfl, ?_, ?_⟩
  · exact ((((HX.out.1.setOther (by simp) _).setOther (by simp) _).setOther (by simp) _).setOther (by simp) _).mono (by omega)
  · exact (((HX.out.2.setCell (by simp; try omega) _).setCell (by simp; try omega) _).setCell (by simp; try omega) _).setCell (by simp; try omega) _
end Go.Proofs.Ytfbhlegkpmcfoaa
