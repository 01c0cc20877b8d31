import Derived.Test.YtfbhlegkpmcfoaaSpB
import Derived.Test.YtfbhlegkpmcfoaaSpecW
import Derived.Test.YtfbhlegkpmcfoaaSpecY
import Derived.Deep.RegionHeld3
namespace Go.Proofs.Ytfbhlegkpmcfoaa
open Go.RowKit Go.Deep
set_option linter.unusedVariables false
set_option maxRecDepth 100000

theorem below_alloc3s (w : World) (o1 o2 o3 : Obj) : Below w.heap.size w (((w.alloc o1).alloc o2).alloc o3) :=
  ((below_alloc _ _).alloc (by simp) _).alloc (by simp; omega) _

theorem goodB_range {gen ar fi : Int} (h : goodB gen ar fi = true) : 0 ≤ gen ∧ gen ≤ 2000000000 ∧ 0 ≤ ar ∧ ar < 2 ∧ 1 ≤ fi ∧ fi ≤ 2000000000 := by
  unfold goodB areaB numB at h
  simp only [Bool.and_eq_true, decide_eq_true_eq] at h
  omega

set_option maxHeartbeats 1000000 in
theorem specSuper_bad (a p : Option Addr) (n c m q : Nat) (d S : Nat → Int) (L : Nat → Nat) (F : Nat → Nat → Int) (fuel : Int) (dead : Bool) (gen ar fi : Int) (w : World) (ha : Rd .u8 w a n d) (hp : RdP w p m S L F) (hbad : ¬ (VD n m S L fuel ∧ goodB gen ar fi = true)) (hn : n ≤ 1048576) (hm : m ≤ 1048576) (hL : ∀ i, i < m → L i ≤ 1048576) :
    Calls Try.prog 15 #[.agg #[.slice a n c, .slice p m q, .int .i64 fuel, .bool dead], .agg #[.int .i64 gen, .int .i64 ar, .int .i64 fi]] w fun e w' => RetD w e w' n d m S L F fuel dead := by
  have HBAD : Hid (¬ (VD n m S L fuel ∧ goodB gen ar fi = true)) := hbad
  have HA : Hid (Rd .u8 w a n d) := ha
  have HP : Hid (RdP w p m S L F) := hp
  have HLL : Hid (∀ i, i < m → L i ≤ 1048576) := hL
  have HFIN : Hid (∀ W : World, Below (w.heap.size + 3) (((w.alloc (.cells #[.slice a n c, .slice p m q, .int .i64 fuel, .bool dead] 40)).alloc (.cells #[.int .i64 gen, .int .i64 ar, .int .i64 fi] 34)).alloc (.cells #[.slice none 0 0, .slice none 0 0, .int .i64 0, .bool false] 40)) W → Below w.heap.size w W) := fun W h => (below_alloc3s _ _ _ _).trans (h.mono (by omega))
  have HE : Hid (∀ o1 o2 o3, (((w.alloc o1).alloc o2).alloc o3).heap.size = w.heap.size + 3) := fun _ _ _ => by simp
  clear ha hp hL hbad
  go_enter Try.func15, Try.ntmps15
  go_wp2_with fail
  refine (specValid_any a p n c m q S L F fuel dead _ (HP.out.below (below_alloc3s _ _ _ _)) hn hm).mono ?_
  rintro e w1 ⟨⟨b1, rfl, hv1⟩, hb1⟩
  rw [HE.out] at hb1
  have K1 : Hid (Below (w.heap.size + 3) (((w.alloc (.cells #[.slice a n c, .slice p m q, .int .i64 fuel, .bool dead] 40)).alloc (.cells #[.int .i64 gen, .int .i64 ar, .int .i64 fi] 34)).alloc (.cells #[.slice none 0 0, .slice none 0 0, .int .i64 0, .bool false] 40)) w1) := hb1
  have hc1 : ∀ b o, b < w.heap.size + 3 → w1.cell? ⟨b, o, none⟩ = _ := fun b o hb => hb1.cell (p := ⟨b, o, none⟩) hb
  clear hb1
  cases b1 with
  | false =>
    clear hv1
    go_wp2_with fail
    refine (l1Copy_any a p n c m q d S L F fuel dead w1 (HA.out.below (HFIN.out _ K1.out)) (HP.out.below (HFIN.out _ K1.out)) hn hm HLL.out).mono ?_
    rintro e w9 ⟨a9, c9, p9, q9, A9, rfl, ho9, hb9⟩
    have z9 : w.heap.size + 3 ≤ w1.heap.size := by have := K1.out.size; rw [HE.out] at this; exact this
    have K9 : Below (w.heap.size + 3) (((w.alloc (.cells #[.slice a n c, .slice p m q, .int .i64 fuel, .bool dead] 40)).alloc (.cells #[.int .i64 gen, .int .i64 ar, .int .i64 fi] 34)).alloc (.cells #[.slice none 0 0, .slice none 0 0, .int .i64 0, .bool false] 40)) w9 := K1.out.trans (hb9.mono z9)
    have hc9 : ∀ b o, b < w.heap.size + 3 → w9.cell? ⟨b, o, none⟩ = _ := fun b o hb => K9.cell (p := ⟨b, o, none⟩) hb
    have hf9 : ∀ b o, b < w.heap.size + 3 → w9.frozen? ⟨b, o, none⟩ = _ := fun b o hb => K9.frozen (p := ⟨b, o, none⟩) hb
    have hz9 : w.heap.size + 2 < w9.heap.size := by have := hb9.size; omega
    have HX : Hid (OwnD w9 (w.heap.size + 3) a9 n d p9 m S L F A9 ∧ Below w.heap.size w w9) := ⟨ho9.mono z9, HFIN.out _ K9⟩
    clear ho9 hb9 K9 hc1
    go_wp2
    refine bodyPost_ret (v := .agg #[.slice a9 n c9, .slice p9 m q9, .int .i64 fuel, .bool dead]) (by simp [results, Try.results15, go_sem, hc9]) rfl ⟨a9, c9, p9, q9, A9, rfl, ?_, ?_⟩
    · exact ((((HX.out.1.setOther (by simp) _).setOther (by simp) _).setOther (by simp) _).setOther (by simp) _).mono (by omega)
    · exact (((HX.out.2.setCell (by simp; try omega) _).setCell (by simp; try omega) _).setCell (by simp; try omega) _).setCell (by simp; try omega) _
  | true =>
    have HB : Hid (goodB gen ar fi = false) := by
      show _ = _
      cases hq : goodB gen ar fi with
      | false => rfl
      | true => exact absurd ⟨hv1.1 rfl, hq⟩ HBAD.out
    clear hv1
    go_wp2_with fail
    refine (l2GoodSuper_any gen ar fi w1).mono ?_
    rintro e w2 ⟨he, hb2⟩
    rw [HB.out] at he
    subst he
    have z1 : w.heap.size + 3 ≤ w1.heap.size := by have := K1.out.size; rw [HE.out] at this; exact this
    have K2 : Hid (Below (w.heap.size + 3) (((w.alloc (.cells #[.slice a n c, .slice p m q, .int .i64 fuel, .bool dead] 40)).alloc (.cells #[.int .i64 gen, .int .i64 ar, .int .i64 fi] 34)).alloc (.cells #[.slice none 0 0, .slice none 0 0, .int .i64 0, .bool false] 40)) w2) := K1.out.trans (hb2.mono z1)
    clear hc1
    have hc1 : ∀ b o, b < w.heap.size + 3 → w2.cell? ⟨b, o, none⟩ = _ := fun b o hb => K2.out.cell (p := ⟨b, o, none⟩) hb
    clear hb2
    go_wp2_with fail
    refine (l1Copy_any a p n c m q d S L F fuel dead w2 (HA.out.below (HFIN.out _ K2.out)) (HP.out.below (HFIN.out _ K2.out)) hn hm HLL.out).mono ?_
    rintro e w9 ⟨a9, c9, p9, q9, A9, rfl, ho9, hb9⟩
    have z9 : w.heap.size + 3 ≤ w2.heap.size := by have := K2.out.size; rw [HE.out] at this; exact this
    have K9 : Below (w.heap.size + 3) (((w.alloc (.cells #[.slice a n c, .slice p m q, .int .i64 fuel, .bool dead] 40)).alloc (.cells #[.int .i64 gen, .int .i64 ar, .int .i64 fi] 34)).alloc (.cells #[.slice none 0 0, .slice none 0 0, .int .i64 0, .bool false] 40)) w9 := K2.out.trans (hb9.mono z9)
    have hc9 : ∀ b o, b < w.heap.size + 3 → w9.cell? ⟨b, o, none⟩ = _ := fun b o hb => K9.cell (p := ⟨b, o, none⟩) hb
    have hf9 : ∀ b o, b < w.heap.size + 3 → w9.frozen? ⟨b, o, none⟩ = _ := fun b o hb => K9.frozen (p := ⟨b, o, none⟩) hb
    have hz9 : w.heap.size + 2 < w9.heap.size := by have := hb9.size; omega
    have HX : Hid (OwnD w9 (w.heap.size + 3) a9 n d p9 m S L F A9 ∧ Below w.heap.size w w9) := ⟨ho9.mono z9, HFIN.out _ K9⟩
    clear ho9 hb9 K9 hc1
    go_wp2
    refine bodyPost_ret (v := .agg #[.slice a9 n c9, .slice p9 m q9, .int .i64 fuel, .bool dead]) (by simp [results, Try.results15, go_sem, hc9]) rfl ⟨a9, c9, p9, q9, A9, rfl, ?_, ?_⟩
    · exact ((((HX.out.1.setOther (by simp) _).setOther (by simp) _).setOther (by simp) _).setOther (by simp) _).mono (by omega)
    · exact (((HX.out.2.setCell (by simp; try omega) _).setCell (by simp; try omega) _).setCell (by simp; try omega) _).setCell (by simp; try omega) _

set_option maxHeartbeats 1000000 in
theorem specSuper_good (a p : Option Addr) (n c m q : Nat) (d S : Nat → Int) (L : Nat → Nat) (F : Nat → Nat → Int) (fuel : Int) (dead : Bool) (gen ar fi : Int) (w : World) (ha : Rd .u8 w a n d) (hp : RdP w p m S L F) (hv : VD n m S L fuel) (hgd : goodB gen ar fi = true) (hn : n ≤ 1048576) (hm : m ≤ 1048576) (hL : ∀ i, i < m → L i ≤ 1048576) (d1 : Nat → Int) (m1 : Nat) (S1 : Nat → Int) (L1 : Nat → Nat) (F1 : Nat → Nat → Int) (fuel1 : Int) (dead1 : Bool) (d2 : Nat → Int) (m2 : Nat) (S2 : Nat → Int) (L2 : Nat → Nat) (F2 : Nat → Nat → Int) (fuel2 : Int) (dead2 : Bool)
    (hW : ∀ (W : World) (ad : Option Addr) (cp : Nat), Rd .u8 W a n d → RdP W p m S L F → Rd .u8 W ad 64 (superF gen ar fi) → Calls Try.prog 39 #[.agg #[.slice a n c, .slice p m q, .int .i64 fuel, .bool dead], .int .i64 (gen % 2), .slice ad 64 cp] W fun e w' => RetD W e w' n d1 m1 S1 L1 F1 fuel1 dead1)
    (hY : ∀ (W : World) (a p : Option Addr) (c q : Nat), Rd .u8 W a n d1 → RdP W p m1 S1 L1 F1 → Calls Try.prog 38 #[.agg #[.slice a n c, .slice p m1 q, .int .i64 fuel1, .bool dead1]] W fun e w' => RetD W e w' n d2 m2 S2 L2 F2 fuel2 dead2) :
    Calls Try.prog 15 #[.agg #[.slice a n c, .slice p m q, .int .i64 fuel, .bool dead], .agg #[.int .i64 gen, .int .i64 ar, .int .i64 fi]] w fun e w' => RetD w e w' n d2 m2 S2 L2 F2 fuel2 dead2 := by
  have HV : Hid (VD n m S L fuel) := hv
  have HGD : Hid (goodB gen ar fi = true) := hgd
  have HW : Hid (∀ (W : World) (ad : Option Addr) (cp : Nat), Rd .u8 W a n d → RdP W p m S L F → Rd .u8 W ad 64 (superF gen ar fi) → Calls Try.prog 39 #[.agg #[.slice a n c, .slice p m q, .int .i64 fuel, .bool dead], .int .i64 (gen % 2), .slice ad 64 cp] W fun e w' => RetD W e w' n d1 m1 S1 L1 F1 fuel1 dead1) := hW
  have HY : Hid (∀ (W : World) (a p : Option Addr) (c q : Nat), Rd .u8 W a n d1 → RdP W p m1 S1 L1 F1 → Calls Try.prog 38 #[.agg #[.slice a n c, .slice p m1 q, .int .i64 fuel1, .bool dead1]] W fun e w' => RetD W e w' n d2 m2 S2 L2 F2 fuel2 dead2) := hY
  have HA : Hid (Rd .u8 w a n d) := ha
  have HP : Hid (RdP w p m S L F) := hp
  have HLL : Hid (∀ i, i < m → L i ≤ 1048576) := hL
  have HFIN : Hid (∀ W : World, Below (w.heap.size + 3) (((w.alloc (.cells #[.slice a n c, .slice p m q, .int .i64 fuel, .bool dead] 40)).alloc (.cells #[.int .i64 gen, .int .i64 ar, .int .i64 fi] 34)).alloc (.cells #[.slice none 0 0, .slice none 0 0, .int .i64 0, .bool false] 40)) W → Below w.heap.size w W) := fun W h => (below_alloc3s _ _ _ _).trans (h.mono (by omega))
  have HE : Hid (∀ o1 o2 o3, (((w.alloc o1).alloc o2).alloc o3).heap.size = w.heap.size + 3) := fun _ _ _ => by simp
  clear ha hp hL hv hgd hW hY
  go_enter Try.func15, Try.ntmps15
  go_wp2_with fail
  refine (specValid_any a p n c m q S L F fuel dead _ (HP.out.below (below_alloc3s _ _ _ _)) hn hm).mono ?_
  rintro e w1 ⟨h1, hb1⟩
  have := ans_true' h1 HV.out
  subst this
  rw [HE.out] at hb1
  have K1 : Hid (Below (w.heap.size + 3) (((w.alloc (.cells #[.slice a n c, .slice p m q, .int .i64 fuel, .bool dead] 40)).alloc (.cells #[.int .i64 gen, .int .i64 ar, .int .i64 fi] 34)).alloc (.cells #[.slice none 0 0, .slice none 0 0, .int .i64 0, .bool false] 40)) w1) := hb1
  have hc1 : ∀ b o, b < w.heap.size + 3 → w1.cell? ⟨b, o, none⟩ = _ := fun b o hb => hb1.cell (p := ⟨b, o, none⟩) hb
  clear hb1 h1
  go_wp2_with fail
  refine (l2GoodSuper_any gen ar fi w1).mono ?_
  rintro e w2 ⟨he, hb2⟩
  rw [HGD.out] at he
  subst he
  have z1 : w.heap.size + 3 ≤ w1.heap.size := by have := K1.out.size; rw [HE.out] at this; exact this
  have K2 : Hid (Below (w.heap.size + 3) (((w.alloc (.cells #[.slice a n c, .slice p m q, .int .i64 fuel, .bool dead] 40)).alloc (.cells #[.int .i64 gen, .int .i64 ar, .int .i64 fi] 34)).alloc (.cells #[.slice none 0 0, .slice none 0 0, .int .i64 0, .bool false] 40)) w2) := K1.out.trans (hb2.mono z1)
  have z2 := hb2.size
  clear hc1 hb2
  have hc2 : ∀ b o, b < w.heap.size + 3 → w2.cell? ⟨b, o, none⟩ = _ := fun b o hb => K2.out.cell (p := ⟨b, o, none⟩) hb
  have eq1 : ∀ o, w2.cell? ⟨w.heap.size + 1, o, none⟩ = ((w.alloc (.cells #[.slice a n c, .slice p m q, .int .i64 fuel, .bool dead] 40)).alloc (.cells #[.int .i64 gen, .int .i64 ar, .int .i64 fi] 34)).cell? ⟨w.heap.size + 1, o, none⟩ := fun o => by
    rw [hc2 _ _ (by omega), (below_alloc _ _).cell (p := ⟨w.heap.size + 1, o, none⟩) (by simp)]
  have e0 : w2.cell? ⟨w.heap.size + 1, 0, none⟩ = some (.int .i64 gen) := by rw [eq1]; simp
  have e1 : w2.cell? ⟨w.heap.size + 1, 1, none⟩ = some (.int .i64 ar) := by rw [eq1]; simp
  have e2 : w2.cell? ⟨w.heap.size + 1, 2, none⟩ = some (.int .i64 fi) := by rw [eq1]; simp
  have d0 : ∀ o, w2.cell? ⟨w.heap.size, o, none⟩ = (w.alloc (.cells #[.slice a n c, .slice p m q, .int .i64 fuel, .bool dead] 40)).cell? ⟨w.heap.size, o, none⟩ := fun o => by
    rw [hc2 _ _ (by omega), (below_alloc2' _ _ _).cell (p := ⟨w.heap.size, o, none⟩) (by simp)]
  have y0 : w2.cell? ⟨w.heap.size, 0, none⟩ = some (.slice a n c) := by rw [d0]; simp
  have y1 : w2.cell? ⟨w.heap.size, 1, none⟩ = some (.slice p m q) := by rw [d0]; simp
  have y2 : w2.cell? ⟨w.heap.size, 2, none⟩ = some (.int .i64 fuel) := by rw [d0]; simp
  have y3 : w2.cell? ⟨w.heap.size, 3, none⟩ = some (.bool dead) := by rw [d0]; simp
  have hl : w.heap.size + 1 < w2.heap.size := by omega
  have KC : Hid (∀ W : World, Below w2.heap.size w2 W → ((W.cell? ⟨w.heap.size, 0, none⟩ = some (.slice a n c) ∧ W.cell? ⟨w.heap.size, 1, none⟩ = some (.slice p m q) ∧ W.cell? ⟨w.heap.size, 2, none⟩ = some (.int .i64 fuel) ∧ W.cell? ⟨w.heap.size, 3, none⟩ = some (.bool dead)) ∧ W.cell? ⟨w.heap.size + 1, 0, none⟩ = some (.int .i64 gen) ∧ W.cell? ⟨w.heap.size + 1, 1, none⟩ = some (.int .i64 ar) ∧ W.cell? ⟨w.heap.size + 1, 2, none⟩ = some (.int .i64 fi)) ∧ Below (w.heap.size + 3) (((w.alloc (.cells #[.slice a n c, .slice p m q, .int .i64 fuel, .bool dead] 40)).alloc (.cells #[.int .i64 gen, .int .i64 ar, .int .i64 fi] 34)).alloc (.cells #[.slice none 0 0, .slice none 0 0, .int .i64 0, .bool false] 40)) W ∧ Below w.heap.size w W ∧ w2.heap.size ≤ W.heap.size) := by
    intro W hb
    have q : ∀ b o, b < w2.heap.size → W.cell? ⟨b, o, none⟩ = w2.cell? ⟨b, o, none⟩ := fun b o h => hb.cell (p := ⟨b, o, none⟩) h
    refine ⟨⟨⟨?_, ?_, ?_, ?_⟩, ?_, ?_, ?_⟩, K2.out.trans (hb.mono (by omega)), (HFIN.out _ K2.out).trans (hb.mono (by omega)), hb.size⟩
    · rw [q _ _ (by omega)]; exact y0
    · rw [q _ _ (by omega)]; exact y1
    · rw [q _ _ (by omega)]; exact y2
    · rw [q _ _ (by omega)]; exact y3
    · rw [q _ _ (by omega)]; exact e0
    · rw [q _ _ (by omega)]; exact e1
    · rw [q _ _ (by omega)]; exact e2
  clear d0 eq1 hc2
  have hgd2 := HGD.out
  obtain ⟨g0, g1, a0, a1, f0, f1⟩ := goodB_range hgd2
  have HW' : Hid (∀ (W : World) (ad : Option Addr) (cp : Nat), Rd .u8 W a n d → RdP W p m S L F → Rd .u8 W ad 64 (superF gen ar fi) → Calls Try.prog 39 #[.agg #[.slice a n c, .slice p m q, .int .i64 fuel, .bool dead], .int .i64 (gen.tmod 2), .slice ad 64 cp] W fun e w' => RetD W e w' n d1 m1 S1 L1 F1 fuel1 dead1) := by
    rw [Int.tmod_eq_emod_of_nonneg g0]; exact HW.out
  have HSB : Hid (Calls Try.prog 40 #[.agg #[.int .i64 gen, .int .i64 ar, .int .i64 fi]] w2.drew fun e w' => RetOwn w2.drew e w' 64 (superF gen ar fi)) := l2SuperBytes_any gen ar fi w2.drew g0 (by omega) a0 a1 (by omega) (by omega)
  have HT : Hid (∀ W : World, Below w2.drew.heap.size w2.drew W → Below w2.heap.size w2 W) := fun W hb => (Below.refl _ _).drew.trans hb
  clear hgd2 HW
  have hne1 : ¬ (w.heap.size + 1 + 1 = w.heap.size) := by omega
  have hne2 : ¬ (w.heap.size = w.heap.size + 1 + 1) := by omega
  go_wp2
  go_region_held3 (fun w' => (w'.cell? ⟨w.heap.size, 0, none⟩ = some (.slice a n c) ∧ w'.cell? ⟨w.heap.size, 1, none⟩ = some (.slice p m q) ∧ w'.cell? ⟨w.heap.size, 2, none⟩ = some (.int .i64 fuel) ∧ w'.cell? ⟨w.heap.size, 3, none⟩ = some (.bool dead)) ∧ w'.cell? ⟨w.heap.size + 1, 0, none⟩ = some (.int .i64 gen) ∧ w'.cell? ⟨w.heap.size + 1, 1, none⟩ = some (.int .i64 ar) ∧ w'.cell? ⟨w.heap.size + 1, 2, none⟩ = some (.int .i64 fi)) (go_keep)
    (first
    | (go_at_call 40; refine HSB.out.mono ?_; rintro e w3 ⟨a3, c3, rfl, ho3, hb3, -, -⟩; obtain ⟨⟨⟨u0, u1, u2, u3⟩, v0, v1, v2⟩, -⟩ := KC.out w3 (HT.out _ hb3))
    | (go_at_call 39; refine (HW'.out w3 a3 c3 (HA.out.below (KC.out w3 (HT.out _ hb3)).2.2.1) (HP.out.below (KC.out w3 (HT.out _ hb3)).2.2.1) ho3.rd).mono ?_; rintro e w4 ⟨a4, c4, p4, q4, A4, rfl, ho4, hb4⟩; obtain ⟨⟨⟨u0, u1, u2, u3⟩, v0, v1, v2⟩, -⟩ := KC.out w4 ((HT.out _ hb3).trans (hb4.mono (HT.out _ hb3).size)))
    | (go_at_call 38; refine (HY.out w4 a4 p4 c4 q4 ho4.data.rd ho4.cache.rd).mono ?_; rintro e w9 ⟨a9, c9, p9, q9, A9, rfl, ho9, hb9⟩; obtain ⟨⟨⟨u0, u1, u2, u3⟩, v0, v1, v2⟩, K9, F9, z9⟩ := KC.out w9 (((HT.out _ hb3).trans (hb4.mono (HT.out _ hb3).size)).trans (hb9.mono (Nat.le_trans (HT.out _ hb3).size hb4.size))); have hc9 : ∀ o, w9.cell? ⟨w.heap.size + 1 + 1, o, none⟩ = _ := fun o => K9.cell (p := ⟨w.heap.size + 2, o, none⟩) (by show w.heap.size + 2 < w.heap.size + 3; omega); have hf9 : ∀ o, w9.frozen? ⟨w.heap.size + 1 + 1, o, none⟩ = _ := fun o => K9.frozen (p := ⟨w.heap.size + 2, o, none⟩) (by show w.heap.size + 2 < w.heap.size + 3; omega); have hz9 : w.heap.size + 1 + 1 < w9.heap.size := (by omega); have hz8 := Nat.le_trans (HT.out _ hb3).size hb4.size))
  have HX : Hid (OwnD w9 (w.heap.size + 3) a9 n d2 p9 m2 S2 L2 F2 A9 ∧ Below w.heap.size w w9) := ⟨ho9.mono (by omega), F9⟩
  clear ho9 ho4 ho3 hb9 hb4 hb3 K9 F9 u0 u1 u2 u3 v0 v1 v2 y0 y1 y2 y3 e0 e1 e2 KC HW' HY HSB HT
  go_wp2
  refine bodyPost_ret (v := .agg #[.slice a9 n c9, .slice p9 m2 q9, .int .i64 fuel2, .bool dead2]) (by simp [results, Try.results15, go_sem, hc9]) rfl ⟨a9, c9, p9, q9, A9, rfl, ?_, ?_⟩
  · exact ((((HX.out.1.setOther (by simp) _).setOther (by simp) _).setOther (by simp) _).setOther (by simp) _).mono (by omega)
  · exact (((HX.out.2.setCell (by simp; try omega) _).setCell (by simp; try omega) _).setCell (by simp; try omega) _).setCell (by simp; try omega) _
end Go.Proofs.Ytfbhlegkpmcfoaa
