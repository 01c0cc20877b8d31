import Derived.Test.YtfbhlegkpmcfoaaL1Step
import Derived.Test.YtfbhlegkpmcfoaaValid
namespace Go.Proofs.Ytfbhlegkpmcfoaa
open Go.RowKit Go.Deep
set_option linter.unusedVariables false
set_option maxRecDepth 100000

set_option maxHeartbeats 1000000 in
theorem specW_1 (a p ad : Option Addr) (n c m q dl cp : Nat) (d S : Nat → Int) (L : Nat → Nat) (F : Nat → Nat → Int) (fuel : Int) (dead : Bool) (s : Int) (w : World) (ha : Rd .u8 w a n d) (hp : RdP w p m S L F) (hn : n ≤ 1048576) (hm : m ≤ 1048576) (hL : ∀ i, i < m → L i ≤ 1048576) (hdl : dl ≤ 1048576) (hv : ¬ VD n m S L fuel) :
    Calls Try.prog 39 #[.agg #[.slice a n c, .slice p m q, .int .i64 fuel, .bool dead], .int .i64 s, .slice ad dl cp] w fun e w' => RetD w e w' n d m S L F fuel dead := by
  have HA : Hid (Rd .u8 w a n d) := ha
  have HP : Hid (RdP w p m S L F) := hp
  have HLL : Hid (∀ i, i < m → L i ≤ 1048576) := hL
  have HFIN : Hid (∀ W : World, Below (w.heap.size + 2) ((w.alloc (.cells #[.slice a n c, .slice p m q, .int .i64 fuel, .bool dead] 40)).alloc (.cells #[.slice none 0 0, .slice none 0 0, .int .i64 0, .bool false] 40)) W → Below w.heap.size w W) := fun W h => (below_alloc2' _ _ _).trans (h.mono (by omega))
  have HE2 : Hid (∀ o1 o2, ((w.alloc o1).alloc o2).heap.size = w.heap.size + 2) := fun _ _ => by simp
  have HV : Hid (¬ VD n m S L fuel) := hv
  clear ha hp hL hv
  go_enter Try.func39, Try.ntmps39
  go_wp2_with fail
  refine (specValid_any a p n c m q S L F fuel dead _ (HP.out.below (below_alloc2' _ _ _)) hn hm).mono ?_
  rintro e w1 ⟨h1, hb1⟩
  have e1 := ans_false' h1 HV.out
  subst e1
  rw [HE2.out] at hb1
  have K1 : Hid (Below (w.heap.size + 2) ((w.alloc (.cells #[.slice a n c, .slice p m q, .int .i64 fuel, .bool dead] 40)).alloc (.cells #[.slice none 0 0, .slice none 0 0, .int .i64 0, .bool false] 40)) w1) := hb1
  have z1 : w.heap.size + 2 ≤ w1.heap.size := by have := K1.out.size; rw [HE2.out] at this; exact this
  have hc1 : ∀ b o, b < w.heap.size + 2 → w1.cell? ⟨b, o, none⟩ = _ := fun b o hb => K1.out.cell (p := ⟨b, o, none⟩) hb
  clear hb1 h1
  go_wp2_with fail
  refine (l1Copy_any a p n c m q d S L F fuel dead w1 (HA.out.below (HFIN.out _ K1.out)) (HP.out.below (HFIN.out _ K1.out)) hn hm HLL.out).mono ?_
  rintro e w9 ⟨a9, c9, p9, q9, A9, rfl, ho9, hb9⟩
  have K9 : Below (w.heap.size + 2) ((w.alloc (.cells #[.slice a n c, .slice p m q, .int .i64 fuel, .bool dead] 40)).alloc (.cells #[.slice none 0 0, .slice none 0 0, .int .i64 0, .bool false] 40)) w9 := K1.out.trans (hb9.mono (by omega))
  have hc9 : ∀ b o, b < w.heap.size + 2 → w9.cell? ⟨b, o, none⟩ = _ := fun b o hb => K9.cell (p := ⟨b, o, none⟩) hb
  have hf9 : ∀ b o, b < w.heap.size + 2 → w9.frozen? ⟨b, o, none⟩ = _ := fun b o hb => K9.frozen (p := ⟨b, o, none⟩) hb
  have hz9 : w.heap.size + 1 < w9.heap.size := by have := hb9.size; omega
  have HX : Hid (OwnD w9 (w.heap.size + 2) a9 n d p9 m S L F A9 ∧ Below w.heap.size w w9) := ⟨ho9.mono (by omega), HFIN.out _ K9⟩
  clear ho9 hb9 K9 hc1
  go_wp2
  refine bodyPost_ret (v := .agg #[.slice a9 n c9, .slice p9 m q9, .int .i64 fuel, .bool dead]) (by simp [results, Try.results39, go_sem, hc9]) rfl ⟨a9, c9, p9, q9, A9, rfl, ?_, ?_⟩
  · exact ((((HX.out.1.setOther (by simp) _).setOther (by simp) _).setOther (by simp) _).setOther (by simp) _).mono (by omega)
  · exact (((HX.out.2.setCell (by simp; try omega) _).setCell (by simp; try omega) _).setCell (by simp; try omega) _).setCell (by simp; try omega) _

set_option maxHeartbeats 1000000 in
theorem specW_2 (a p ad : Option Addr) (n c m q dl cp : Nat) (d S : Nat → Int) (L : Nat → Nat) (F : Nat → Nat → Int) (fuel : Int) (s : Int) (w : World) (ha : Rd .u8 w a n d) (hp : RdP w p m S L F) (hn : n ≤ 1048576) (hm : m ≤ 1048576) (hL : ∀ i, i < m → L i ≤ 1048576) (hdl : dl ≤ 1048576) (hv : VD n m S L fuel) :
    Calls Try.prog 39 #[.agg #[.slice a n c, .slice p m q, .int .i64 fuel, .bool true], .int .i64 s, .slice ad dl cp] w fun e w' => RetD w e w' n d m S L F fuel true := by
  have HA : Hid (Rd .u8 w a n d) := ha
  have HP : Hid (RdP w p m S L F) := hp
  have HLL : Hid (∀ i, i < m → L i ≤ 1048576) := hL
  have HFIN : Hid (∀ W : World, Below (w.heap.size + 2) ((w.alloc (.cells #[.slice a n c, .slice p m q, .int .i64 fuel, .bool true] 40)).alloc (.cells #[.slice none 0 0, .slice none 0 0, .int .i64 0, .bool false] 40)) W → Below w.heap.size w W) := fun W h => (below_alloc2' _ _ _).trans (h.mono (by omega))
  have HE2 : Hid (∀ o1 o2, ((w.alloc o1).alloc o2).heap.size = w.heap.size + 2) := fun _ _ => by simp
  have HV : Hid (VD n m S L fuel) := hv
  clear ha hp hL hv
  go_enter Try.func39, Try.ntmps39
  go_wp2_with fail
  refine (specValid_any a p n c m q S L F fuel true _ (HP.out.below (below_alloc2' _ _ _)) hn hm).mono ?_
  rintro e w1 ⟨h1, hb1⟩
  have e1 := ans_true' h1 HV.out
  subst e1
  rw [HE2.out] at hb1
  have K1 : Hid (Below (w.heap.size + 2) ((w.alloc (.cells #[.slice a n c, .slice p m q, .int .i64 fuel, .bool true] 40)).alloc (.cells #[.slice none 0 0, .slice none 0 0, .int .i64 0, .bool false] 40)) w1) := hb1
  have z1 : w.heap.size + 2 ≤ w1.heap.size := by have := K1.out.size; rw [HE2.out] at this; exact this
  have hc1 : ∀ b o, b < w.heap.size + 2 → w1.cell? ⟨b, o, none⟩ = _ := fun b o hb => K1.out.cell (p := ⟨b, o, none⟩) hb
  clear hb1 h1
  go_wp2_with fail
  refine (l1Copy_any a p n c m q d S L F fuel true w1 (HA.out.below (HFIN.out _ K1.out)) (HP.out.below (HFIN.out _ K1.out)) hn hm HLL.out).mono ?_
  rintro e w9 ⟨a9, c9, p9, q9, A9, rfl, ho9, hb9⟩
  have K9 : Below (w.heap.size + 2) ((w.alloc (.cells #[.slice a n c, .slice p m q, .int .i64 fuel, .bool true] 40)).alloc (.cells #[.slice none 0 0, .slice none 0 0, .int .i64 0, .bool false] 40)) w9 := K1.out.trans (hb9.mono (by omega))
  have hc9 : ∀ b o, b < w.heap.size + 2 → w9.cell? ⟨b, o, none⟩ = _ := fun b o hb => K9.cell (p := ⟨b, o, none⟩) hb
  have hf9 : ∀ b o, b < w.heap.size + 2 → w9.frozen? ⟨b, o, none⟩ = _ := fun b o hb => K9.frozen (p := ⟨b, o, none⟩) hb
  have hz9 : w.heap.size + 1 < w9.heap.size := by have := hb9.size; omega
  have HX : Hid (OwnD w9 (w.heap.size + 2) a9 n d p9 m S L F A9 ∧ Below w.heap.size w w9) := ⟨ho9.mono (by omega), HFIN.out _ K9⟩
  clear ho9 hb9 K9 hc1
  go_wp2
  refine bodyPost_ret (v := .agg #[.slice a9 n c9, .slice p9 m q9, .int .i64 fuel, .bool true]) (by simp [results, Try.results39, go_sem, hc9]) rfl ⟨a9, c9, p9, q9, A9, rfl, ?_, ?_⟩
  · exact ((((HX.out.1.setOther (by simp) _).setOther (by simp) _).setOther (by simp) _).setOther (by simp) _).mono (by omega)
  · exact (((HX.out.2.setCell (by simp; try omega) _).setCell (by simp; try omega) _).setCell (by simp; try omega) _).setCell (by simp; try omega) _

set_option maxHeartbeats 1000000 in
theorem specW_3 (a p ad : Option Addr) (n c m q dl cp : Nat) (d S : Nat → Int) (L : Nat → Nat) (F : Nat → Nat → Int) (fuel : Int) (s : Int) (w : World) (ha : Rd .u8 w a n d) (hp : RdP w p m S L F) (hn : n ≤ 1048576) (hm : m ≤ 1048576) (hL : ∀ i, i < m → L i ≤ 1048576) (hdl : dl ≤ 1048576) (hv : VD n m S L fuel) (hs : s < 0) :
    Calls Try.prog 39 #[.agg #[.slice a n c, .slice p m q, .int .i64 fuel, .bool false], .int .i64 s, .slice ad dl cp] w fun e w' => RetD w e w' n d m S L F fuel false := by
  have HA : Hid (Rd .u8 w a n d) := ha
  have HP : Hid (RdP w p m S L F) := hp
  have HLL : Hid (∀ i, i < m → L i ≤ 1048576) := hL
  have HFIN : Hid (∀ W : World, Below (w.heap.size + 2) ((w.alloc (.cells #[.slice a n c, .slice p m q, .int .i64 fuel, .bool false] 40)).alloc (.cells #[.slice none 0 0, .slice none 0 0, .int .i64 0, .bool false] 40)) W → Below w.heap.size w W) := fun W h => (below_alloc2' _ _ _).trans (h.mono (by omega))
  have HE2 : Hid (∀ o1 o2, ((w.alloc o1).alloc o2).heap.size = w.heap.size + 2) := fun _ _ => by simp
  have HV : Hid (VD n m S L fuel) := hv
  clear ha hp hL hv
  go_enter Try.func39, Try.ntmps39
  go_wp2_with fail
  refine (specValid_any a p n c m q S L F fuel false _ (HP.out.below (below_alloc2' _ _ _)) hn hm).mono ?_
  rintro e w1 ⟨h1, hb1⟩
  have e1 := ans_true' h1 HV.out
  subst e1
  rw [HE2.out] at hb1
  have K1 : Hid (Below (w.heap.size + 2) ((w.alloc (.cells #[.slice a n c, .slice p m q, .int .i64 fuel, .bool false] 40)).alloc (.cells #[.slice none 0 0, .slice none 0 0, .int .i64 0, .bool false] 40)) w1) := hb1
  have z1 : w.heap.size + 2 ≤ w1.heap.size := by have := K1.out.size; rw [HE2.out] at this; exact this
  have hc1 : ∀ b o, b < w.heap.size + 2 → w1.cell? ⟨b, o, none⟩ = _ := fun b o hb => K1.out.cell (p := ⟨b, o, none⟩) hb
  clear hb1 h1
  go_wp2_with fail
  refine (l1Copy_any a p n c m q d S L F fuel false w1 (HA.out.below (HFIN.out _ K1.out)) (HP.out.below (HFIN.out _ K1.out)) hn hm HLL.out).mono ?_
  rintro e w9 ⟨a9, c9, p9, q9, A9, rfl, ho9, hb9⟩
  have K9 : Below (w.heap.size + 2) ((w.alloc (.cells #[.slice a n c, .slice p m q, .int .i64 fuel, .bool false] 40)).alloc (.cells #[.slice none 0 0, .slice none 0 0, .int .i64 0, .bool false] 40)) w9 := K1.out.trans (hb9.mono (by omega))
  have hc9 : ∀ b o, b < w.heap.size + 2 → w9.cell? ⟨b, o, none⟩ = _ := fun b o hb => K9.cell (p := ⟨b, o, none⟩) hb
  have hf9 : ∀ b o, b < w.heap.size + 2 → w9.frozen? ⟨b, o, none⟩ = _ := fun b o hb => K9.frozen (p := ⟨b, o, none⟩) hb
  have hz9 : w.heap.size + 1 < w9.heap.size := by have := hb9.size; omega
  have HX : Hid (OwnD w9 (w.heap.size + 2) a9 n d p9 m S L F A9 ∧ Below w.heap.size w w9) := ⟨ho9.mono (by omega), HFIN.out _ K9⟩
  clear ho9 hb9 K9 hc1
  go_wp2
  refine bodyPost_ret (v := .agg #[.slice a9 n c9, .slice p9 m q9, .int .i64 fuel, .bool false]) (by simp [results, Try.results39, go_sem, hc9]) rfl ⟨a9, c9, p9, q9, A9, rfl, ?_, ?_⟩
  · exact ((((HX.out.1.setOther (by simp) _).setOther (by simp) _).setOther (by simp) _).setOther (by simp) _).mono (by omega)
  · exact (((HX.out.2.setCell (by simp; try omega) _).setCell (by simp; try omega) _).setCell (by simp; try omega) _).setCell (by simp; try omega) _

set_option maxHeartbeats 1000000 in
theorem specW_4 (a p ad : Option Addr) (n c m q dl cp : Nat) (d S : Nat → Int) (L : Nat → Nat) (F : Nat → Nat → Int) (fuel : Int) (s : Int) (w : World) (ha : Rd .u8 w a n d) (hp : RdP w p m S L F) (hn : n ≤ 1048576) (hm : m ≤ 1048576) (hL : ∀ i, i < m → L i ≤ 1048576) (hdl : dl ≤ 1048576) (hv : VD n m S L fuel) (hs : ¬ s < 0) (hs2 : (n : Int) / 64 ≤ s) :
    Calls Try.prog 39 #[.agg #[.slice a n c, .slice p m q, .int .i64 fuel, .bool false], .int .i64 s, .slice ad dl cp] w fun e w' => RetD w e w' n d m S L F fuel false := by
  have HA : Hid (Rd .u8 w a n d) := ha
  have HP : Hid (RdP w p m S L F) := hp
  have HLL : Hid (∀ i, i < m → L i ≤ 1048576) := hL
  have HFIN : Hid (∀ W : World, Below (w.heap.size + 2) ((w.alloc (.cells #[.slice a n c, .slice p m q, .int .i64 fuel, .bool false] 40)).alloc (.cells #[.slice none 0 0, .slice none 0 0, .int .i64 0, .bool false] 40)) W → Below w.heap.size w W) := fun W h => (below_alloc2' _ _ _).trans (h.mono (by omega))
  have HE2 : Hid (∀ o1 o2, ((w.alloc o1).alloc o2).heap.size = w.heap.size + 2) := fun _ _ => by simp
  have HV : Hid (VD n m S L fuel) := hv
  clear ha hp hL hv
  go_enter Try.func39, Try.ntmps39
  go_wp2_with fail
  refine (specValid_any a p n c m q S L F fuel false _ (HP.out.below (below_alloc2' _ _ _)) hn hm).mono ?_
  rintro e w1 ⟨h1, hb1⟩
  have e1 := ans_true' h1 HV.out
  subst e1
  rw [HE2.out] at hb1
  have K1 : Hid (Below (w.heap.size + 2) ((w.alloc (.cells #[.slice a n c, .slice p m q, .int .i64 fuel, .bool false] 40)).alloc (.cells #[.slice none 0 0, .slice none 0 0, .int .i64 0, .bool false] 40)) w1) := hb1
  have z1 : w.heap.size + 2 ≤ w1.heap.size := by have := K1.out.size; rw [HE2.out] at this; exact this
  have hc1 : ∀ b o, b < w.heap.size + 2 → w1.cell? ⟨b, o, none⟩ = _ := fun b o hb => K1.out.cell (p := ⟨b, o, none⟩) hb
  clear hb1 h1
  go_wp2_with fail
  refine (l1Sectors_any a p n c m q fuel false w1 hn).mono ?_
  rintro e w2 ⟨rfl, hb2⟩
  have z2 := hb2.size
  have K2 : Hid (Below (w.heap.size + 2) ((w.alloc (.cells #[.slice a n c, .slice p m q, .int .i64 fuel, .bool false] 40)).alloc (.cells #[.slice none 0 0, .slice none 0 0, .int .i64 0, .bool false] 40)) w2) := K1.out.trans (hb2.mono z1)
  clear hc1 hb2
  have hc2 : ∀ b o, b < w.heap.size + 2 → w2.cell? ⟨b, o, none⟩ = _ := fun b o hb => K2.out.cell (p := ⟨b, o, none⟩) hb
  go_wp2_with fail
  refine (l1Copy_any a p n c m q d S L F fuel false w2 (HA.out.below (HFIN.out _ K2.out)) (HP.out.below (HFIN.out _ K2.out)) hn hm HLL.out).mono ?_
  rintro e w9 ⟨a9, c9, p9, q9, A9, rfl, ho9, hb9⟩
  have K9 : Below (w.heap.size + 2) ((w.alloc (.cells #[.slice a n c, .slice p m q, .int .i64 fuel, .bool false] 40)).alloc (.cells #[.slice none 0 0, .slice none 0 0, .int .i64 0, .bool false] 40)) w9 := K2.out.trans (hb9.mono (by omega))
  have hc9 : ∀ b o, b < w.heap.size + 2 → w9.cell? ⟨b, o, none⟩ = _ := fun b o hb => K9.cell (p := ⟨b, o, none⟩) hb
  have hf9 : ∀ b o, b < w.heap.size + 2 → w9.frozen? ⟨b, o, none⟩ = _ := fun b o hb => K9.frozen (p := ⟨b, o, none⟩) hb
  have hz9 : w.heap.size + 1 < w9.heap.size := by have := hb9.size; omega
  have HX : Hid (OwnD w9 (w.heap.size + 2) a9 n d p9 m S L F A9 ∧ Below w.heap.size w w9) := ⟨ho9.mono (by omega), HFIN.out _ K9⟩
  clear ho9 hb9 K9 hc2
  go_wp2
  refine bodyPost_ret (v := .agg #[.slice a9 n c9, .slice p9 m q9, .int .i64 fuel, .bool false]) (by simp [results, Try.results39, go_sem, hc9]) rfl ⟨a9, c9, p9, q9, A9, rfl, ?_, ?_⟩
  · exact ((((HX.out.1.setOther (by simp) _).setOther (by simp) _).setOther (by simp) _).setOther (by simp) _).mono (by omega)
  · exact (((HX.out.2.setCell (by simp; try omega) _).setCell (by simp; try omega) _).setCell (by simp; try omega) _).setCell (by simp; try omega) _

set_option maxHeartbeats 1000000 in
theorem specW_5 (a p ad : Option Addr) (n c m q dl cp : Nat) (d S : Nat → Int) (L : Nat → Nat) (F : Nat → Nat → Int) (fuel : Int) (s : Int) (w : World) (ha : Rd .u8 w a n d) (hp : RdP w p m S L F) (hn : n ≤ 1048576) (hm : m ≤ 1048576) (hL : ∀ i, i < m → L i ≤ 1048576) (hdl : dl ≤ 1048576) (hv : VD n m S L fuel) (hs : ¬ s < 0) (hs2 : ¬ (n : Int) / 64 ≤ s) (hne : ¬ dl = 64) :
    Calls Try.prog 39 #[.agg #[.slice a n c, .slice p m q, .int .i64 fuel, .bool false], .int .i64 s, .slice ad dl cp] w fun e w' => RetD w e w' n d m S L F fuel false := by
  have HA : Hid (Rd .u8 w a n d) := ha
  have HP : Hid (RdP w p m S L F) := hp
  have HLL : Hid (∀ i, i < m → L i ≤ 1048576) := hL
  have HFIN : Hid (∀ W : World, Below (w.heap.size + 2) ((w.alloc (.cells #[.slice a n c, .slice p m q, .int .i64 fuel, .bool false] 40)).alloc (.cells #[.slice none 0 0, .slice none 0 0, .int .i64 0, .bool false] 40)) W → Below w.heap.size w W) := fun W h => (below_alloc2' _ _ _).trans (h.mono (by omega))
  have HE2 : Hid (∀ o1 o2, ((w.alloc o1).alloc o2).heap.size = w.heap.size + 2) := fun _ _ => by simp
  have HV : Hid (VD n m S L fuel) := hv
  have hne' : ((dl : Int) != 64) = true := by rw [bne_iff_ne]; omega
  clear ha hp hL hv hne
  go_enter Try.func39, Try.ntmps39
  go_wp2_with fail
  refine (specValid_any a p n c m q S L F fuel false _ (HP.out.below (below_alloc2' _ _ _)) hn hm).mono ?_
  rintro e w1 ⟨h1, hb1⟩
  have e1 := ans_true' h1 HV.out
  subst e1
  rw [HE2.out] at hb1
  have K1 : Hid (Below (w.heap.size + 2) ((w.alloc (.cells #[.slice a n c, .slice p m q, .int .i64 fuel, .bool false] 40)).alloc (.cells #[.slice none 0 0, .slice none 0 0, .int .i64 0, .bool false] 40)) w1) := hb1
  have z1 : w.heap.size + 2 ≤ w1.heap.size := by have := K1.out.size; rw [HE2.out] at this; exact this
  have hc1 : ∀ b o, b < w.heap.size + 2 → w1.cell? ⟨b, o, none⟩ = _ := fun b o hb => K1.out.cell (p := ⟨b, o, none⟩) hb
  clear hb1 h1
  go_wp2_with fail
  refine (l1Sectors_any a p n c m q fuel false w1 hn).mono ?_
  rintro e w2 ⟨rfl, hb2⟩
  have z2 := hb2.size
  have K2 : Hid (Below (w.heap.size + 2) ((w.alloc (.cells #[.slice a n c, .slice p m q, .int .i64 fuel, .bool false] 40)).alloc (.cells #[.slice none 0 0, .slice none 0 0, .int .i64 0, .bool false] 40)) w2) := K1.out.trans (hb2.mono z1)
  clear hc1 hb2
  have hc2 : ∀ b o, b < w.heap.size + 2 → w2.cell? ⟨b, o, none⟩ = _ := fun b o hb => K2.out.cell (p := ⟨b, o, none⟩) hb
  go_wp2_with fail
  refine (l1Copy_any a p n c m q d S L F fuel false w2 (HA.out.below (HFIN.out _ K2.out)) (HP.out.below (HFIN.out _ K2.out)) hn hm HLL.out).mono ?_
  rintro e w9 ⟨a9, c9, p9, q9, A9, rfl, ho9, hb9⟩
  have K9 : Below (w.heap.size + 2) ((w.alloc (.cells #[.slice a n c, .slice p m q, .int .i64 fuel, .bool false] 40)).alloc (.cells #[.slice none 0 0, .slice none 0 0, .int .i64 0, .bool false] 40)) w9 := K2.out.trans (hb9.mono (by omega))
  have hc9 : ∀ b o, b < w.heap.size + 2 → w9.cell? ⟨b, o, none⟩ = _ := fun b o hb => K9.cell (p := ⟨b, o, none⟩) hb
  have hf9 : ∀ b o, b < w.heap.size + 2 → w9.frozen? ⟨b, o, none⟩ = _ := fun b o hb => K9.frozen (p := ⟨b, o, none⟩) hb
  have hz9 : w.heap.size + 1 < w9.heap.size := by have := hb9.size; omega
  have HX : Hid (OwnD w9 (w.heap.size + 2) a9 n d p9 m S L F A9 ∧ Below w.heap.size w w9) := ⟨ho9.mono (by omega), HFIN.out _ K9⟩
  clear ho9 hb9 K9 hc2
  go_wp2
  refine bodyPost_ret (v := .agg #[.slice a9 n c9, .slice p9 m q9, .int .i64 fuel, .bool false]) (by simp [results, Try.results39, go_sem, hc9]) rfl ⟨a9, c9, p9, q9, A9, rfl, ?_, ?_⟩
  · exact ((((HX.out.1.setOther (by simp) _).setOther (by simp) _).setOther (by simp) _).setOther (by simp) _).mono (by omega)
  · exact (((HX.out.2.setCell (by simp; try omega) _).setCell (by simp; try omega) _).setCell (by simp; try omega) _).setCell (by simp; try omega) _

set_option maxHeartbeats 1000000 in
theorem specW_6 (a p ad : Option Addr) (n c m q cp : Nat) (d S : Nat → Int) (L : Nat → Nat) (F : Nat → Nat → Int) (fuel : Int) (s : Int) (w : World) (ha : Rd .u8 w a n d) (hp : RdP w p m S L F) (hn : n ≤ 1048576) (hm : m ≤ 1048576) (hL : ∀ i, i < m → L i ≤ 1048576) (hv : VD n m S L fuel) (hs : ¬ s < 0) (hs2 : ¬ (n : Int) / 64 ≤ s) (hfull : m = 2000) :
    Calls Try.prog 39 #[.agg #[.slice a n c, .slice p m q, .int .i64 fuel, .bool false], .int .i64 s, .slice ad 64 cp] w fun e w' => RetD w e w' n d m S L F fuel false := by
  have HA : Hid (Rd .u8 w a n d) := ha
  have HP : Hid (RdP w p m S L F) := hp
  have HLL : Hid (∀ i, i < m → L i ≤ 1048576) := hL
  have HFIN : Hid (∀ W : World, Below (w.heap.size + 2) ((w.alloc (.cells #[.slice a n c, .slice p m q, .int .i64 fuel, .bool false] 40)).alloc (.cells #[.slice none 0 0, .slice none 0 0, .int .i64 0, .bool false] 40)) W → Below w.heap.size w W) := fun W h => (below_alloc2' _ _ _).trans (h.mono (by omega))
  have HE2 : Hid (∀ o1 o2, ((w.alloc o1).alloc o2).heap.size = w.heap.size + 2) := fun _ _ => by simp
  have HV : Hid (VD n m S L fuel) := hv
  have hm' : ((m : Int) == 2000) = true := by simp; omega
  clear ha hp hL hv hfull
  go_enter Try.func39, Try.ntmps39
  go_wp2_with fail
  refine (specValid_any a p n c m q S L F fuel false _ (HP.out.below (below_alloc2' _ _ _)) hn hm).mono ?_
  rintro e w1 ⟨h1, hb1⟩
  have e1 := ans_true' h1 HV.out
  subst e1
  rw [HE2.out] at hb1
  have K1 : Hid (Below (w.heap.size + 2) ((w.alloc (.cells #[.slice a n c, .slice p m q, .int .i64 fuel, .bool false] 40)).alloc (.cells #[.slice none 0 0, .slice none 0 0, .int .i64 0, .bool false] 40)) w1) := hb1
  have z1 : w.heap.size + 2 ≤ w1.heap.size := by have := K1.out.size; rw [HE2.out] at this; exact this
  have hc1 : ∀ b o, b < w.heap.size + 2 → w1.cell? ⟨b, o, none⟩ = _ := fun b o hb => K1.out.cell (p := ⟨b, o, none⟩) hb
  clear hb1 h1
  go_wp2_with fail
  refine (l1Sectors_any a p n c m q fuel false w1 hn).mono ?_
  rintro e w2 ⟨rfl, hb2⟩
  have z2 := hb2.size
  have K2 : Hid (Below (w.heap.size + 2) ((w.alloc (.cells #[.slice a n c, .slice p m q, .int .i64 fuel, .bool false] 40)).alloc (.cells #[.slice none 0 0, .slice none 0 0, .int .i64 0, .bool false] 40)) w2) := K1.out.trans (hb2.mono z1)
  clear hc1 hb2
  have hc2 : ∀ b o, b < w.heap.size + 2 → w2.cell? ⟨b, o, none⟩ = _ := fun b o hb => K2.out.cell (p := ⟨b, o, none⟩) hb
  go_wp2_with fail
  refine (l1Copy_any a p n c m q d S L F fuel false w2 (HA.out.below (HFIN.out _ K2.out)) (HP.out.below (HFIN.out _ K2.out)) hn hm HLL.out).mono ?_
  rintro e w9 ⟨a9, c9, p9, q9, A9, rfl, ho9, hb9⟩
  have K9 : Below (w.heap.size + 2) ((w.alloc (.cells #[.slice a n c, .slice p m q, .int .i64 fuel, .bool false] 40)).alloc (.cells #[.slice none 0 0, .slice none 0 0, .int .i64 0, .bool false] 40)) w9 := K2.out.trans (hb9.mono (by omega))
  have hc9 : ∀ b o, b < w.heap.size + 2 → w9.cell? ⟨b, o, none⟩ = _ := fun b o hb => K9.cell (p := ⟨b, o, none⟩) hb
  have hf9 : ∀ b o, b < w.heap.size + 2 → w9.frozen? ⟨b, o, none⟩ = _ := fun b o hb => K9.frozen (p := ⟨b, o, none⟩) hb
  have hz9 : w.heap.size + 1 < w9.heap.size := by have := hb9.size; omega
  have HX : Hid (OwnD w9 (w.heap.size + 2) a9 n d p9 m S L F A9 ∧ Below w.heap.size w w9) := ⟨ho9.mono (by omega), HFIN.out _ K9⟩
  clear ho9 hb9 K9 hc2
  go_wp2
  refine bodyPost_ret (v := .agg #[.slice a9 n c9, .slice p9 m q9, .int .i64 fuel, .bool false]) (by simp [results, Try.results39, go_sem, hc9]) rfl ⟨a9, c9, p9, q9, A9, rfl, ?_, ?_⟩
  · exact ((((HX.out.1.setOther (by simp) _).setOther (by simp) _).setOther (by simp) _).setOther (by simp) _).mono (by omega)
  · exact (((HX.out.2.setCell (by simp; try omega) _).setCell (by simp; try omega) _).setCell (by simp; try omega) _).setCell (by simp; try omega) _

set_option maxHeartbeats 1000000 in
theorem specW_zero (a p ad : Option Addr) (n c m q cp : Nat) (d S : Nat → Int) (L : Nat → Nat) (F : Nat → Nat → Int) (s : Int) (w : World) (ha : Rd .u8 w a n d) (hp : RdP w p m S L F) (hn : n ≤ 1048576) (hm : m ≤ 1048576) (hL : ∀ i, i < m → L i ≤ 1048576) (hv : VD n m S L 0) (hs : ¬ s < 0) (hs2 : ¬ (n : Int) / 64 ≤ s) (hfull : ¬ m = 2000) :
    Calls Try.prog 39 #[.agg #[.slice a n c, .slice p m q, .int .i64 0, .bool false], .int .i64 s, .slice ad 64 cp] w fun e w' => RetG w e w' n d m S L F 0 true := by
  have HA : Hid (Rd .u8 w a n d) := ha
  have HP : Hid (RdP w p m S L F) := hp
  have HLL : Hid (∀ i, i < m → L i ≤ 1048576) := hL
  have HFIN : Hid (∀ W : World, Below (w.heap.size + 2) ((w.alloc (.cells #[.slice a n c, .slice p m q, .int .i64 0, .bool false] 40)).alloc (.cells #[.slice none 0 0, .slice none 0 0, .int .i64 0, .bool false] 40)) W → Below w.heap.size w W) := fun W h => (below_alloc2' _ _ _).trans (h.mono (by omega))
  have HE2 : Hid (∀ o1 o2, ((w.alloc o1).alloc o2).heap.size = w.heap.size + 2) := fun _ _ => by simp
  have HV : Hid (VD n m S L 0) := hv
  have hm' : ((m : Int) == 2000) = false := by simp; omega
  clear ha hp hL hv hfull
  go_enter Try.func39, Try.ntmps39
  go_wp2_with fail
  refine (specValid_any a p n c m q S L F 0 false _ (HP.out.below (below_alloc2' _ _ _)) hn hm).mono ?_
  rintro e w1 ⟨h1, hb1⟩
  have e1 := ans_true' h1 HV.out
  subst e1
  rw [HE2.out] at hb1
  have K1 : Hid (Below (w.heap.size + 2) ((w.alloc (.cells #[.slice a n c, .slice p m q, .int .i64 0, .bool false] 40)).alloc (.cells #[.slice none 0 0, .slice none 0 0, .int .i64 0, .bool false] 40)) w1) := hb1
  have z1 : w.heap.size + 2 ≤ w1.heap.size := by have := K1.out.size; rw [HE2.out] at this; exact this
  have hc1 : ∀ b o, b < w.heap.size + 2 → w1.cell? ⟨b, o, none⟩ = _ := fun b o hb => K1.out.cell (p := ⟨b, o, none⟩) hb
  clear hb1 h1
  go_wp2_with fail
  refine (l1Sectors_any a p n c m q 0 false w1 hn).mono ?_
  rintro e w2 ⟨rfl, hb2⟩
  have z2 := hb2.size
  have K2 : Hid (Below (w.heap.size + 2) ((w.alloc (.cells #[.slice a n c, .slice p m q, .int .i64 0, .bool false] 40)).alloc (.cells #[.slice none 0 0, .slice none 0 0, .int .i64 0, .bool false] 40)) w2) := K1.out.trans (hb2.mono z1)
  clear hc1 hb2
  have hc2 : ∀ b o, b < w.heap.size + 2 → w2.cell? ⟨b, o, none⟩ = _ := fun b o hb => K2.out.cell (p := ⟨b, o, none⟩) hb
  go_wp2_with fail
  refine (l1Step_zero a p n c m q d S L F false w2 (HA.out.below (HFIN.out _ K2.out)) (HP.out.below (HFIN.out _ K2.out)) hn hm HLL.out).mono ?_
  rintro e w3 ⟨a3, c3, p3, q3, A3, C3, rfl, ho3, hg3, hx3, hb3, hl3, hm3⟩
  have z3 := hb3.size
  have K3 : Hid (Below (w.heap.size + 2) ((w.alloc (.cells #[.slice a n c, .slice p m q, .int .i64 0, .bool false] 40)).alloc (.cells #[.slice none 0 0, .slice none 0 0, .int .i64 0, .bool false] 40)) w3) := K2.out.trans (hb3.mono (by omega))
  have HX : Hid ((OwnB w3 (w.heap.size + 2) a3 n d ∧ Gath w3 (w.heap.size + 2) (.slice p3 m q3) m S L F A3 C3 ∧ (n ≠ 0 → ∀ i, i < m → L i ≠ 0 → A3 i ≠ a3)) ∧ Below w.heap.size w w3) := ⟨⟨ho3.mono (by omega), hg3.mono (by omega), hx3⟩, HFIN.out _ K3.out⟩
  have DB : Hid (DkRow w3 (w.heap.size + 1) (.slice none 0 0) (.slice none 0 0) 0 false) := box_res K3.out
  have al : ∀ O o, (w3.alloc O).cell? ⟨w.heap.size + 1, o, none⟩ = w3.cell? ⟨w.heap.size + 1, o, none⟩ := fun O o => World.cell?_of_block (Below.heap_alloc _ _ _ (by show w.heap.size + 1 < _; omega))
  have af : ∀ O o, (w3.alloc O).frozen? ⟨w.heap.size + 1, o, none⟩ = w3.frozen? ⟨w.heap.size + 1, o, none⟩ := fun O o => (below_alloc w3 O).frozen (p := ⟨w.heap.size + 1, o, none⟩) (by show w.heap.size + 1 < _; omega)
  have r0 : ∀ O, (w3.alloc O).cell? ⟨w.heap.size + 1, 0, none⟩ = some (.slice none 0 0) := fun O => (al O 0).trans DB.out.cells.1
  have r1 : ∀ O, (w3.alloc O).cell? ⟨w.heap.size + 1, 1, none⟩ = some (.slice none 0 0) := fun O => (al O 1).trans DB.out.cells.2.1
  have r2 : ∀ O, (w3.alloc O).cell? ⟨w.heap.size + 1, 2, none⟩ = some (.int .i64 0) := fun O => (al O 2).trans DB.out.cells.2.2.1
  have r3 : ∀ O, (w3.alloc O).cell? ⟨w.heap.size + 1, 3, none⟩ = some (.bool false) := fun O => (al O 3).trans DB.out.cells.2.2.2.1
  have rf : ∀ O o, (w3.alloc O).frozen? ⟨w.heap.size + 1, o, none⟩ = false := fun O o => (af O o).trans (DB.out.cells.2.2.2.2.1 o)
  have rl : w.heap.size + 1 < w3.heap.size := by omega
  clear al af hc2
  obtain ⟨d0, d1, d2, d3, df, dl⟩ := DB.out.cells
  clear ho3 hg3 hx3 hb3
  go_wp2
  have DR : Hid (DkRow ((set4 w3 (w.heap.size + 1) (.slice a3 n c3) (.slice p3 m q3) 0 true).alloc (.cells #[.slice a3 n c3, .slice p3 m q3, .int .i64 0, .bool true] 40)) (w.heap.size + 1) (.slice a3 n c3) (.slice p3 m q3) 0 true) := (dk_set4 DB.out).below (below_alloc _ _)
  obtain ⟨y0, y1, y2, y3, yf, yl⟩ := DR.out.cells
  clear r0 r1 r2 r3 rf d0 d1 d2 d3 df
  unfold set4 at y0 y1 y2 y3
  refine bodyPost_ret (v := .agg #[.slice a3 n c3, .slice p3 m q3, .int .i64 0, .bool true]) (by simp [results, Try.results39, go_sem, y0, y1, y2, y3]) rfl ⟨a3, c3, p3, q3, A3, C3, rfl, ?_, ?_, HX.out.1.2.2, ?_, hl3, hm3⟩
  · exact (((((HX.out.1.1.setOther (by simp) _).setOther (by simp) _).setOther (by simp) _).setOther (by simp) _).below (below_alloc _ _)).mono (by omega)
  · exact (((((HX.out.1.2.1.setOther (by simp) _).setOther (by simp) _).setOther (by simp) _).setOther (by simp) _).below (below_alloc _ _)).mono (by omega)
  · exact (((((HX.out.2.setCell (by simp) _).setCell (by simp) _).setCell (by simp) _).setCell (by simp) _).alloc (by simpa using HX.out.2.size) _)

set_option maxHeartbeats 1000000 in
theorem specW_live (a p ad : Option Addr) (n c m q cp : Nat) (d S : Nat → Int) (L : Nat → Nat) (F : Nat → Nat → Int) (fuel : Int) (s : Int) (w : World) (ha : Rd .u8 w a n d) (hp : RdP w p m S L F) (hn : n ≤ 1048576) (hm : m ≤ 1048576) (hL : ∀ i, i < m → L i ≤ 1048576) (f : Nat → Int) (hrd : Rd .u8 w ad 64 f) (hv : VD n m S L fuel) (hs : ¬ s < 0) (hs2 : ¬ (n : Int) / 64 ≤ s) (hfull : ¬ m = 2000) (hf0 : fuel ≠ 0) (hf1 : -1 ≤ fuel) (hf2 : fuel ≤ 1000000) :
    Calls Try.prog 39 #[.agg #[.slice a n c, .slice p m q, .int .i64 fuel, .bool false], .int .i64 s, .slice ad 64 cp] w fun e w' => RetG w e w' n d (m + 1) (fun i => if i = m then s else S i) (fun i => if i = m then 64 else L i) (fun i => if i = m then f else F i) (fuelAfter fuel) false := by
  have HA : Hid (Rd .u8 w a n d) := ha
  have HP : Hid (RdP w p m S L F) := hp
  have HLL : Hid (∀ i, i < m → L i ≤ 1048576) := hL
  have HFIN : Hid (∀ W : World, Below (w.heap.size + 2) ((w.alloc (.cells #[.slice a n c, .slice p m q, .int .i64 fuel, .bool false] 40)).alloc (.cells #[.slice none 0 0, .slice none 0 0, .int .i64 0, .bool false] 40)) W → Below w.heap.size w W) := fun W h => (below_alloc2' _ _ _).trans (h.mono (by omega))
  have HE2 : Hid (∀ o1 o2, ((w.alloc o1).alloc o2).heap.size = w.heap.size + 2) := fun _ _ => by simp
  have HV : Hid (VD n m S L fuel) := hv
  have HR : Hid (Rd .u8 w ad 64 f) := hrd
  have hm' : ((m : Int) == 2000) = false := by simp; omega
  clear ha hp hL hv hrd hfull
  go_enter Try.func39, Try.ntmps39
  go_wp2_with fail
  refine (specValid_any a p n c m q S L F fuel false _ (HP.out.below (below_alloc2' _ _ _)) hn hm).mono ?_
  rintro e w1 ⟨h1, hb1⟩
  have e1 := ans_true' h1 HV.out
  subst e1
  rw [HE2.out] at hb1
  have K1 : Hid (Below (w.heap.size + 2) ((w.alloc (.cells #[.slice a n c, .slice p m q, .int .i64 fuel, .bool false] 40)).alloc (.cells #[.slice none 0 0, .slice none 0 0, .int .i64 0, .bool false] 40)) w1) := hb1
  have z1 : w.heap.size + 2 ≤ w1.heap.size := by have := K1.out.size; rw [HE2.out] at this; exact this
  have hc1 : ∀ b o, b < w.heap.size + 2 → w1.cell? ⟨b, o, none⟩ = _ := fun b o hb => K1.out.cell (p := ⟨b, o, none⟩) hb
  clear hb1 h1
  go_wp2_with fail
  refine (l1Sectors_any a p n c m q fuel false w1 hn).mono ?_
  rintro e w2 ⟨rfl, hb2⟩
  have z2 := hb2.size
  have K2 : Hid (Below (w.heap.size + 2) ((w.alloc (.cells #[.slice a n c, .slice p m q, .int .i64 fuel, .bool false] 40)).alloc (.cells #[.slice none 0 0, .slice none 0 0, .int .i64 0, .bool false] 40)) w2) := K1.out.trans (hb2.mono z1)
  clear hc1 hb2
  have hc2 : ∀ b o, b < w.heap.size + 2 → w2.cell? ⟨b, o, none⟩ = _ := fun b o hb => K2.out.cell (p := ⟨b, o, none⟩) hb
  go_wp2_with fail
  refine (l1Step_live a p n c m q d S L F fuel false w2 (HA.out.below (HFIN.out _ K2.out)) (HP.out.below (HFIN.out _ K2.out)) hf0 hf1 hf2 hn hm HLL.out).mono ?_
  rintro e w3 ⟨a3, c3, p3, q3, A3, C3, rfl, ho3, hg3, hx3, hb3, hl3, hm3⟩
  have z3 := hb3.size
  have K3 : Below (w.heap.size + 2) ((w.alloc (.cells #[.slice a n c, .slice p m q, .int .i64 fuel, .bool false] 40)).alloc (.cells #[.slice none 0 0, .slice none 0 0, .int .i64 0, .bool false] 40)) w3 := K2.out.trans (hb3.mono (by omega))
  have HX : Hid (DkRow (w3.alloc (.cells #[.slice a3 n c3, .slice p3 m q3, .int .i64 (fuelAfter fuel), .bool false] 40)) w3.heap.size (.slice a3 n c3) (.slice p3 m q3) (fuelAfter fuel) false ∧ OwnB (w3.alloc (.cells #[.slice a3 n c3, .slice p3 m q3, .int .i64 (fuelAfter fuel), .bool false] 40)) (w.heap.size + 2) a3 n d ∧ Gath (w3.alloc (.cells #[.slice a3 n c3, .slice p3 m q3, .int .i64 (fuelAfter fuel), .bool false] 40)) (w.heap.size + 2) (.slice p3 m q3) m (fun i => if i = m then s else S i) (fun i => if i = m then 64 else L i) (fun i => if i = m then f else F i) A3 C3 ∧ Below (w.heap.size + 2) ((w.alloc (.cells #[.slice a n c, .slice p m q, .int .i64 fuel, .bool false] 40)).alloc (.cells #[.slice none 0 0, .slice none 0 0, .int .i64 0, .bool false] 40)) (w3.alloc (.cells #[.slice a3 n c3, .slice p3 m q3, .int .i64 (fuelAfter fuel), .bool false] 40))) :=
    ⟨rowInNew _ _ _ _ _, (ho3.mono (by omega)).below (below_alloc _ _), ((hg3.mono (by omega)).below (below_alloc _ _)).congr (fun i hi => by simp [Nat.ne_of_lt hi]) (fun i hi => by simp [Nat.ne_of_lt hi]) (fun i hi => by simp [Nat.ne_of_lt hi]), K3.alloc (by omega) _⟩
  have HAP : Hid (n ≠ 0 → ∀ i, i < m → (fun i => if i = m then 64 else L i) i ≠ 0 → A3 i ≠ a3) := fun h i hi hl => hx3 h i hi (by simpa [Nat.ne_of_lt hi] using hl)
  have hbo : w.heap.size + 2 ≤ w3.heap.size := by omega
  clear ho3 hg3 hx3 hb3 K3 hc2
  go_wp2
  generalize hbx : w3.heap.size = bo at HX hbo ⊢
  generalize hwx : w3.alloc (.cells #[.slice a3 n c3, .slice p3 m q3, .int .i64 (fuelAfter fuel), .bool false] 40) = wr at HX ⊢
  clear hbx hwx
  obtain ⟨d0, d1, d2, d3, df, dl⟩ := HX.out.1.cells
  have hzr : w.heap.size + 2 ≤ wr.heap.size := by have := HX.out.2.2.2.size; rw [HE2.out] at this; exact this
  have G3 : Hid (Gath wr (w.heap.size + 2) (.slice p3 m q3) m (fun i => if i = m then s else S i) (fun i => if i = m then 64 else L i) (fun i => if i = m then f else F i) A3 C3) := HX.out.2.2.1
  have B1 : Hid (Below wr.heap.size wr (wr.alloc (.cells #[] 5)).drew) := (below_alloc _ _).drew
  have E3 : Hid (Rd .u8 (wr.alloc (.cells #[] 5)).drew ad 64 f ∧ (wr.alloc (.cells #[] 5)).drew.heap[wr.heap.size]? = some (.cells #[] 5 (0, 0)) ∧ wr.heap.size ≤ (wr.alloc (.cells #[] 5)).drew.heap.size) := ⟨(HR.out.below (HFIN.out _ HX.out.2.2.2)).below (below_alloc _ _).drew, blk_alloc_new _ _, B1.out.size⟩
  have HT : Hid (∀ w4 : World, (wr.alloc (.cells #[] 5)).drew.grownBy w4 (some wr.heap.size) → Below wr.heap.size wr w4) := fun w4 hg => B1.out.grown hg B1.out.size (fun j e => by injection e with e; omega)
  have HC : Hid (∀ w4 : World, Below wr.heap.size wr w4 → w4.cell? ⟨bo, 1, none⟩ = some (.slice p3 m q3)) := fun w4 hb => (hb.cell (p := ⟨bo, 1, none⟩) dl).trans d1
  have HD : Hid (∀ (w4 w5 : World) (O : Obj), Below wr.heap.size wr w4 → (w4.alloc O).grownBy w5 (Value.ownBlock (.slice p3 m q3)) → DkRow w5 bo (.slice a3 n c3) (.slice p3 m q3) (fuelAfter fuel) false) := by
    intro w4 w5 O hb hg
    have hs := hb.size
    have hne : Value.ownBlock (.slice p3 m q3) ≠ some bo := G3.out.notDk HX.out.1
    exact rowIn.of_block (HX.out.1.below hb) ((hg.block bo (by simp; omega) (fun e => hne e.symm)).trans (Below.heap_alloc _ _ _ (by omega)))
  refine wp_region_late (S := (fun w' => w'.cell? ⟨bo, 1, none⟩ = some (.slice p3 m q3))) 10 (by kernel_rfl) ?_ (fun hHeld => ?_)
  · ((try dsimp only); go_keep)
  refine late_take 0 .zero (v := ?_) (by kernel_rfl) (by kernel_rfl) (by kernel_rfl) (by kernel_rfl) (fun _ _ _ h => h) (by rfl) ?_ (by assumption) ?_
  rotate_left
  · (intro w hSw; (try dsimp only at hSw); go_simp) <;> with_reducible rfl
  simp only [Act.put, List.setIfInBounds_toArray, List.set_cons_zero, List.set_cons_succ]
  refine late_take 1 (.succ .zero) (v := ?_) (by kernel_rfl) (by kernel_rfl) (by kernel_rfl) (by kernel_rfl) (fun _ _ _ h => h) (by rfl) ?_ (by assumption) ?_
  rotate_left
  · (intro w hSw; (try dsimp only at hSw); go_simp) <;> with_reducible rfl
  simp only [Act.put, List.setIfInBounds_toArray, List.set_cons_zero, List.set_cons_succ]
  refine late_take 2 (.succ (.succ .zero)) (v := ?_) (by kernel_rfl) (by kernel_rfl) (by kernel_rfl) (by kernel_rfl) (fun _ _ _ h => h) (by rfl) ?_ (by assumption) ?_
  rotate_left
  · (intro w hSw; (try dsimp only at hSw); go_simp) <;> with_reducible rfl
  simp only [Act.put, List.setIfInBounds_toArray, List.set_cons_zero, List.set_cons_succ]
  refine late_take 4 (.succ (.succ (.succ (.succ .zero)))) (v := ?_) (by kernel_rfl) (by kernel_rfl) (by kernel_rfl) (by kernel_rfl) (fun _ _ _ h => h) (by rfl) ?_ (by assumption) ?_
  rotate_left
  · (intro w hSw; (try dsimp only at hSw); go_simp) <;> with_reducible rfl
  simp only [Act.put, List.setIfInBounds_toArray, List.set_cons_zero, List.set_cons_succ]
  refine late_one 3 (.succ (.succ (.succ .zero))) (by kernel_rfl) (fun K hK => ?_)
  go_simp
  refine hK.out _ _ ?_ (fun hHeld2 => ?_)
  · (intro _; (try dsimp only); go_keep)
  clear hK K
  replace hHeld := hHeld2 (by decide)
  clear hHeld2
  try simp only [Act.put, List.setIfInBounds_toArray, List.set_cons_zero, List.set_cons_succ]
  refine late_one 5 (.succ (.succ (.succ (.succ (.succ .zero))))) (by kernel_rfl) (fun K hK => ?_)
  (refine step_append_rd0 (by rfl) (.tmp 46) (.tmp 47) (by rfl) wr.heap.size wr.heap.size (by rfl) E3.out.2.1 (Nat.le_refl _) ad 64 cp f (by rfl) E3.out.1 (by omega) E3.out.2.2 ?_; intro a2 c2 w4 ho4 hg4 _ _; have k0 := HC.out w4 (HT.out w4 hg4))
  refine hK.out _ _ ?_ (fun hHeld2 => ?_)
  · (intro _; (try dsimp only); go_keep)
  clear hK K
  replace hHeld := hHeld2 (by decide)
  clear hHeld2
  try simp only [Act.put, List.setIfInBounds_toArray, List.set_cons_zero, List.set_cons_succ]
  refine late_take 6 (.succ (.succ (.succ (.succ (.succ (.succ .zero)))))) (v := ?_) (by kernel_rfl) (by kernel_rfl) (by kernel_rfl) (by kernel_rfl) (fun _ _ _ h => h) (by rfl) ?_ (by assumption) ?_
  rotate_left
  · (intro w hSw; (try dsimp only at hSw); go_simp) <;> with_reducible rfl
  simp only [Act.put, List.setIfInBounds_toArray, List.set_cons_zero, List.set_cons_succ]
  refine late_one 7 (.succ (.succ (.succ (.succ (.succ (.succ (.succ .zero))))))) (by kernel_rfl) (fun K hK => ?_)
  go_simp
  refine hK.out _ _ ?_ (fun hHeld2 => ?_)
  · (intro _; (try dsimp only); go_keep)
  clear hK K
  replace hHeld := hHeld2 (by decide)
  clear hHeld2
  try simp only [Act.put, List.setIfInBounds_toArray, List.set_cons_zero, List.set_cons_succ]
  refine late_one 8 (.succ (.succ (.succ (.succ (.succ (.succ (.succ (.succ .zero)))))))) (by kernel_rfl) (fun K hK => ?_)
  (refine step_append_made (by rfl) (.tmp 44) (.tmp 50) (by rfl) (w.heap.size + 2) m (.slice p3 m q3) (pendRow (fun i => if i = m then s else S i) A3 (fun i => if i = m then 64 else L i) C3 m) s a2 64 c2 (by rfl) (owns_below G3.out.row (HT.out w4 hg4)) (by rfl) hm (Nat.le_trans hzr (HT.out w4 hg4).size) ?_; intro v5 w5 hr5 hg5; obtain ⟨p5, q5, hv5⟩ := owns_shape hr5; subst hv5; have yd := HD.out w4 w5 _ (HT.out w4 hg4) hg5; obtain ⟨y0, y1, y2, y3, yf, yl⟩ := yd.cells)
  refine hK.out _ _ ?_ (fun hHeld2 => ?_)
  · (intro _; (try dsimp only); go_keep)
  clear hK K
  replace hHeld := hHeld2 (by decide)
  clear hHeld2
  try simp only [Act.put, List.setIfInBounds_toArray, List.set_cons_zero, List.set_cons_succ]
  refine late_take 9 (.succ (.succ (.succ (.succ (.succ (.succ (.succ (.succ (.succ .zero))))))))) (v := ?_) (by kernel_rfl) (by kernel_rfl) (by kernel_rfl) (by kernel_rfl) (fun _ _ _ h => h) (by rfl) ?_ (by assumption) ?_
  rotate_left
  · (intro w hSw; (try dsimp only at hSw); go_simp) <;> with_reducible rfl
  simp only [Act.put, List.setIfInBounds_toArray, List.set_cons_zero, List.set_cons_succ]
  refine late_one 10 (.succ (.succ (.succ (.succ (.succ (.succ (.succ (.succ (.succ (.succ .zero)))))))))) (by kernel_rfl) (fun K hK => ?_)
  go_simp
  refine hK.out _ _ ?_ (fun hHeld2 => ?_)
  · (intro hne; exact absurd rfl hne)
  clear hK K hHeld2
  refine wpLate_done (by kernel_rfl) ?_ _
  have HY : Hid (DkRow (w5.setCell ⟨bo, 1, none⟩ (.slice p5 (m + 1) q5)) bo (.slice a3 n c3) (.slice p5 (m + 1) q5) (fuelAfter fuel) false ∧ OwnB (w5.setCell ⟨bo, 1, none⟩ (.slice p5 (m + 1) q5)) (w.heap.size + 2) a3 n d ∧ Gath (w5.setCell ⟨bo, 1, none⟩ (.slice p5 (m + 1) q5)) (w.heap.size + 2) (.slice p5 (m + 1) q5) (m + 1) (fun i => if i = m then s else S i) (fun i => if i = m then 64 else L i) (fun i => if i = m then f else F i) (fun i => if i = m then a2 else A3 i) (fun i => if i = m then c2 else C3 i) ∧ (n ≠ 0 → ∀ i, i < m + 1 → (fun i => if i = m then 64 else L i) i ≠ 0 → (if i = m then a2 else A3 i) ≠ a3) ∧ Below (w.heap.size + 2) ((w.alloc (.cells #[.slice a n c, .slice p m q, .int .i64 fuel, .bool false] 40)).alloc (.cells #[.slice none 0 0, .slice none 0 0, .int .i64 0, .bool false] 40)) (w5.setCell ⟨bo, 1, none⟩ (.slice p5 (m + 1) q5))) :=
    copy_more hbo hzr HX.out.1 HX.out.2.1 G3.out HAP.out HX.out.2.2.2 (HT.out w4 hg4) (by simpa using ho4) (by simpa using hr5) hg5 yd
  generalize hwy : w5.setCell ⟨bo, 1, none⟩ (.slice p5 (m + 1) q5) = w6 at HY ⊢
  clear hwy hr5 hg5 ho4 hg4 yd y0 y1 y2 y3 yf yl k0 hHeld HD HC HT E3 B1 d0 d1 d2 d3 df dl
  obtain ⟨d0, d1, d2, d3, df, dl⟩ := HY.out.1.cells
  obtain ⟨r0, r1, r2, r3, rf, rl⟩ := (box_res HY.out.2.2.2.2).cells
  go_wp2
  refine bodyPost_ret (v := .agg #[.slice a3 n c3, .slice p5 (m + 1) q5, .int .i64 (fuelAfter fuel), .bool false]) (by simp [results, Try.results39, go_sem, r0, r1, r2, r3]) rfl ⟨a3, c3, p5, q5, (fun i => if i = m then a2 else A3 i), (fun i => if i = m then c2 else C3 i), rfl, ?_, ?_, HY.out.2.2.2.1, ?_, hl3, hm3⟩
  · exact ((((HY.out.2.1.setOther (by simp) _).setOther (by simp) _).setOther (by simp) _).setOther (by simp) _).mono (by omega)
  · exact ((((HY.out.2.2.1.setOther (by simp) _).setOther (by simp) _).setOther (by simp) _).setOther (by simp) _).mono (by omega)
  · exact (((((HFIN.out _ HY.out.2.2.2.2).setCell (by simp) _).setCell (by simp) _).setCell (by simp) _).setCell (by simp) _)
end Go.Proofs.Ytfbhlegkpmcfoaa
