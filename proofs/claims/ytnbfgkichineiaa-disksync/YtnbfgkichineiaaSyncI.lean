import Derived.Test.YtnbfgkichineiaaRunY
import Derived.Test.YtnbfgkichineiaaSyncD
namespace Go.Proofs.Ytnbfgkichineiaa
open Go.RowKit Go.Deep
set_option linter.unusedVariables false
set_option maxRecDepth 100000

set_option maxHeartbeats 400000 in
theorem closure_sync (b : Nat) (w : World) (R : World → Prop) (h : Calls Try.prog 53 #[.pointer (some ⟨b, 0, none⟩)] w fun e w' => Stepped e ∧ R w') :
    Calls Try.prog 52 #[.pointer (some ⟨b, 0, none⟩)] w fun e w' => Stepped e ∧ R w' := by
  have H : Hid (Calls Try.prog 53 #[.pointer (some ⟨b, 0, none⟩)] w fun e w' => Stepped e ∧ R w') := h
  clear h
  go_enter Try.func52, Try.ntmps52
  go_wp2_with fail
  refine H.out.mono ?_
  rintro e w1 ⟨he | he, hR⟩
  · subst he
    go_wp2
    go_end0
    exact ⟨Or.inl rfl, hR⟩
  · subst he
    go_wp2
    exact ⟨rfl, Or.inr rfl, hR⟩

set_option maxHeartbeats 1000000 in
theorem implSync_bad (a p : Option Addr) (n c m q : Nat) (d S : Nat → Int) (L : Nat → Nat) (F : Nat → Nat → Int) (fuel : Int) (dead : Bool) (w : World) (ha : Rd .u8 w a n d) (hp : RdP w p m S L F) (hbad : ¬ VD n m S L fuel) (hn : n ≤ 1048576) (hm : m ≤ 1048576) (hL : ∀ i, i < m → L i ≤ 1048576) :
    Calls Try.prog 27 #[.agg #[.slice a n c, .slice p m q, .int .i64 fuel, .bool dead]] w fun e w' => RetD w e w' n d m S L F fuel dead := by
  have HA : Hid (Rd .u8 w a n d) := ha
  have HP : Hid (RdP w p m S L F) := hp
  have HLL : Hid (∀ i, i < m → L i ≤ 1048576) := hL
  have HV : Hid (¬ VD n m S L fuel) := hbad
  have HFIN : Hid (∀ W : World, Below (w.heap.size + 2) ((w.alloc (.cells #[.slice a n c, .slice p m q, .int .i64 fuel, .bool dead] 25)).alloc (.cells #[.slice none 0 0, .slice none 0 0, .int .i64 0, .bool false] 25)) W → Below w.heap.size w W) := fun W h => (below_alloc2' _ _ _).trans (h.mono (by omega))
  have HE2 : Hid (∀ o1 o2, ((w.alloc o1).alloc o2).heap.size = w.heap.size + 2) := fun _ _ => by simp
  clear ha hp hL hbad
  go_enter Try.func27, Try.ntmps27
  go_wp2_with fail
  refine (implValid_any a p n c m q S L F fuel dead _ (HP.out.below (below_alloc2' _ _ _)) hn hm).mono ?_
  rintro e w1 ⟨h1, hb1⟩
  have e1 := ans_false' h1 HV.out
  subst e1
  rw [HE2.out] at hb1
  have K1 : Hid (Below (w.heap.size + 2) ((w.alloc (.cells #[.slice a n c, .slice p m q, .int .i64 fuel, .bool dead] 25)).alloc (.cells #[.slice none 0 0, .slice none 0 0, .int .i64 0, .bool false] 25)) w1) := hb1
  have z1 : w.heap.size + 2 ≤ w1.heap.size := by have := K1.out.size; rw [HE2.out] at this; exact this
  have hc1 : ∀ b o, b < w.heap.size + 2 → w1.cell? ⟨b, o, none⟩ = _ := fun b o hb => K1.out.cell (p := ⟨b, o, none⟩) hb
  clear hb1 h1
  go_wp2_with fail
  refine (copyDisk_any a p n c m q d S L F fuel dead w1 (HA.out.below (HFIN.out _ K1.out)) (HP.out.below (HFIN.out _ K1.out)) hn hm HLL.out).mono ?_
  rintro e w9 ⟨a9, c9, p9, q9, A9, rfl, ho9, hb9⟩
  have K9 : Below (w.heap.size + 2) ((w.alloc (.cells #[.slice a n c, .slice p m q, .int .i64 fuel, .bool dead] 25)).alloc (.cells #[.slice none 0 0, .slice none 0 0, .int .i64 0, .bool false] 25)) w9 := K1.out.trans (hb9.mono (by omega))
  have hc9 : ∀ b o, b < w.heap.size + 2 → w9.cell? ⟨b, o, none⟩ = _ := fun b o hb => K9.cell (p := ⟨b, o, none⟩) hb
  have hf9 : ∀ b o, b < w.heap.size + 2 → w9.frozen? ⟨b, o, none⟩ = _ := fun b o hb => K9.frozen (p := ⟨b, o, none⟩) hb
  have hz9 : w.heap.size + 1 < w9.heap.size := by have := hb9.size; omega
  have HX : Hid (OwnD w9 (w.heap.size + 2) a9 n d p9 m S L F A9 ∧ Below w.heap.size w w9) := ⟨ho9.mono (by omega), HFIN.out _ K9⟩
  clear ho9 hb9 K9 hc1
  go_wp2
  refine bodyPost_ret (v := .agg #[.slice a9 n c9, .slice p9 m q9, .int .i64 fuel, .bool dead]) (by simp [results, Try.results27, go_sem, hc9]) rfl ⟨a9, c9, p9, q9, A9, rfl, ?_, ?_⟩
  · exact ((((HX.out.1.setOther (by simp) _).setOther (by simp) _).setOther (by simp) _).setOther (by simp) _).mono (by omega)
  · exact (((HX.out.2.setCell (by simp; try omega) _).setCell (by simp; try omega) _).setCell (by simp; try omega) _).setCell (by simp; try omega) _

set_option maxHeartbeats 1000000 in
theorem implSync_good (a p : Option Addr) (n c m q : Nat) (d S : Nat → Int) (L : Nat → Nat) (F : Nat → Nat → Int) (fuel : Int) (dead : Bool) (w : World) (ha : Rd .u8 w a n d) (hp : RdP w p m S L F) (hv : VD n m S L fuel) (hn : n ≤ 1048576) (hm : m ≤ 1048576) (hL : ∀ i, i < m → L i ≤ 1048576)
    (d2 : Nat → Int) (m2 : Nat) (S2 : Nat → Int) (L2 : Nat → Nat) (F2 : Nat → Nat → Int) (fuel2 : Int) (dead2 : Bool) (hdo : SyncDoes w n m d S L F fuel dead d2 m2 S2 L2 F2 fuel2 dead2) :
    Calls Try.prog 27 #[.agg #[.slice a n c, .slice p m q, .int .i64 fuel, .bool dead]] w fun e w' => RetD w e w' n d2 m2 S2 L2 F2 fuel2 dead2 := by
  have HA : Hid (Rd .u8 w a n d) := ha
  have HP : Hid (RdP w p m S L F) := hp
  have HLL : Hid (∀ i, i < m → L i ≤ 1048576) := hL
  have HV : Hid (VD n m S L fuel) := hv
  have HDO : Hid (SyncDoes w n m d S L F fuel dead d2 m2 S2 L2 F2 fuel2 dead2) := hdo
  have HFIN : Hid (∀ W : World, Below (w.heap.size + 2) ((w.alloc (.cells #[.slice a n c, .slice p m q, .int .i64 fuel, .bool dead] 25)).alloc (.cells #[.slice none 0 0, .slice none 0 0, .int .i64 0, .bool false] 25)) W → Below w.heap.size w W) := fun W h => (below_alloc2' _ _ _).trans (h.mono (by omega))
  have HE2 : Hid (∀ o1 o2, ((w.alloc o1).alloc o2).heap.size = w.heap.size + 2) := fun _ _ => by simp
  clear ha hp hL hv hdo
  go_enter Try.func27, Try.ntmps27
  go_wp2_with fail
  refine (implValid_any a p n c m q S L F fuel dead _ (HP.out.below (below_alloc2' _ _ _)) hn hm).mono ?_
  rintro e w1 ⟨h1, hb1⟩
  have e1 := ans_true' h1 HV.out
  subst e1
  rw [HE2.out] at hb1
  have K1 : Hid (Below (w.heap.size + 2) ((w.alloc (.cells #[.slice a n c, .slice p m q, .int .i64 fuel, .bool dead] 25)).alloc (.cells #[.slice none 0 0, .slice none 0 0, .int .i64 0, .bool false] 25)) w1) := hb1
  have z1 : w.heap.size + 2 ≤ w1.heap.size := by have := K1.out.size; rw [HE2.out] at this; exact this
  have hc1 : ∀ b o, b < w.heap.size + 2 → w1.cell? ⟨b, o, none⟩ = _ := fun b o hb => K1.out.cell (p := ⟨b, o, none⟩) hb
  clear hb1 h1
  go_wp2_with fail
  refine (runSteps_sync a p n c m q d S L F fuel dead w1 (HA.out.below (HFIN.out _ K1.out)) (HP.out.below (HFIN.out _ K1.out)) hn hm HLL.out d2 m2 S2 L2 F2 fuel2 dead2 (fun W b B a' p' c' q' A C q1 q2 q3 q4 q5 q6 q7 _ _ => closure_sync b W _ (HDO.out W b B a' p' c' q' A C q1 q2 q3 q4 q5 q6 q7))).mono ?_
  rintro e w9 ⟨a9, c9, p9, q9, A9, rfl, ho9, hb9⟩
  have K9 : Below (w.heap.size + 2) ((w.alloc (.cells #[.slice a n c, .slice p m q, .int .i64 fuel, .bool dead] 25)).alloc (.cells #[.slice none 0 0, .slice none 0 0, .int .i64 0, .bool false] 25)) w9 := K1.out.trans (hb9.mono (by omega))
  have hc9 : ∀ b o, b < w.heap.size + 2 → w9.cell? ⟨b, o, none⟩ = _ := fun b o hb => K9.cell (p := ⟨b, o, none⟩) hb
  have hf9 : ∀ b o, b < w.heap.size + 2 → w9.frozen? ⟨b, o, none⟩ = _ := fun b o hb => K9.frozen (p := ⟨b, o, none⟩) hb
  have hz9 : w.heap.size + 1 < w9.heap.size := by have := hb9.size; omega
  have HX : Hid (OwnD w9 (w.heap.size + 2) a9 n d2 p9 m2 S2 L2 F2 A9 ∧ Below w.heap.size w w9) := ⟨ho9.mono (by omega), HFIN.out _ K9⟩
  clear ho9 hb9 K9 hc1
  go_wp2
  refine bodyPost_ret (v := .agg #[.slice a9 n c9, .slice p9 m2 q9, .int .i64 fuel2, .bool dead2]) (by simp [results, Try.results27, go_sem, hc9]) rfl ⟨a9, c9, p9, q9, A9, rfl, ?_, ?_⟩
  · exact ((((HX.out.1.setOther (by simp) _).setOther (by simp) _).setOther (by simp) _).setOther (by simp) _).mono (by omega)
  · exact (((HX.out.2.setCell (by simp; try omega) _).setCell (by simp; try omega) _).setCell (by simp; try omega) _).setCell (by simp; try omega) _
end Go.Proofs.Ytnbfgkichineiaa
