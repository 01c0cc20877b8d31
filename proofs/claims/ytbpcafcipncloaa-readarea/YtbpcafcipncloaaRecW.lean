import Derived.Test.YtbpcafcipncloaaRecR
namespace Go.Proofs.Ytbpcafcipncloaa
open Go.RowKit Go.Deep
set_option linter.unusedVariables false
set_option maxRecDepth 100000

set_option maxHeartbeats 1000000 in
theorem readRec_out (a p : Option Addr) (n c m q : Nat) (d S : Nat → Int) (L : Nat → Nat) (F : Nat → Nat → Int) (fuel : Int) (dead : Bool) (at_ seq : Int) (w : World) (hn : n ≤ 1048576) (hout : ¬ (0 ≤ at_ ∧ at_ < (n : Int) / 64)) :
    Calls Try.prog 44 #[.agg #[.slice a n c, .slice p m q, .int .i64 fuel, .bool dead], .int .i64 at_, .int .i64 seq] w fun e w' => e = .returned (.agg #[.bool false, .slice none 0 0, .int .i64 0]) ∧ Below w.heap.size w w' := by
  have HFIN : Hid (∀ W : World, Below (w.heap.size + 2) ((w.alloc (.cells #[.slice a n c, .slice p m q, .int .i64 fuel, .bool dead] 39)).alloc (.cells #[.bool false, .slice none 0 0, .int .i64 0] 35)) W → Below w.heap.size w W) := fun W h => ((below_alloc _ _).trans ((below_alloc _ _).mono (by simp))).trans (h.mono (by omega))
  have HE2 : Hid (∀ o1 o2, ((w.alloc o1).alloc o2).heap.size = w.heap.size + 2) := fun _ _ => by simp
  have HOUT : Hid (¬ (0 ≤ at_ ∧ at_ < (n : Int) / 64)) := hout
  clear hout
  go_enter Try.func44, Try.ntmps44
  go_wp2_with fail
  refine (hasSector_any a p n c m q fuel dead at_ _ hn).mono ?_
  rintro e w1 ⟨h1, hb1⟩
  have := ans_false' h1 HOUT.out
  subst this
  rw [HE2.out] at hb1
  have KB : Hid (Below (w.heap.size + 2) ((w.alloc (.cells #[.slice a n c, .slice p m q, .int .i64 fuel, .bool dead] 39)).alloc (.cells #[.bool false, .slice none 0 0, .int .i64 0] 35)) w1) := hb1
  clear hb1 h1
  have hc9 : ∀ b o, b < w.heap.size + 2 → w1.cell? ⟨b, o, none⟩ = _ := fun b o hb => KB.out.cell (p := ⟨b, o, none⟩) hb
  have hf9 : ∀ b o, b < w.heap.size + 2 → w1.frozen? ⟨b, o, none⟩ = _ := fun b o hb => KB.out.frozen (p := ⟨b, o, none⟩) hb
  have hz9 : w.heap.size + 1 < w1.heap.size := by have := KB.out.size; rw [HE2.out] at this; omega
  have HBB : Hid (Below w.heap.size w w1) := HFIN.out _ KB.out
  go_wp2
  refine bodyPost_ret (v := .agg #[.bool false, .slice none 0 0, .int .i64 0]) (by simp [results, Try.results44, go_sem, hc9]) rfl ⟨rfl, ?_⟩
  exact (((HBB.out.setCell (by simp; try omega) _).setCell (by simp; try omega) _).setCell (by simp; try omega) _)

set_option maxHeartbeats 1000000 in
theorem implReadRec_bad (a p : Option Addr) (n c m q : Nat) (d S : Nat → Int) (L : Nat → Nat) (F : Nat → Nat → Int) (fuel : Int) (dead : Bool) (at_ seq : Int) (w : World) (hp : RdP w p m S L F) (hn : n ≤ 1048576) (hm : m ≤ 1048576) (hbad : ¬ (VD n m S L fuel ∧ numB seq = true)) :
    Calls Try.prog 17 #[.agg #[.slice a n c, .slice p m q, .int .i64 fuel, .bool dead], .int .i64 at_, .int .i64 seq] w fun e w' => e = .returned (.agg #[.bool false, .slice none 0 0, .int .i64 0]) ∧ Below w.heap.size w w' := by
  have HFIN : Hid (∀ W : World, Below (w.heap.size + 2) ((w.alloc (.cells #[.slice a n c, .slice p m q, .int .i64 fuel, .bool dead] 39)).alloc (.cells #[.bool false, .slice none 0 0, .int .i64 0] 35)) W → Below w.heap.size w W) := fun W h => ((below_alloc _ _).trans ((below_alloc _ _).mono (by simp))).trans (h.mono (by omega))
  have HE2 : Hid (∀ o1 o2, ((w.alloc o1).alloc o2).heap.size = w.heap.size + 2) := fun _ _ => by simp
  have HP : Hid (RdP w p m S L F) := hp
  have HBAD : Hid (¬ (VD n m S L fuel ∧ numB seq = true)) := hbad
  clear hbad hp
  go_enter Try.func17, Try.ntmps17
  go_wp2_with fail
  refine (implValid_any a p n c m q S L F fuel dead _ (HP.out.below ((below_alloc _ _).trans ((below_alloc _ _).mono (by simp)))) hn hm).mono ?_
  rintro e w1 ⟨⟨b1, rfl, hv1⟩, hb1⟩
  rw [HE2.out] at hb1
  have KB : Hid (Below (w.heap.size + 2) ((w.alloc (.cells #[.slice a n c, .slice p m q, .int .i64 fuel, .bool dead] 39)).alloc (.cells #[.bool false, .slice none 0 0, .int .i64 0] 35)) w1) := hb1
  clear hb1
  cases b1 with
  | false =>
    clear hv1
    have hc9 : ∀ b o, b < w.heap.size + 2 → w1.cell? ⟨b, o, none⟩ = _ := fun b o hb => KB.out.cell (p := ⟨b, o, none⟩) hb
    have hf9 : ∀ b o, b < w.heap.size + 2 → w1.frozen? ⟨b, o, none⟩ = _ := fun b o hb => KB.out.frozen (p := ⟨b, o, none⟩) hb
    have hz9 : w.heap.size + 1 < w1.heap.size := by have := KB.out.size; rw [HE2.out] at this; omega
    have HBB : Hid (Below w.heap.size w w1) := HFIN.out _ KB.out
    go_wp2
    refine bodyPost_ret (v := .agg #[.bool false, .slice none 0 0, .int .i64 0]) (by simp [results, Try.results17, go_sem, hc9]) rfl ⟨rfl, ?_⟩
    exact (((HBB.out.setCell (by simp; try omega) _).setCell (by simp; try omega) _).setCell (by simp; try omega) _)
  | true =>
    have HB : Hid (numB seq = false) := by
      show _ = _
      cases hq : numB seq with
      | false => rfl
      | true => exact absurd ⟨hv1.1 rfl, hq⟩ HBAD.out
    clear hv1
    go_wp2_with fail
    refine (isNumber_any seq w1).mono ?_
    rintro e w2 ⟨he, hw⟩
    subst hw
    rw [HB.out] at he
    subst he
    have hc9 : ∀ b o, b < w.heap.size + 2 → w2.cell? ⟨b, o, none⟩ = _ := fun b o hb => KB.out.cell (p := ⟨b, o, none⟩) hb
    have hf9 : ∀ b o, b < w.heap.size + 2 → w2.frozen? ⟨b, o, none⟩ = _ := fun b o hb => KB.out.frozen (p := ⟨b, o, none⟩) hb
    have hz9 : w.heap.size + 1 < w2.heap.size := by have := KB.out.size; rw [HE2.out] at this; omega
    have HBB : Hid (Below w.heap.size w w2) := HFIN.out _ KB.out
    go_wp2
    refine bodyPost_ret (v := .agg #[.bool false, .slice none 0 0, .int .i64 0]) (by simp [results, Try.results17, go_sem, hc9]) rfl ⟨rfl, ?_⟩
    exact (((HBB.out.setCell (by simp; try omega) _).setCell (by simp; try omega) _).setCell (by simp; try omega) _)

set_option maxHeartbeats 1000000 in
theorem implReadRec_out (a p : Option Addr) (n c m q : Nat) (d S : Nat → Int) (L : Nat → Nat) (F : Nat → Nat → Int) (fuel : Int) (dead : Bool) (at_ seq : Int) (w : World) (hp : RdP w p m S L F) (hn : n ≤ 1048576) (hm : m ≤ 1048576) (hv : VD n m S L fuel) (hq : numB seq = true) (hout : ¬ (0 ≤ at_ ∧ at_ < (n : Int) / 64)) :
    Calls Try.prog 17 #[.agg #[.slice a n c, .slice p m q, .int .i64 fuel, .bool dead], .int .i64 at_, .int .i64 seq] w fun e w' => e = .returned (.agg #[.bool false, .slice none 0 0, .int .i64 0]) ∧ Below w.heap.size w w' := by
  have HFIN : Hid (∀ W : World, Below (w.heap.size + 2) ((w.alloc (.cells #[.slice a n c, .slice p m q, .int .i64 fuel, .bool dead] 39)).alloc (.cells #[.bool false, .slice none 0 0, .int .i64 0] 35)) W → Below w.heap.size w W) := fun W h => ((below_alloc _ _).trans ((below_alloc _ _).mono (by simp))).trans (h.mono (by omega))
  have HE2 : Hid (∀ o1 o2, ((w.alloc o1).alloc o2).heap.size = w.heap.size + 2) := fun _ _ => by simp
  have HP : Hid (RdP w p m S L F) := hp
  have HV : Hid (VD n m S L fuel) := hv
  have HQ : Hid (numB seq = true) := hq
  have HOUT : Hid (¬ (0 ≤ at_ ∧ at_ < (n : Int) / 64)) := hout
  clear hout hp hv hq
  go_enter Try.func17, Try.ntmps17
  go_wp2_with fail
  refine (implValid_any a p n c m q S L F fuel dead _ (HP.out.below ((below_alloc _ _).trans ((below_alloc _ _).mono (by simp)))) hn hm).mono ?_
  rintro e w1 ⟨h1, hb1⟩
  have := ans_true' h1 HV.out
  subst this
  rw [HE2.out] at hb1
  have K1 : Hid (Below (w.heap.size + 2) ((w.alloc (.cells #[.slice a n c, .slice p m q, .int .i64 fuel, .bool dead] 39)).alloc (.cells #[.bool false, .slice none 0 0, .int .i64 0] 35)) w1) := hb1
  have z1 : w.heap.size + 2 ≤ w1.heap.size := by have := hb1.size; rw [HE2.out] at this; exact this
  clear hb1 h1
  go_wp2_with fail
  refine (isNumber_any seq w1).mono ?_
  rintro e w2 ⟨he, hw⟩
  subst hw
  rw [HQ.out] at he
  subst he
  have hc1 : ∀ b o, b < w.heap.size + 2 → w2.cell? ⟨b, o, none⟩ = _ := fun b o hb => K1.out.cell (p := ⟨b, o, none⟩) hb
  go_wp2_with fail
  refine (readRec_out a p n c m q d S L F fuel dead at_ seq w2 hn HOUT.out).mono ?_
  rintro e w3 ⟨rfl, hb3⟩
  have KB : Hid (Below (w.heap.size + 2) ((w.alloc (.cells #[.slice a n c, .slice p m q, .int .i64 fuel, .bool dead] 39)).alloc (.cells #[.bool false, .slice none 0 0, .int .i64 0] 35)) w3) := K1.out.trans (hb3.mono z1)
  clear hb3 hc1
  have hc9 : ∀ b o, b < w.heap.size + 2 → w3.cell? ⟨b, o, none⟩ = _ := fun b o hb => KB.out.cell (p := ⟨b, o, none⟩) hb
  have hf9 : ∀ b o, b < w.heap.size + 2 → w3.frozen? ⟨b, o, none⟩ = _ := fun b o hb => KB.out.frozen (p := ⟨b, o, none⟩) hb
  have hz9 : w.heap.size + 1 < w3.heap.size := by have := KB.out.size; rw [HE2.out] at this; omega
  have HBB : Hid (Below w.heap.size w w3) := HFIN.out _ KB.out
  go_wp2
  refine bodyPost_ret (v := .agg #[.bool false, .slice none 0 0, .int .i64 0]) (by simp [results, Try.results17, go_sem, hc9]) rfl ⟨rfl, ?_⟩
  exact (((HBB.out.setCell (by simp; try omega) _).setCell (by simp; try omega) _).setCell (by simp; try omega) _)

set_option maxHeartbeats 1000000 in
theorem implReadRec_in (a p : Option Addr) (n c m q : Nat) (d S : Nat → Int) (L : Nat → Nat) (F : Nat → Nat → Int) (fuel : Int) (dead : Bool) (s : Nat) (seq : Int) (w : World) (ha : Rd .u8 w a n d) (hp : RdP w p m S L F) (hv : VD n m S L fuel) (hq : numB seq = true) (hs : s < n / 64) (hn : n ≤ 1048576) (hnc : n ≤ c) (hcm : c ≤ 9223372036854775807) (hm : m ≤ 1048576) (hr : ∀ s i, i < 64 → 0 ≤ secF d S F m s i ∧ secF d S F m s i < 256) :
    Calls Try.prog 17 #[.agg #[.slice a n c, .slice p m q, .int .i64 fuel, .bool dead], .int .i64 s, .int .i64 seq] w fun e w' => RecRet w e w' (fun i => secF d S F m (s + i)) ((n : Int) / 64 - s) seq := by
  have HFIN : Hid (∀ W : World, Below (w.heap.size + 2) ((w.alloc (.cells #[.slice a n c, .slice p m q, .int .i64 fuel, .bool dead] 39)).alloc (.cells #[.bool false, .slice none 0 0, .int .i64 0] 35)) W → Below w.heap.size w W) := fun W h => ((below_alloc _ _).trans ((below_alloc _ _).mono (by simp))).trans (h.mono (by omega))
  have HE2 : Hid (∀ o1 o2, ((w.alloc o1).alloc o2).heap.size = w.heap.size + 2) := fun _ _ => by simp
  have HA : Hid (Rd .u8 w a n d) := ha
  have HP : Hid (RdP w p m S L F) := hp
  have HV : Hid (VD n m S L fuel) := hv
  have HQ : Hid (numB seq = true) := hq
  have HR : Hid (∀ s i, i < 64 → 0 ≤ secF d S F m s i ∧ secF d S F m s i < 256) := hr
  clear ha hp hv hq hr
  go_enter Try.func17, Try.ntmps17
  go_wp2_with fail
  refine (implValid_any a p n c m q S L F fuel dead _ (HP.out.below ((below_alloc _ _).trans ((below_alloc _ _).mono (by simp)))) hn hm).mono ?_
  rintro e w1 ⟨h1, hb1⟩
  have := ans_true' h1 HV.out
  subst this
  rw [HE2.out] at hb1
  have K1 : Hid (Below (w.heap.size + 2) ((w.alloc (.cells #[.slice a n c, .slice p m q, .int .i64 fuel, .bool dead] 39)).alloc (.cells #[.bool false, .slice none 0 0, .int .i64 0] 35)) w1) := hb1
  have z1 : w.heap.size + 2 ≤ w1.heap.size := by have := hb1.size; rw [HE2.out] at this; exact this
  clear hb1 h1
  go_wp2_with fail
  refine (isNumber_any seq w1).mono ?_
  rintro e w2 ⟨he, hw⟩
  subst hw
  rw [HQ.out] at he
  subst he
  have hc1 : ∀ b o, b < w.heap.size + 2 → w2.cell? ⟨b, o, none⟩ = _ := fun b o hb => K1.out.cell (p := ⟨b, o, none⟩) hb
  go_wp2_with fail
  refine (readRec_any a p n c m q d S L F fuel dead s seq w2 (HA.out.below (HFIN.out _ K1.out)) (HP.out.below (HFIN.out _ K1.out)) HV.out hs hn hnc hcm hm HR.out).mono ?_
  rintro e w3 ⟨hb3, hres⟩
  have KB : Hid (Below (w.heap.size + 2) ((w.alloc (.cells #[.slice a n c, .slice p m q, .int .i64 fuel, .bool dead] 39)).alloc (.cells #[.bool false, .slice none 0 0, .int .i64 0] 35)) w3) := K1.out.trans (hb3.mono z1)
  have hc9 : ∀ b o, b < w.heap.size + 2 → w3.cell? ⟨b, o, none⟩ = _ := fun b o hb => KB.out.cell (p := ⟨b, o, none⟩) hb
  have hf9 : ∀ b o, b < w.heap.size + 2 → w3.frozen? ⟨b, o, none⟩ = _ := fun b o hb => KB.out.frozen (p := ⟨b, o, none⟩) hb
  have hz9 : w.heap.size + 1 < w3.heap.size := by have := KB.out.size; rw [HE2.out] at this; omega
  have HBB : Hid (Below w.heap.size w w3) := HFIN.out _ KB.out
  clear hb3 hc1
  rcases hres with ⟨hok, a9, c9, rfl, ho9, h2, h3⟩ | ⟨hno, rfl⟩
  · have HOK : Hid (recOk (fun i => secF d S F m (s + i)) ((n : Int) / 64 - s) seq) := hok
    have HO : Hid (OwnB w3 w2.heap.size a9 _ _) := ho9
    have H2 : Hid (_ ≤ c9) := h2
    clear hok ho9 h2
    go_wp2
    refine bodyPost_ret (v := .agg #[.bool true, .slice a9 _ c9, .int .i64 _]) (by simp [results, Try.results17, go_sem, hc9]) rfl ⟨?_, Or.inl ⟨HOK.out, a9, c9, rfl, ?_, H2.out, h3⟩⟩
    · exact (((HBB.out.setCell (by simp; try omega) _).setCell (by simp; try omega) _).setCell (by simp; try omega) _)
    · exact ((((HO.out.mono z1).setOther (by simp) _).setOther (by simp) _).setOther (by simp) _).mono (by omega)
  · have HNO : Hid (¬ recOk (fun i => secF d S F m (s + i)) ((n : Int) / 64 - s) seq) := hno
    clear hno
    go_wp2
    refine bodyPost_ret (v := .agg #[.bool false, .slice none 0 0, .int .i64 0]) (by simp [results, Try.results17, go_sem, hc9]) rfl ⟨?_, Or.inr ⟨HNO.out, rfl⟩⟩
    exact (((HBB.out.setCell (by simp; try omega) _).setCell (by simp; try omega) _).setCell (by simp; try omega) _)
end Go.Proofs.Ytbpcafcipncloaa
