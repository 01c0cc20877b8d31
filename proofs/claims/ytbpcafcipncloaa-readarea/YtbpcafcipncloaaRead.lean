import Derived.Test.YtbpcafcipncloaaValid
import Derived.Test.YtbpcafcipncloaaLook
namespace Go.Proofs.Ytbpcafcipncloaa
open Go.RowKit Go.Deep
set_option maxRecDepth 100000
set_option linter.unusedVariables false

theorem ans_true {e : Ending} {p : Prop} (h : AnsB e p) (hp : p) : e = .returned (.bool true) := by
  obtain ⟨b, rfl, hb⟩ := h
  rw [hb.2 hp]
theorem ans_false {e : Ending} {p : Prop} (h : AnsB e p) (hp : ¬ p) : e = .returned (.bool false) := by
  obtain ⟨b, rfl, hb⟩ := h
  cases b with
  | false => rfl
  | true => exact absurd (hb.1 rfl) hp

theorem retOwn_zero {w w' : World} {a : Option Addr} {c : Nat} {f : Nat → Int} (h : Below w.heap.size w w') (hc : c ≤ 9223372036854775807) : RetOwn w (.returned (.slice a 0 c)) w' 0 f := ⟨a, c, rfl, Or.inl rfl, h, Nat.zero_le _, hc⟩

set_option maxHeartbeats 1000000 in
theorem specRead_bad (a p : Option Addr) (n c m q : Nat) (S : Nat → Int) (L : Nat → Nat) (F : Nat → Nat → Int) (fuel : Int) (dead : Bool) (s : Int) (f : Nat → Int) (w : World) (hp : RdP w p m S L F) (hbad : ¬ (VD n m S L fuel ∧ 0 ≤ s ∧ s < (n : Int) / 64)) (hn : n ≤ 1048576) (hm : m ≤ 1048576) :
    Calls Try.prog 38 #[.agg #[.slice a n c, .slice p m q, .int .i64 fuel, .bool dead], .int .i64 s] w fun e w' => RetOwn w e w' 0 f := by
  have HP : Hid (∀ O, RdP (w.alloc O) p m S L F) := fun O => hp.below (below_alloc _ _)
  have HB : Hid (¬ (VD n m S L fuel ∧ 0 ≤ s ∧ s < (n : Int) / 64)) := hbad
  clear hp hbad
  by_cases hv : VD n m S L fuel
  · have HV : Hid (VD n m S L fuel) := hv
    clear hv
    by_cases hs0 : s < 0
    · go_enter Try.func38, Try.ntmps38
      go_wp2_with fail
      refine (specValid_any a p n c m q S L F fuel dead _ (HP.out _) hn hm).mono ?_
      rintro e w1 ⟨h1, hb1⟩
      have := ans_true h1 HV.out
      subst this
      have HB1 : Hid (Below w.heap.size w w1) := (below_alloc _ _).trans (hb1.mono (by simp))
      clear hb1 h1
      go_wp2
      go_ret
      exact retOwn_zero (HB1.out.alloc HB1.out.size _) (by omega)
    · have hs1 : (n : Int) / 64 ≤ s := by
        have := HB.out
        rcases Int.lt_or_le s ((n : Int) / 64) with h | h
        · exact absurd ⟨HV.out, by omega, h⟩ this
        · exact h
      go_enter Try.func38, Try.ntmps38
      go_wp2_with fail
      refine (specValid_any a p n c m q S L F fuel dead _ (HP.out _) hn hm).mono ?_
      rintro e w1 ⟨h1, hb1⟩
      have := ans_true h1 HV.out
      subst this
      obtain ⟨hc1, hf1⟩ := bcell hb1
      have hz : w.heap.size < w1.heap.size := by have := hb1.size; simp at this; omega
      have HB1 : Hid (Below w.heap.size w w1) := (below_alloc _ _).trans (hb1.mono (by simp))
      clear hb1 h1 hf1
      go_wp2_with fail
      refine (l1Sectors_any a p n c m q fuel dead _ hn).mono ?_
      rintro e w2 ⟨rfl, hb2⟩
      have HB2 : Hid (Below w.heap.size w w2) := HB1.out.trans (hb2.mono (by omega))
      clear hb2 hc1
      go_wp2
      go_ret
      exact retOwn_zero (HB2.out.alloc HB2.out.size _) (by omega)
  · have HV : Hid (¬ VD n m S L fuel) := hv
    clear hv
    go_enter Try.func38, Try.ntmps38
    go_wp2_with fail
    refine (specValid_any a p n c m q S L F fuel dead _ (HP.out _) hn hm).mono ?_
    rintro e w1 ⟨h1, hb1⟩
    have := ans_false h1 HV.out
    subst this
    have HB1 : Hid (Below w.heap.size w w1) := (below_alloc _ _).trans (hb1.mono (by simp))
    clear hb1 h1
    go_wp2
    go_ret
    exact retOwn_zero (HB1.out.alloc HB1.out.size _) (by omega)

set_option maxHeartbeats 1000000 in
theorem specRead_good (a p : Option Addr) (n c m q : Nat) (d S : Nat → Int) (L : Nat → Nat) (F : Nat → Nat → Int) (fuel : Int) (dead : Bool) (s : Nat) (w : World) (ha : Rd .u8 w a n d) (hp : RdP w p m S L F) (hv : VD n m S L fuel) (hs : s < n / 64) (hn : n ≤ 1048576) (hnc : n ≤ c) (hcm : c ≤ 9223372036854775807) (hm : m ≤ 1048576) :
    Calls Try.prog 38 #[.agg #[.slice a n c, .slice p m q, .int .i64 fuel, .bool dead], .int .i64 s] w fun e w' => RetOwn w e w' 64 (secF d S F m s) := by
  have HP : Hid (RdP w p m S L F) := hp
  have HA : Hid (Rd .u8 w a n d) := ha
  have HV : Hid (VD n m S L fuel) := hv
  clear hp ha hv
  have hs1 : ¬ (s : Int) < 0 := by omega
  have hs2 : ¬ (n : Int) / 64 ≤ (s : Int) := by omega
  go_enter Try.func38, Try.ntmps38
  go_wp2_with fail
  refine (specValid_any a p n c m q S L F fuel dead _ (HP.out.below (below_alloc _ _)) hn hm).mono ?_
  rintro e w1 ⟨h1, hb1⟩
  have := ans_true h1 HV.out
  subst this
  rw [show ∀ O, (w.alloc O).heap.size = w.heap.size + 1 from fun O => by simp] at hb1
  have K1 : Hid (Below (w.heap.size + 1) (w.alloc _) w1) := hb1
  obtain ⟨x0, x1, x2, x3, xz⟩ := box4 hb1
  clear hb1 h1
  go_wp2_with fail
  refine (l1Sectors_any a p n c m q fuel dead _ hn).mono ?_
  rintro e w2 ⟨rfl, hb2⟩
  have K2 : Hid (Below (w.heap.size + 1) (w.alloc _) w2) := K1.out.trans (hb2.mono (by omega))
  clear x0 x1 x2 x3
  obtain ⟨x0, x1, x2, x3, xz2⟩ := box4 K2.out
  have HB2 : Hid (Below w.heap.size w w2) := (below_alloc _ _).trans (K2.out.mono (by omega))
  have HS2 : w.heap.size ≤ w2.heap.size := HB2.out.size
  clear hb2
  go_wp2
  go_loop [5] (fun i => ∃ k : Nat, k ≤ m ∧ i = .int .i64 ((k : Int) - 1) ∧ lastAt S s m = lastAt S s k) (fun i => (intOf i + 1).toNat)
  case atStart => exact ⟨m, Nat.le_refl _, rfl, rfl⟩
  case round =>
    obtain ⟨k, hk, rfl, hl⟩ := hrel
    have HLst : Hid (lastAt S s m = lastAt S s k) := hl
    clear hl
    cases k with
    | zero =>
      rcases HA.out.below HB2.out with h | ⟨b, o, hpa, hc⟩
      · omega
      subst hpa
      have h3 : (s + 1) * 64 - s * 64 = 64 := by omega
      have HR : Hid (∀ O, Rd .u8 (w2.alloc O) (some ⟨b, o + s * 64, none⟩) ((s + 1) * 64 - s * 64) (secF d S F m s)) := fun O => by rw [h3, secF_none (HLst.out.trans rfl)]; exact (rd_sub hc s (by omega)).below (below_alloc _ _)
      have h1 : (s : Int) * 64 ≤ ((s : Int) + 1) * 64 := by omega
      have h2 : ((s : Int) + 1) * 64 ≤ (c : Int) := by omega
      have H3 : Hid ((s + 1) * 64 - s * 64 = 64) := h3
      clear hc h3
      go_wp2_with (at_builtin; refine wpList_append_rd rfl _ _ rfl w.heap.size (.slice (some ⟨w2.heap.size, 0, none⟩) 0 0) 0 [] rfl (World.ownsRow_lit w2 #[] 0 HS2 (Nat.zero_le _) rfl) (some ⟨b, o + s * 64, none⟩) ((s + 1) * 64 - s * 64) _ (secF d S F m s) rfl (HR.out _) (by omega) (by simp; omega) ?_)
      intro v' w' ho hg
      have HB : Hid (Below w.heap.size w w') := (HB2.out.alloc HS2 _).grown hg (by simp; omega) (fun k e => by simp [Value.ownBlock] at e; omega)
      rw [H3.out] at ho
      obtain ⟨a', c', rfl, q1, q2, q3⟩ := ownB_ofRow ho
      have H1 : Hid (OwnB w' w.heap.size a' 64 (secF d S F m s)) := q1
      clear ho hg q1
      go_wp2
      go_ret
      exact ⟨a', c', rfl, H1.out, HB.out, q2, q3⟩
    | succ k =>
      rcases HP.out.below HB2.out with h | ⟨b, o, hpa, hc⟩
      · omega
      subst hpa
      obtain ⟨c1, ad, cp, c2, c3⟩ := hc k (by omega)
      have hL := (HV.out.2 k (by omega)).2.2
      rw [hL] at c2 c3
      have ek : ((k + 1 : Nat) : Int) - 1 = (k : Int) := by omega
      rw [ek]
      have hkm : (k : Int) < (m : Int) := by omega
      have c1' := c1
      have hb1 := World.block_lt_of_cell? _ _ c1
      by_cases e : S k = (s : Int)
      · have e' : (S k == (s : Int)) = true := by simp [e]
        have C3 : Hid (∀ O, Rd .u8 (w2.alloc O) ad 64 (secF d S F m s)) := fun O => by rw [secF_some (HLst.out.trans (lastAt_hit e))]; exact c3.below (below_alloc _ _)
        clear e hc c3 hL ek c1'
        go_wp2_with (at_builtin; refine wpList_append_rd rfl _ _ rfl w.heap.size (.slice (some ⟨w2.heap.size, 0, none⟩) 0 0) 0 [] rfl (World.ownsRow_lit w2 #[] 0 HS2 (Nat.zero_le _) rfl) ad 64 cp (secF d S F m s) rfl (C3.out _) (by omega) (by simp; omega) ?_)
        intro v' w' ho hg
        have HB : Hid (Below w.heap.size w w') := (HB2.out.alloc HS2 _).grown hg (by simp; omega) (fun k e => by simp [Value.ownBlock] at e; omega)
        obtain ⟨a', c', rfl, q1, q2, q3⟩ := ownB_ofRow ho
        have H1 : Hid (OwnB w' w.heap.size a' 64 (secF d S F m s)) := q1
        clear ho hg q1
        go_wp2
        go_ret
        exact ⟨a', c', rfl, H1.out, HB.out, q2, q3⟩
      · have e' : (S k == (s : Int)) = false := by simp [e]
        have HF : Hid (lastAt S s m = lastAt S s k) := HLst.out.trans (lastAt_miss e)
        clear e hc c3 hL ek c1'
        go_wp2
        go_round
        case rel => exact ⟨k, by omega, rfl, HF.out⟩
        case measure => simp [intOf]
end Go.Proofs.Ytbpcafcipncloaa
