import Derived.Test.YtnbfgkichineiaaValid
import Derived.Test.YtnbfgkichineiaaSettle
import Derived.Test.YtnbfgkichineiaaBools
import Derived.Test.YtnbfgkichineiaaHeldD
namespace Go.Proofs.Ytnbfgkichineiaa
open Go.RowKit Go.Deep
set_option linter.unusedVariables false
set_option maxRecDepth 100000

/-- A disk handed back in new memory. -/
def RetD (w : World) (e : Ending) (w' : World) (n : Nat) (d : Nat → Int) (m : Nat) (S : Nat → Int) (L : Nat → Nat) (F : Nat → Nat → Int) (fuel : Int) (dead : Bool) : Prop :=
  ∃ a' c' p' q' A', e = .returned (.agg #[.slice a' n c', .slice p' m q', .int .i64 fuel, .bool dead]) ∧ OwnD w' w.heap.size a' n d p' m S L F A' ∧ Below w.heap.size w w'

theorem ans_true {e : Ending} {p : Prop} (h : AnsB e p) (hp : p) : e = .returned (.bool true) := by
  obtain ⟨b, rfl, hb⟩ := h
  rw [hb.2 hp]
theorem ans_false {e : Ending} {p : Prop} (h : AnsB e p) (hp : ¬ p) : e = .returned (.bool false) := by
  obtain ⟨b, rfl, hb⟩ := h
  cases b with
  | false => rfl
  | true => exact absurd (hb.1 rfl) hp

/-- What is durable after a crash that keeps the writes that K names, the first k of them seen. -/
def crashTo (d S : Nat → Int) (F : Nat → Nat → Int) (K : Nat → Bool) (nk : Nat) : Nat → Nat → Int
  | 0 => d
  | k + 1 => if k < nk ∧ K k = true then over (crashTo d S F K nk k) (S k).toNat (F k) else crashTo d S F K nk k
theorem crashTo_hit {d S : Nat → Int} {F : Nat → Nat → Int} {K : Nat → Bool} {nk k : Nat} (h : k < nk) (hk : K k = true) : crashTo d S F K nk (k + 1) = over (crashTo d S F K nk k) (S k).toNat (F k) := by
  simp [crashTo, h, hk]
theorem crashTo_miss {d S : Nat → Int} {F : Nat → Nat → Int} {K : Nat → Bool} {nk k : Nat} (h : ¬ (k < nk ∧ K k = true)) : crashTo d S F K nk (k + 1) = crashTo d S F K nk k := by
  simp only [crashTo, if_neg h]

theorem sector_fits {n s : Nat} {S : Nat → Int} {L : Nat → Nat} {i : Nat} (h : VP n S L i) (hs : S i = (s : Int)) : s * 64 + 64 ≤ n := by
  obtain ⟨h0, h1, _⟩ := h
  omega

set_option maxHeartbeats 1000000 in
theorem implCrash_bad (a p ka : Option Addr) (n c m q nk kc : Nat) (S : Nat → Int) (L : Nat → Nat) (F : Nat → Nat → Int) (fuel : Int) (dead : Bool) (w : World) (hp : RdP w p m S L F) (hbad : ¬ VD n m S L fuel) (hn : n ≤ 1048576) (hm : m ≤ 1048576) :
    Calls Try.prog 30 #[.agg #[.slice a n c, .slice p m q, .int .i64 fuel, .bool dead], .slice ka nk kc] w fun e w' => RetD w e w' 0 (fun _ => 0) 0 (fun _ => 0) (fun _ => 0) (fun _ _ => 0) 0 false := by
  have HP : Hid (∀ O O', RdP ((w.alloc O).alloc O') p m S L F) := fun O O' => (hp.below (below_alloc _ _)).below (below_alloc _ _)
  have HV : Hid (¬ VD n m S L fuel) := hbad
  clear hp hbad
  go_enter Try.func30, Try.ntmps30
  go_wp2_with fail
  refine (implValid_any a p n c m q S L F fuel dead _ (HP.out _ _) hn hm).mono ?_
  rintro e w1 ⟨h1, hb1⟩
  have := ans_false h1 HV.out
  subst this
  have E2 : ∀ O O', ((w.alloc O).alloc O').heap.size = w.heap.size + 2 := fun O O' => by simp
  rw [E2] at hb1
  have hc1 : ∀ b o, b < w.heap.size + 2 → w1.cell? ⟨b, o, none⟩ = _ := fun b o hb => hb1.cell (p := ⟨b, o, none⟩) hb
  have hf1 : ∀ b o, b < w.heap.size + 2 → w1.frozen? ⟨b, o, none⟩ = _ := fun b o hb => hb1.frozen (p := ⟨b, o, none⟩) hb
  have hz : w.heap.size + 1 < w1.heap.size := by have := hb1.size; simp at this; omega
  have HB1 : Hid (Below w.heap.size w w1) := (((below_alloc _ _).trans ((below_alloc _ _).mono (by simp)))).trans (hb1.mono (by omega))
  clear hb1 h1 E2
  go_wp2
  refine bodyPost_ret (v := .agg #[.slice none 0 0, .slice none 0 0, .int .i64 0, .bool false]) (by simp [results, Try.results30, go_sem, hc1]) rfl ⟨none, 0, none, 0, fun _ => none, rfl, ⟨Or.inl rfl, Or.inl rfl, fun h => absurd rfl h⟩, ?_⟩
  exact (((HB1.out.setCell (by simp) _).setCell (by simp) _).setCell (by simp) _).setCell (by simp) _

set_option maxHeartbeats 1000000 in
theorem specCrash_bad (a p ka : Option Addr) (n c m q nk kc : Nat) (S : Nat → Int) (L : Nat → Nat) (F : Nat → Nat → Int) (fuel : Int) (dead : Bool) (w : World) (hp : RdP w p m S L F) (hbad : ¬ VD n m S L fuel) (hn : n ≤ 1048576) (hm : m ≤ 1048576) :
    Calls Try.prog 28 #[.agg #[.slice a n c, .slice p m q, .int .i64 fuel, .bool dead], .slice ka nk kc] w fun e w' => RetD w e w' 0 (fun _ => 0) 0 (fun _ => 0) (fun _ => 0) (fun _ _ => 0) 0 false := by
  have HP : Hid (∀ O O', RdP ((w.alloc O).alloc O') p m S L F) := fun O O' => (hp.below (below_alloc _ _)).below (below_alloc _ _)
  have HV : Hid (¬ VD n m S L fuel) := hbad
  clear hp hbad
  go_enter Try.func28, Try.ntmps28
  go_wp2_with fail
  refine (specValid_any a p n c m q S L F fuel dead _ (HP.out _ _) hn hm).mono ?_
  rintro e w1 ⟨h1, hb1⟩
  have := ans_false h1 HV.out
  subst this
  have E2 : ∀ O O', ((w.alloc O).alloc O').heap.size = w.heap.size + 2 := fun O O' => by simp
  rw [E2] at hb1
  have hc1 : ∀ b o, b < w.heap.size + 2 → w1.cell? ⟨b, o, none⟩ = _ := fun b o hb => hb1.cell (p := ⟨b, o, none⟩) hb
  have hf1 : ∀ b o, b < w.heap.size + 2 → w1.frozen? ⟨b, o, none⟩ = _ := fun b o hb => hb1.frozen (p := ⟨b, o, none⟩) hb
  have hz : w.heap.size + 1 < w1.heap.size := by have := hb1.size; simp at this; omega
  have HB1 : Hid (Below w.heap.size w w1) := (((below_alloc _ _).trans ((below_alloc _ _).mono (by simp)))).trans (hb1.mono (by omega))
  clear hb1 h1 E2
  go_wp2
  refine bodyPost_ret (v := .agg #[.slice none 0 0, .slice none 0 0, .int .i64 0, .bool false]) (by simp [results, Try.results28, go_sem, hc1]) rfl ⟨none, 0, none, 0, fun _ => none, rfl, ⟨Or.inl rfl, Or.inl rfl, fun h => absurd rfl h⟩, ?_⟩
  exact (((HB1.out.setCell (by simp) _).setCell (by simp) _).setCell (by simp) _).setCell (by simp) _

set_option maxHeartbeats 2000000 in
theorem implCrash_good (a p ka : Option Addr) (n c m q nk kc : Nat) (d S : Nat → Int) (L : Nat → Nat) (F : Nat → Nat → Int) (K : Nat → Bool) (fuel : Int) (dead : Bool) (w : World) (ha : Rd .u8 w a n d) (hp : RdP w p m S L F) (hk : RdBl w ka nk K) (hv : VD n m S L fuel) (hn : n ≤ 1048576) (hm : m ≤ 1048576) (hnk : nk ≤ 1048576) :
    Calls Try.prog 30 #[.agg #[.slice a n c, .slice p m q, .int .i64 fuel, .bool dead], .slice ka nk kc] w fun e w' => RetD w e w' n (crashTo d S F K nk m) 0 (fun _ => 0) (fun _ => 0) (fun _ _ => 0) (-1) false := by
  have HP : Hid (RdP w p m S L F) := hp
  have HA : Hid (Rd .u8 w a n d) := ha
  have HKK : Hid (RdBl w ka nk K) := hk
  have HV : Hid (VD n m S L fuel) := hv
  have hpos : 1024 ≤ n := by have := hv.1; unfold VH at this; omega
  clear hp ha hk hv
  go_enter Try.func30, Try.ntmps30
  go_wp2_with fail
  refine (implValid_any a p n c m q S L F fuel dead _ ((HP.out.below (below_alloc _ _)).below (below_alloc _ _)) hn hm).mono ?_
  rintro e w1 ⟨h1, hb1⟩
  have := ans_true h1 HV.out
  subst this
  have E2 : ∀ O O', ((w.alloc O).alloc O').heap.size = w.heap.size + 2 := fun O O' => by simp
  rw [E2] at hb1
  have hc1 : ∀ b o, b < w.heap.size + 2 → w1.cell? ⟨b, o, none⟩ = _ := fun b o hb => hb1.cell (p := ⟨b, o, none⟩) hb
  have hz1 : w.heap.size + 1 < w1.heap.size := by have := hb1.size; simp at this; omega
  have K1 : Hid (Below (w.heap.size + 2) ((w.alloc _).alloc _) w1) := hb1
  have HJ : Hid (∀ {W : World}, Below (w.heap.size + 2) ((w.alloc (.cells #[.slice a n c, .slice p m q, .int .i64 fuel, .bool dead] 25)).alloc (.cells #[.slice none 0 0, .slice none 0 0, .int .i64 0, .bool false] 25)) W → Below w.heap.size w W) := fun h => (((below_alloc _ _).trans ((below_alloc _ _).mono (by simp)))).trans (h.mono (by omega))
  clear hb1 h1 E2
  go_wp2_with fail
  refine (copyBytes_any a n c d w1 (HA.out.below (HJ.out K1.out)) hn).mono ?_
  rintro e w2 ⟨a2, c2, rfl, ho2, hb2, hl2, hm2⟩
  rcases ho2 with h0 | ⟨g, rfl, hg, hr2⟩
  · omega
  have K2 : Hid (Below (w.heap.size + 2) ((w.alloc _).alloc _) w2) := K1.out.trans (hb2.mono (by omega))
  have z12 := hb2.size
  have HR2 : Hid (rowIn w2 g 5 n (fun i => .int .u8 (d i))) := hr2
  have hg2 := hr2.lt
  clear hb2 hr2 hc1
  have hc2 : ∀ b o, b < w.heap.size + 2 → w2.cell? ⟨b, o, none⟩ = _ := fun b o hb => K2.out.cell (p := ⟨b, o, none⟩) hb
  go_wp2
  go_loopw [6, 7, 18] (fun _ _ i wr => ∃ k : Nat, k ≤ m ∧ i = .int .i64 k ∧ rowIn wr g 5 n (fun j => .int .u8 (crashTo d S F K nk k j)) ∧ Within g (g + 1) w2 wr) (fun _ _ i _ => m - (intOf i).toNat)
  case atStart => exact ⟨0, Nat.zero_le _, rfl, HR2.out, Within.refl _ _ _⟩
  case round =>
    obtain ⟨k, hkm, rfl, hrow, hwi⟩ := hrel
    have K3 : Hid (Below (w.heap.size + 2) ((w.alloc _).alloc _) wr) := K2.out.trans ((hwi.below (by omega)).mono (by omega))
    have hz3 := hwi.size
    have HW : Hid (Within g (g + 1) w2 wr) := hwi
    have HRW : Hid (rowIn wr g 5 n (fun j => .int .u8 (crashTo d S F K nk k j))) := hrow
    clear hwi hrow hc2
    have hc3 : ∀ b o, b < w.heap.size + 2 → wr.cell? ⟨b, o, none⟩ = _ := fun b o hb => K3.out.cell (p := ⟨b, o, none⟩) hb
    have hf3 : ∀ b o, b < w.heap.size + 2 → wr.frozen? ⟨b, o, none⟩ = _ := fun b o hb => K3.out.frozen (p := ⟨b, o, none⟩) hb
    by_cases hlt : k < m
    · rcases HP.out.below (HJ.out K3.out) with h | ⟨b, o, hpa, hc⟩
      · omega
      subst hpa
      obtain ⟨c1, ad, cp, cc2, c3⟩ := hc k hlt
      have hvp := HV.out.2 k hlt
      rw [hvp.2.2] at cc2 c3
      obtain ⟨s, hs⟩ := Int.eq_ofNat_of_zero_le hvp.1
      have hfit := sector_fits hvp hs
      have HS : Hid (S k = (s : Int)) := hs
      rw [hs] at c1
      have C3 : Hid (Rd .u8 wr ad 64 (F k)) := c3
      have hbb := World.block_lt_of_cell? _ _ c1
      have hbb2 : b < wr.heap.size := hbb
      clear hc c3 hvp hs hbb
      by_cases hkn : k < nk
      · rcases HKK.out.below (HJ.out K3.out) with h | ⟨kb, ko, hka, hkc⟩
        · omega
        subst hka
        have c4 := hkc k hkn
        have hkb : kb < wr.heap.size := World.block_lt_of_cell? _ _ c4
        clear hkc
        have hkn' : decide ((k : Int) < (nk : Int)) = true := by simpa using hkn
        cases hKk : K k with
        | true =>
          have HT : Hid (crashTo d S F K nk (k + 1) = over (crashTo d S F K nk k) s (F k)) := by
            show _ = _
            rw [crashTo_hit hkn hKk, HS.out, Int.toNat_natCast]
          rw [hKk] at c4
          clear hKk
          go_wp2_with fail
          refine (settle_any g n c2 s cp ad _ (F k) _ (HRW.out.of_block (Below.heap_alloc _ _ _ HRW.out.lt)) (C3.out.below (below_alloc _ _)) hfit hl2 hm2 hn).mono ?_
          rintro e w3 ⟨rfl, hr3, ho3⟩
          have HX : Hid (rowIn w3 g 5 n (fun j => .int .u8 (crashTo d S F K nk (k + 1) j)) ∧ Within g (g + 1) w2 w3) :=
            ⟨by rw [HT.out]; exact hr3, ((HW.out.trans (Within.ofBelow (below_alloc _ _))).trans (Within.ofBelow (below_alloc _ _))).trans (Within.ofOnly ho3 (fun x e => by injection e with e; subst e; exact ⟨Nat.le_refl _, Nat.lt_succ_self _⟩))⟩
          clear hr3 ho3 hc3 hf3 c1 cc2 c4
          go_wp2
          go_roundw
          case rel => exact ⟨k + 1, by omega, by go_num, HX.out⟩
          case measure => simp [intOf]; omega
        | false =>
          have HT : Hid (crashTo d S F K nk (k + 1) = crashTo d S F K nk k) := crashTo_miss (fun h => by rw [hKk] at h; cases h.2)
          rw [hKk] at c4
          clear hKk
          go_wp2
          go_roundw
          case rel => exact ⟨k + 1, by omega, by go_num, by rw [HT.out]; exact HRW.out.of_block (Below.heap_alloc _ _ _ HRW.out.lt), HW.out.trans (Within.ofBelow (below_alloc _ _))⟩
          case measure => simp [intOf]; omega
      · have hkn' : decide ((k : Int) < (nk : Int)) = false := by simpa using hkn
        have HT : Hid (crashTo d S F K nk (k + 1) = crashTo d S F K nk k) := crashTo_miss (fun h => hkn h.1)
        go_wp2
        go_roundw
        case rel => exact ⟨k + 1, by omega, by go_num, by rw [HT.out]; exact HRW.out.of_block (Below.heap_alloc _ _ _ HRW.out.lt), HW.out.trans (Within.ofBelow (below_alloc _ _))⟩
        case measure => simp [intOf]; omega
    · have e : k = m := by omega
      subst e
      go_wp2
      refine bodyPost_ret (v := .agg #[.slice (some ⟨g, 0, none⟩) n c2, .slice none 0 0, .int .i64 (-1), .bool false]) (by simp [results, Try.results30, go_sem, hc3]) rfl ⟨some ⟨g, 0, none⟩, c2, none, 0, fun _ => none, rfl, ⟨Or.inr ⟨g, rfl, by omega, ?_⟩, Or.inl rfl, fun _ i hi => absurd hi (Nat.not_lt_zero _)⟩, ?_⟩
      · have q : g ≠ w.heap.size + 1 := by omega
        exact (((HRW.out.setOther (by simpa using q) _).setOther (by simpa using q) _).setOther (by simpa using q) _).setOther (by simpa using q) _
      · have q := HJ.out K3.out
        exact (((q.setCell (by simp) _).setCell (by simp) _).setCell (by simp) _).setCell (by simp) _

set_option maxHeartbeats 2000000 in
theorem specCrash_good (a p ka : Option Addr) (n c m q nk kc : Nat) (d S : Nat → Int) (L : Nat → Nat) (F : Nat → Nat → Int) (K : Nat → Bool) (fuel : Int) (dead : Bool) (w : World) (ha : Rd .u8 w a n d) (hp : RdP w p m S L F) (hk : RdBl w ka nk K) (hv : VD n m S L fuel) (hn : n ≤ 1048576) (hm : m ≤ 1048576) (hnk : nk ≤ 1048576) :
    Calls Try.prog 28 #[.agg #[.slice a n c, .slice p m q, .int .i64 fuel, .bool dead], .slice ka nk kc] w fun e w' => RetD w e w' n (crashTo d S F K nk m) 0 (fun _ => 0) (fun _ => 0) (fun _ _ => 0) (-1) false := by
  have HP : Hid (RdP w p m S L F) := hp
  have HA : Hid (Rd .u8 w a n d) := ha
  have HKK : Hid (RdBl w ka nk K) := hk
  have HV : Hid (VD n m S L fuel) := hv
  have hpos : 1024 ≤ n := by have := hv.1; unfold VH at this; omega
  clear hp ha hk hv
  go_enter Try.func28, Try.ntmps28
  go_wp2_with fail
  refine (specValid_any a p n c m q S L F fuel dead _ ((HP.out.below (below_alloc _ _)).below (below_alloc _ _)) hn hm).mono ?_
  rintro e w1 ⟨h1, hb1⟩
  have := ans_true h1 HV.out
  subst this
  have E2 : ∀ O O', ((w.alloc O).alloc O').heap.size = w.heap.size + 2 := fun O O' => by simp
  rw [E2] at hb1
  have hc1 : ∀ b o, b < w.heap.size + 2 → w1.cell? ⟨b, o, none⟩ = _ := fun b o hb => hb1.cell (p := ⟨b, o, none⟩) hb
  have hz1 : w.heap.size + 1 < w1.heap.size := by have := hb1.size; simp at this; omega
  have K1 : Hid (Below (w.heap.size + 2) ((w.alloc _).alloc _) w1) := hb1
  have HJ : Hid (∀ {W : World}, Below (w.heap.size + 2) ((w.alloc (.cells #[.slice a n c, .slice p m q, .int .i64 fuel, .bool dead] 25)).alloc (.cells #[.slice none 0 0, .slice none 0 0, .int .i64 0, .bool false] 25)) W → Below w.heap.size w W) := fun h => (((below_alloc _ _).trans ((below_alloc _ _).mono (by simp)))).trans (h.mono (by omega))
  clear hb1 h1 E2
  have HRA : Hid (∀ O, Rd .u8 (w1.alloc O) a n d) := fun O => (HA.out.below (HJ.out K1.out)).below (below_alloc _ _)
  have zz : w.heap.size + 2 ≤ w1.heap.size := by omega
  have zz0 : w.heap.size < w1.heap.size := by omega
  go_wp2_with (at_builtin; refine wpList_append_rd rfl _ _ rfl (w.heap.size + 2) (.slice (some ⟨w1.heap.size, 0, none⟩) 0 0) 0 [] rfl (World.ownsRow_lit w1 #[] 0 zz (Nat.zero_le _) rfl) a n c d rfl (HRA.out _) (by omega) (by simp; omega) ?_)
  intro v2 w2 ho2 hg2
  have K2 : Hid (Below (w.heap.size + 2) ((w.alloc _).alloc _) w2) := (K1.out.alloc (by simpa using zz) _).grown hg2 (by simp; omega) (fun k e => by simp [Value.ownBlock] at e; omega)
  obtain ⟨a2, c2, rfl, q1, q2, q3⟩ := ownB_ofRow ho2
  have H2 : Hid (OwnB w2 (w.heap.size + 2) a2 n d) := q1
  clear ho2 hg2 q1 hc1 HRA
  have hc2 : ∀ b o, b < w.heap.size + 2 → w2.cell? ⟨b, o, none⟩ = _ := fun b o hb => K2.out.cell (p := ⟨b, o, none⟩) hb
  go_wp2
  go_loopw [5, 6] (fun v i wr => ∃ (k : Nat) (a' : Option Addr) (c' : Nat), k ≤ m ∧ i = .int .i64 k ∧ v = .slice a' n c' ∧ OwnB wr (w.heap.size + 2) a' n (crashTo d S F K nk k) ∧ n ≤ c' ∧ c' ≤ 9223372036854775807 ∧ Below (w.heap.size + 2) ((w.alloc (.cells #[.slice a n c, .slice p m q, .int .i64 fuel, .bool dead] 25)).alloc (.cells #[.slice none 0 0, .slice none 0 0, .int .i64 0, .bool false] 25)) wr) (fun _ i _ => m - (intOf i).toNat)
  case atStart => exact ⟨0, a2, c2, Nat.zero_le _, rfl, rfl, H2.out, q2, q3, K2.out⟩
  case round =>
    obtain ⟨k, a', c', hkm, rfl, rfl, hrow, hc'1, hc'2, hbel⟩ := hrel
    have K3 : Hid (Below (w.heap.size + 2) ((w.alloc _).alloc _) wr) := hbel
    have hz3 : w.heap.size + 2 ≤ wr.heap.size := by have := hbel.size; simpa using this
    have HRW : Hid (OwnB wr (w.heap.size + 2) a' n (crashTo d S F K nk k)) := hrow
    clear hbel hrow hc2
    have hc3 : ∀ b o, b < w.heap.size + 2 → wr.cell? ⟨b, o, none⟩ = _ := fun b o hb => K3.out.cell (p := ⟨b, o, none⟩) hb
    have hf3 : ∀ b o, b < w.heap.size + 2 → wr.frozen? ⟨b, o, none⟩ = _ := fun b o hb => K3.out.frozen (p := ⟨b, o, none⟩) hb
    by_cases hlt : k < m
    · rcases HP.out.below (HJ.out K3.out) with h | ⟨b, o, hpa, hc⟩
      · omega
      subst hpa
      obtain ⟨c1, ad, cp, cc2, c3⟩ := hc k hlt
      have hvp := HV.out.2 k hlt
      rw [hvp.2.2] at cc2 c3
      obtain ⟨s, hs⟩ := Int.eq_ofNat_of_zero_le hvp.1
      have hfit := sector_fits hvp hs
      have HS : Hid (S k = (s : Int)) := hs
      rw [hs] at c1
      have C3 : Hid (Rd .u8 wr ad 64 (F k)) := c3
      have hbb := World.block_lt_of_cell? _ _ c1
      have hbb2 : b < wr.heap.size := hbb
      clear hc c3 hvp hs hbb
      by_cases hkn : k < nk
      · rcases HKK.out.below (HJ.out K3.out) with h | ⟨kb, ko, hka, hkc⟩
        · omega
        subst hka
        have c4 := hkc k hkn
        clear hkc
        have hkn' : decide ((k : Int) < (nk : Int)) = true := by simpa using hkn
        have ik : (k : Int) < (m : Int) := by omega
        cases hKk : K k with
        | true =>
          have HT : Hid (crashTo d S F K nk (k + 1) = over (crashTo d S F K nk k) s (F k)) := by
            show _ = _
            rw [crashTo_hit hkn hKk, HS.out, Int.toNat_natCast]
          rw [hKk] at c4
          clear hKk
          have y1 := hc3 w.heap.size 1 (by omega)
          simp at y1
          have HC : Hid (∀ w3 : World, Below wr.drew.heap.size wr.drew w3 → w3.cell? ⟨w.heap.size, 1, none⟩ = some (.slice (some ⟨b, o, none⟩) m q) ∧ w3.cell? ⟨b, o + k * 2, none⟩ = some (.int .i64 s) ∧ w3.cell? ⟨b, o + k * 2 + 1, none⟩ = some (.slice ad 64 cp)) := by
            intro w3 hb
            refine ⟨(hb.cell (p := ⟨w.heap.size, 1, none⟩) ?_).trans y1, (hb.cell (p := ⟨b, o + k * 2, none⟩) ?_).trans c1, (hb.cell (p := ⟨b, o + k * 2 + 1, none⟩) ?_).trans cc2⟩
            · show w.heap.size < wr.heap.size
              omega
            · exact hbb2
            · exact hbb2
          go_wp2
          go_region_held3 (fun w' => w'.cell? ⟨w.heap.size, 1, none⟩ = some (.slice (some ⟨b, o, none⟩) m q) ∧ w'.cell? ⟨b, o + k * 2, none⟩ = some (.int .i64 s) ∧ w'.cell? ⟨b, o + k * 2 + 1, none⟩ = some (.slice ad 64 cp)) (go_keep)
            (first
            | (go_at_call 51; refine (l1Over_any a' ad n c' cp s (crashTo d S F K nk k) (F k) wr.drew ?_ ?_ hfit hn hc'1 hc'2).mono ?_; exact HRW.out.rd; exact C3.out; rintro e w3 ⟨a3, c3, rfl, ho3, hb3, hl3, hm3⟩; obtain ⟨k1, k2, k3⟩ := HC.out w3 hb3))
          have HX : Hid (OwnB w3 (w.heap.size + 2) a3 n (crashTo d S F K nk (k + 1)) ∧ Below (w.heap.size + 2) ((w.alloc (.cells #[.slice a n c, .slice (some ⟨b, o, none⟩) m q, .int .i64 fuel, .bool dead] 25)).alloc (.cells #[.slice none 0 0, .slice none 0 0, .int .i64 0, .bool false] 25)) w3) :=
            ⟨by rw [HT.out]; exact ho3.mono hz3, K3.out.drew.trans (hb3.mono hz3)⟩
          clear ho3 hb3 k1 k2 k3 c1 cc2 c4 hc3 hf3 y1 HC
          go_wp2
          go_roundw
          case rel => exact ⟨k + 1, a3, c3, by omega, by go_num, rfl, HX.out.1, hl3, hm3, HX.out.2⟩
          case measure => simp [intOf]; omega
        | false =>
          have HT : Hid (crashTo d S F K nk (k + 1) = crashTo d S F K nk k) := crashTo_miss (fun h => by rw [hKk] at h; cases h.2)
          rw [hKk] at c4
          clear hKk
          go_wp2
          go_roundw
          case rel => exact ⟨k + 1, a', c', by omega, by go_num, rfl, by rw [HT.out]; exact HRW.out, hc'1, hc'2, K3.out⟩
          case measure => simp [intOf]; omega
      · have hkn' : decide ((k : Int) < (nk : Int)) = false := by simpa using hkn
        have HT : Hid (crashTo d S F K nk (k + 1) = crashTo d S F K nk k) := crashTo_miss (fun h => hkn h.1)
        go_wp2
        go_roundw
        case rel => exact ⟨k + 1, a', c', by omega, by go_num, rfl, by rw [HT.out]; exact HRW.out, hc'1, hc'2, K3.out⟩
        case measure => simp [intOf]; omega
    · have e : k = m := by omega
      subst e
      go_wp2
      refine bodyPost_ret (v := .agg #[.slice a' n c', .slice none 0 0, .int .i64 (-1), .bool false]) (by simp [results, Try.results28, go_sem, hc3]) rfl ⟨a', c', none, 0, fun _ => none, rfl, ⟨?_, Or.inl rfl, fun _ i hi => absurd hi (Nat.not_lt_zero _)⟩, ?_⟩
      · exact ((((HRW.out.setOther (by simp) _).setOther (by simp) _).setOther (by simp) _).setOther (by simp) _).mono (by omega)
      · have q := HJ.out K3.out
        exact (((q.setCell (by simp) _).setCell (by simp) _).setCell (by simp) _).setCell (by simp) _
end Go.Proofs.Ytnbfgkichineiaa
