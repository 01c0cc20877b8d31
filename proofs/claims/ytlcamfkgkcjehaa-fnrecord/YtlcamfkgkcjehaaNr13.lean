import Derived.Test.YtlcamfkgkcjehaaNr4
import Derived.Test.YtlcamfkgkcjehaaNr5
import Derived.Test.YtlcamfkgkcjehaaNr3
namespace Go.Proofs.Ytlcamfkgkcjehaa
open Go.RowKit Go.Deep
set_option linter.unusedVariables false
set_option maxRecDepth 100000

/-- A disk handed back in new memory. -/
def RetDc (w : World) (e : Ending) (w' : World) (n : Nat) (d : Nat → Int) (m : Nat) (S : Nat → Int) (L : Nat → Nat) (F : Nat → Nat → Int) (fuel : Int) (dead : Bool) : Prop :=
  ∃ a' c' p' q' A', e = .returned (.agg #[.slice a' n c', .slice p' m q', .int .i64 fuel, .bool dead]) ∧ OwnD w' w.heap.size a' n d p' m S L F A' ∧ Below w.heap.size w w' ∧ n ≤ c' ∧ c' ≤ 9223372036854775807

theorem ansC_true {e : Ending} {p : Prop} (h : AnsB e p) (hp : p) : e = .returned (.bool true) := by
  obtain ⟨b, rfl, hb⟩ := h
  rw [hb.2 hp]
/-- What is durable after a crash that keeps the writes that K names, the first k of them seen. -/
def crashTo (d S : Nat → Int) (F : Nat → Nat → Int) (K : Nat → Bool) (nk : Nat) : Nat → Nat → Int
  | 0 => d
  | k + 1 => if k < nk ∧ K k = true then over (crashTo d S F K nk k) (S k).toNat (F k) else crashTo d S F K nk k
theorem crashTo_hit {d S : Nat → Int} {F : Nat → Nat → Int} {K : Nat → Bool} {nk k : Nat} (h : k < nk) (hk : K k = true) : crashTo d S F K nk (k + 1) = over (crashTo d S F K nk k) (S k).toNat (F k) := by
  simp [crashTo, h, hk]
theorem crashTo_miss {d S : Nat → Int} {F : Nat → Nat → Int} {K : Nat → Bool} {nk k : Nat} (h : ¬ (k < nk ∧ K k = true)) : crashTo d S F K nk (k + 1) = crashTo d S F K nk k := by
  simp only [crashTo, if_neg h]

theorem sector_fits {n s : Nat} {S : Nat → Int} {L : Nat → Nat} {i : Nat} (h : VP n S L i) (hs : S i = (s : Int)) : s * 64 + 64 ≤ n := by
  obtain ⟨h0, h1, _⟩ := h
  omega

set_option maxHeartbeats 2000000 in
theorem implCrash_good (a p ka : Option Addr) (n c m q nk kc : Nat) (d S : Nat → Int) (L : Nat → Nat) (F : Nat → Nat → Int) (K : Nat → Bool) (fuel : Int) (dead : Bool) (w : World) (ha : Rd .u8 w a n d) (hp : RdP w p m S L F) (hk : RdBl w ka nk K) (hv : VD n m S L fuel) (hn : n ≤ 1048576) (hm : m ≤ 1048576) (hnk : nk ≤ 1048576) :
    Calls Try.prog 7 #[.agg #[.slice a n c, .slice p m q, .int .i64 fuel, .bool dead], .slice ka nk kc] w fun e w' => RetDc w e w' n (crashTo d S F K nk m) 0 (fun _ => 0) (fun _ => 0) (fun _ _ => 0) (-1) false := by
  have HP : Hid (RdP w p m S L F) := hp
  have HA : Hid (Rd .u8 w a n d) := ha
  have HKK : Hid (RdBl w ka nk K) := hk
  have HV : Hid (VD n m S L fuel) := hv
  have hpos : 1024 ≤ n := by have := hv.1; unfold VH at this; omega
  clear hp ha hk hv
  go_enter Try.func7, Try.ntmps7
  go_wp2_with fail
  refine (implValid_any a p n c m q S L F fuel dead _ ((HP.out.below (below_alloc _ _)).below (below_alloc _ _)) hn hm).mono ?_
  rintro e w1 ⟨h1, hb1⟩
  have := ansC_true h1 HV.out
  subst this
  have E2 : ∀ O O', ((w.alloc O).alloc O').heap.size = w.heap.size + 2 := fun O O' => by simp
  rw [E2] at hb1
  have hc1 : ∀ b o, b < w.heap.size + 2 → w1.cell? ⟨b, o, none⟩ = _ := fun b o hb => hb1.cell (p := ⟨b, o, none⟩) hb
  have hz1 : w.heap.size + 1 < w1.heap.size := by have := hb1.size; simp at this; omega
  have K1 : Hid (Below (w.heap.size + 2) ((w.alloc _).alloc _) w1) := hb1
  have HJ : Hid (∀ {W : World}, Below (w.heap.size + 2) ((w.alloc (.cells #[.slice a n c, .slice p m q, .int .i64 fuel, .bool dead] 25)).alloc (.cells #[.slice none 0 0, .slice none 0 0, .int .i64 0, .bool false] 25)) W → Below w.heap.size w W) := fun h => (((below_alloc _ _).trans ((below_alloc _ _).mono (by simp)))).trans (h.mono (by omega))
  clear hb1 h1 E2
  go_wp2_with fail
  refine (copyBytes_any a n c d w1 (HA.out.below (HJ.out K1.out)) hn).mono ?_
  rintro e w2 ⟨a2, c2, rfl, ho2, hb2, hl2, hm2⟩
  rcases ho2 with h0 | ⟨g, rfl, hg, hr2⟩
  · omega
  have K2 : Hid (Below (w.heap.size + 2) ((w.alloc _).alloc _) w2) := K1.out.trans (hb2.mono (by omega))
  have z12 := hb2.size
  have HR2 : Hid (rowIn w2 g 5 n (fun i => .int .u8 (d i))) := hr2
  have hg2 := hr2.lt
  clear hb2 hr2 hc1
  have hc2 : ∀ b o, b < w.heap.size + 2 → w2.cell? ⟨b, o, none⟩ = _ := fun b o hb => K2.out.cell (p := ⟨b, o, none⟩) hb
  go_wp2
  go_loopw [6, 7, 18] (fun _ _ i wr => ∃ k : Nat, k ≤ m ∧ i = .int .i64 k ∧ rowIn wr g 5 n (fun j => .int .u8 (crashTo d S F K nk k j)) ∧ Within g (g + 1) w2 wr) (fun _ _ i _ => m - (intOf i).toNat)
  case atStart => exact ⟨0, Nat.zero_le _, rfl, HR2.out, Within.refl _ _ _⟩
  case round =>
    obtain ⟨k, hkm, rfl, hrow, hwi⟩ := hrel
    have K3 : Hid (Below (w.heap.size + 2) ((w.alloc _).alloc _) wr) := K2.out.trans ((hwi.below (by omega)).mono (by omega))
    have hz3 := hwi.size
    have HW : Hid (Within g (g + 1) w2 wr) := hwi
    have HRW : Hid (rowIn wr g 5 n (fun j => .int .u8 (crashTo d S F K nk k j))) := hrow
    clear hwi hrow hc2
    have hc3 : ∀ b o, b < w.heap.size + 2 → wr.cell? ⟨b, o, none⟩ = _ := fun b o hb => K3.out.cell (p := ⟨b, o, none⟩) hb
    have hf3 : ∀ b o, b < w.heap.size + 2 → wr.frozen? ⟨b, o, none⟩ = _ := fun b o hb => K3.out.frozen (p := ⟨b, o, none⟩) hb
    by_cases hlt : k < m
    · rcases HP.out.below (HJ.out K3.out) with h | ⟨b, o, hpa, hc⟩
      · omega
      subst hpa
      obtain ⟨c1, ad, cp, cc2, c3⟩ := hc k hlt
      have hvp := HV.out.2 k hlt
      rw [hvp.2.2] at cc2 c3
      obtain ⟨s, hs⟩ := Int.eq_ofNat_of_zero_le hvp.1
      have hfit := sector_fits hvp hs
      have HS : Hid (S k = (s : Int)) := hs
      rw [hs] at c1
      have C3 : Hid (Rd .u8 wr ad 64 (F k)) := c3
      have hbb := World.block_lt_of_cell? _ _ c1
      have hbb2 : b < wr.heap.size := hbb
      clear hc c3 hvp hs hbb
      by_cases hkn : k < nk
      · rcases HKK.out.below (HJ.out K3.out) with h | ⟨kb, ko, hka, hkc⟩
        · omega
        subst hka
        have c4 := hkc k hkn
        have hkb : kb < wr.heap.size := World.block_lt_of_cell? _ _ c4
        clear hkc
        have hkn' : decide ((k : Int) < (nk : Int)) = true := by simpa using hkn
        cases hKk : K k with
        | true =>
          have HT : Hid (crashTo d S F K nk (k + 1) = over (crashTo d S F K nk k) s (F k)) := by
            show _ = _
            rw [crashTo_hit hkn hKk, HS.out, Int.toNat_natCast]
          rw [hKk] at c4
          clear hKk
          go_wp2_with fail
          refine (settle_any g n c2 s cp ad _ (F k) _ (HRW.out.of_block (Below.heap_alloc _ _ _ HRW.out.lt)) (C3.out.below (below_alloc _ _)) hfit hl2 hm2 hn).mono ?_
          rintro e w3 ⟨rfl, hr3, ho3⟩
          have HX : Hid (rowIn w3 g 5 n (fun j => .int .u8 (crashTo d S F K nk (k + 1) j)) ∧ Within g (g + 1) w2 w3) :=
            ⟨by rw [HT.out]; exact hr3, ((HW.out.trans (Within.ofBelow (below_alloc _ _))).trans (Within.ofBelow (below_alloc _ _))).trans (Within.ofOnly ho3 (fun x e => by injection e with e; subst e; exact ⟨Nat.le_refl _, Nat.lt_succ_self _⟩))⟩
          clear hr3 ho3 hc3 hf3 c1 cc2 c4
          go_wp2
          go_roundw
          case rel => exact ⟨k + 1, by omega, by go_num, HX.out⟩
          case measure => simp [intOf]; omega
        | false =>
          have HT : Hid (crashTo d S F K nk (k + 1) = crashTo d S F K nk k) := crashTo_miss (fun h => by rw [hKk] at h; cases h.2)
          rw [hKk] at c4
          clear hKk
          go_wp2
          go_roundw
          case rel => exact ⟨k + 1, by omega, by go_num, by rw [HT.out]; exact HRW.out.of_block (Below.heap_alloc _ _ _ HRW.out.lt), HW.out.trans (Within.ofBelow (below_alloc _ _))⟩
          case measure => simp [intOf]; omega
      · have hkn' : decide ((k : Int) < (nk : Int)) = false := by simpa using hkn
        have HT : Hid (crashTo d S F K nk (k + 1) = crashTo d S F K nk k) := crashTo_miss (fun h => hkn h.1)
        go_wp2
        go_roundw
        case rel => exact ⟨k + 1, by omega, by go_num, by rw [HT.out]; exact HRW.out.of_block (Below.heap_alloc _ _ _ HRW.out.lt), HW.out.trans (Within.ofBelow (below_alloc _ _))⟩
        case measure => simp [intOf]; omega
    · have e : k = m := by omega
      subst e
      go_wp2
      refine bodyPost_ret (v := .agg #[.slice (some ⟨g, 0, none⟩) n c2, .slice none 0 0, .int .i64 (-1), .bool false]) (by simp [results, Try.results7, go_sem, hc3]) rfl ⟨some ⟨g, 0, none⟩, c2, none, 0, fun _ => none, rfl, ⟨Or.inr ⟨g, rfl, by omega, ?_⟩, Or.inl rfl, fun _ i hi => absurd hi (Nat.not_lt_zero _)⟩, ?_, hl2, hm2⟩
      · have q : g ≠ w.heap.size + 1 := by omega
        exact (((HRW.out.setOther (by simpa using q) _).setOther (by simpa using q) _).setOther (by simpa using q) _).setOther (by simpa using q) _
      · have q := HJ.out K3.out
        exact (((q.setCell (by simp) _).setCell (by simp) _).setCell (by simp) _).setCell (by simp) _

end Go.Proofs.Ytlcamfkgkcjehaa
