import Derived.Test.YtbpcafcipncloaaRows
import Derived.Test.YtbpcafcipncloaaVDef
namespace Go.Proofs.Ytbpcafcipncloaa
open Go.RowKit Go.Deep
set_option maxRecDepth 100000

set_option maxHeartbeats 400000 in
theorem l1Sectors_any (a p : Option Addr) (n c m q : Nat) (fuel : Int) (dead : Bool) (w : World) (hn : n ≤ 1048576) :
    Calls Try.prog 36 #[.agg #[.slice a n c, .slice p m q, .int .i64 fuel, .bool dead]] w fun e w' => e = .returned (.int .i64 ((n : Int) / 64)) ∧ Below w.heap.size w w' := by
  go_enter Try.func36, Try.ntmps36
  go_wp2
  go_ret
  exact ⟨rfl, below_alloc _ _⟩

set_option maxHeartbeats 400000 in
theorem sectorCount_any (a p : Option Addr) (n c m q : Nat) (fuel : Int) (dead : Bool) (w : World) (hn : n ≤ 1048576) :
    Calls Try.prog 52 #[.agg #[.slice a n c, .slice p m q, .int .i64 fuel, .bool dead]] w fun e w' => e = .returned (.int .i64 ((n : Int) / 64)) ∧ Below w.heap.size w w' := by
  go_enter Try.func52, Try.ntmps52
  go_wp2
  go_ret
  exact ⟨rfl, below_alloc _ _⟩

set_option maxHeartbeats 400000 in
theorem hasSector_any (a p : Option Addr) (n c m q : Nat) (fuel : Int) (dead : Bool) (s : Int) (w : World) (hn : n ≤ 1048576) :
    Calls Try.prog 70 #[.agg #[.slice a n c, .slice p m q, .int .i64 fuel, .bool dead], .int .i64 s] w fun e w' => AnsB e (0 ≤ s ∧ s < (n : Int) / 64) ∧ Below w.heap.size w w' := by
  by_cases h0 : 0 ≤ s
  · have h0' : decide (0 ≤ s) = true := by simpa using h0
    go_enter Try.func70, Try.ntmps70
    go_wp2_with (go_at_call 52; refine (sectorCount_any a p n c m q fuel dead _ hn).mono ?_; rintro e w1 ⟨rfl, hb1⟩)
    go_ret
    exact ⟨AnsB.of (b := decide (s < (n : Int) / 64)) (by simp [h0]), (below_alloc _ _).trans (hb1.mono (by simp))⟩
  · have h0' : decide (0 ≤ s) = false := by simpa using h0
    go_enter Try.func70, Try.ntmps70
    go_wp2
    go_ret
    exact ⟨AnsB.no (by omega), below_alloc _ _⟩

set_option maxHeartbeats 2000000 in
theorem specValid_any (a p : Option Addr) (n c m q : Nat) (S : Nat → Int) (L : Nat → Nat) (F : Nat → Nat → Int) (fuel : Int) (dead : Bool) (w : World) (hp : RdP w p m S L F) (hn : n ≤ 1048576) (hm : m ≤ 1048576) :
    Calls Try.prog 34 #[.agg #[.slice a n c, .slice p m q, .int .i64 fuel, .bool dead]] w fun e w' => AnsB e (VD n m S L fuel) ∧ Below w.heap.size w w' := by
  by_cases g0 : n % 64 = 0
  case neg =>
    have hv : ¬ VD n m S L fuel := not_VD_of_VH (fun h => g0 (by unfold VH at h; omega))
    have HV : Hid (¬ VD n m S L fuel) := hv
    clear hv hp
    go_enter Try.func34, Try.ntmps34
    go_wp2_with (go_at_call 36; refine (l1Sectors_any a p n c m q fuel dead _ hn).mono ?_; rintro e w1 ⟨rfl, hb1⟩; obtain ⟨hc1, hf1⟩ := bcell hb1; clear hf1)
    go_ret
    exact ⟨AnsB.no HV.out, (below_alloc _ _).trans (hb1.mono (by simp))⟩
  by_cases g1 : 16 ≤ n / 64
  case neg =>
    have hv : ¬ VD n m S L fuel := not_VD_of_VH (fun h => g1 (by unfold VH at h; omega))
    have HV : Hid (¬ VD n m S L fuel) := hv
    clear hv hp
    go_enter Try.func34, Try.ntmps34
    go_wp2_with (go_at_call 36; refine (l1Sectors_any a p n c m q fuel dead _ hn).mono ?_; rintro e w1 ⟨rfl, hb1⟩; obtain ⟨hc1, hf1⟩ := bcell hb1; clear hf1)
    go_ret
    exact ⟨AnsB.no HV.out, (below_alloc _ _).trans (hb1.mono (by simp))⟩
  by_cases g2 : n / 64 ≤ 1024
  case neg =>
    have hv : ¬ VD n m S L fuel := not_VD_of_VH (fun h => g2 (by unfold VH at h; omega))
    have HV : Hid (¬ VD n m S L fuel) := hv
    clear hv hp
    go_enter Try.func34, Try.ntmps34
    go_wp2_with (go_at_call 36; refine (l1Sectors_any a p n c m q fuel dead _ hn).mono ?_; rintro e w1 ⟨rfl, hb1⟩; obtain ⟨hc1, hf1⟩ := bcell hb1; clear hf1)
    go_ret
    exact ⟨AnsB.no HV.out, (below_alloc _ _).trans (hb1.mono (by simp))⟩
  by_cases g3 : m ≤ 2000
  case neg =>
    have hv : ¬ VD n m S L fuel := not_VD_of_VH (fun h => g3 (by unfold VH at h; omega))
    have HV : Hid (¬ VD n m S L fuel) := hv
    clear hv hp
    go_enter Try.func34, Try.ntmps34
    go_wp2_with (go_at_call 36; refine (l1Sectors_any a p n c m q fuel dead _ hn).mono ?_; rintro e w1 ⟨rfl, hb1⟩; obtain ⟨hc1, hf1⟩ := bcell hb1; clear hf1)
    go_ret
    exact ⟨AnsB.no HV.out, (below_alloc _ _).trans (hb1.mono (by simp))⟩
  by_cases g4 : -1 ≤ fuel
  case neg =>
    have hv : ¬ VD n m S L fuel := not_VD_of_VH (fun h => g4 (by unfold VH at h; omega))
    have HV : Hid (¬ VD n m S L fuel) := hv
    clear hv hp
    go_enter Try.func34, Try.ntmps34
    go_wp2_with (go_at_call 36; refine (l1Sectors_any a p n c m q fuel dead _ hn).mono ?_; rintro e w1 ⟨rfl, hb1⟩; obtain ⟨hc1, hf1⟩ := bcell hb1; clear hf1)
    go_ret
    exact ⟨AnsB.no HV.out, (below_alloc _ _).trans (hb1.mono (by simp))⟩
  by_cases g5 : fuel ≤ 1000000
  case neg =>
    have hv : ¬ VD n m S L fuel := not_VD_of_VH (fun h => g5 (by unfold VH at h; omega))
    have HV : Hid (¬ VD n m S L fuel) := hv
    clear hv hp
    go_enter Try.func34, Try.ntmps34
    go_wp2_with (go_at_call 36; refine (l1Sectors_any a p n c m q fuel dead _ hn).mono ?_; rintro e w1 ⟨rfl, hb1⟩; obtain ⟨hc1, hf1⟩ := bcell hb1; clear hf1)
    go_ret
    exact ⟨AnsB.no HV.out, (below_alloc _ _).trans (hb1.mono (by simp))⟩
  have HV : Hid (VH n m fuel) := ⟨g0, g1, g2, g3, g4, g5⟩
  have HP : Hid (RdP w p m S L F) := hp
  clear hp
  go_enter Try.func34, Try.ntmps34
  go_wp2_with (go_at_call 36; refine (l1Sectors_any a p n c m q fuel dead _ hn).mono ?_; rintro e w1 ⟨rfl, hb1⟩; obtain ⟨hc1, hf1⟩ := bcell hb1; clear hf1)
  have HB : Hid (Below w.heap.size w w1) := (below_alloc _ _).trans (hb1.mono (by simp))
  have HR : Hid (RdP w1 p m S L F) := HP.out.below HB.out
  clear hb1
  go_loop [4] (fun i => ∃ k : Nat, k ≤ m ∧ i = .int .i64 k ∧ ∀ j, j < k → VP n S L j) (fun i => m - (intOf i).toNat)
  case atStart => exact ⟨0, Nat.zero_le _, rfl, fun j hj => absurd hj (Nat.not_lt_zero _)⟩
  case round =>
    obtain ⟨k, hk, rfl, hall⟩ := hrel
    have HA : Hid (∀ j, j < k → VP n S L j) := hall
    clear hall
    by_cases hlt : k < m
    · rcases HR.out with h | ⟨b, o, hpa, hc⟩
      · omega
      subst hpa
      obtain ⟨c1, ad, cp, c2, c3⟩ := hc k hlt
      clear hc c3
      by_cases e1 : 0 ≤ S k
      case neg =>
        have HF : Hid (¬ VD n m S L fuel) := not_VD_of_VP hlt (fun h => e1 h.1)
        go_wp2
        go_ret
        exact ⟨AnsB.no HF.out, HB.out⟩
      by_cases e2 : S k < (n : Int) / 64
      case neg =>
        have HF : Hid (¬ VD n m S L fuel) := not_VD_of_VP hlt (fun h => e2 h.2.1)
        go_wp2
        go_ret
        exact ⟨AnsB.no HF.out, HB.out⟩
      by_cases e3 : L k = 64
      case neg =>
        have HF : Hid (¬ VD n m S L fuel) := not_VD_of_VP hlt (fun h => e3 h.2.2)
        have e3' : ((L k : Int) != 64) = true := by rw [bne_iff_ne]; omega
        go_wp2
        go_ret
        exact ⟨AnsB.no HF.out, HB.out⟩
      have HG : Hid (VP n S L k) := ⟨e1, e2, e3⟩
      have e3' : ((L k : Int) != 64) = false := by rw [bne_eq_false_iff_eq]; omega
      clear e3
      go_wp2
      go_round
      case rel =>
        refine ⟨k + 1, by omega, by go_num, fun j hj => ?_⟩
        by_cases e : j = k
        · subst e; exact HG.out
        · exact HA.out j (by omega)
      case measure => simp [intOf]; omega
    · have e : k = m := by omega
      subst e
      go_wp2
      go_ret
      exact ⟨AnsB.yes ⟨HV.out, HA.out⟩, HB.out⟩

set_option maxHeartbeats 2000000 in
theorem implValid_any (a p : Option Addr) (n c m q : Nat) (S : Nat → Int) (L : Nat → Nat) (F : Nat → Nat → Int) (fuel : Int) (dead : Bool) (w : World) (hp : RdP w p m S L F) (hn : n ≤ 1048576) (hm : m ≤ 1048576) :
    Calls Try.prog 42 #[.agg #[.slice a n c, .slice p m q, .int .i64 fuel, .bool dead]] w fun e w' => AnsB e (VD n m S L fuel) ∧ Below w.heap.size w w' := by
  by_cases g0 : n % 64 = 0
  case neg =>
    have hv : ¬ VD n m S L fuel := not_VD_of_VH (fun h => g0 (by unfold VH at h; omega))
    have HV : Hid (¬ VD n m S L fuel) := hv
    clear hv hp
    have hq : ((n : Int) != (n : Int) / 64 * 64) = true := by rw [bne_iff_ne]; omega
    clear g0
    go_enter Try.func42, Try.ntmps42
    go_wp2_with (go_at_call 52; refine (sectorCount_any a p n c m q fuel dead _ hn).mono ?_; rintro e w1 ⟨rfl, hb1⟩; obtain ⟨hc1, hf1⟩ := bcell hb1; clear hf1)
    go_ret
    exact ⟨AnsB.no HV.out, (below_alloc _ _).trans (hb1.mono (by simp))⟩
  have hq : ((n : Int) != (n : Int) / 64 * 64) = false := by rw [bne_eq_false_iff_eq]; omega
  have G0 : Hid (n % 64 = 0) := g0
  clear g0
  by_cases g1 : 16 ≤ n / 64
  case neg =>
    have hv : ¬ VD n m S L fuel := not_VD_of_VH (fun h => g1 h.2.1)
    have HV : Hid (¬ VD n m S L fuel) := hv
    clear hv hp
    go_enter Try.func42, Try.ntmps42
    go_wp2_with (go_at_call 52; refine (sectorCount_any a p n c m q fuel dead _ hn).mono ?_; rintro e w1 ⟨rfl, hb1⟩; obtain ⟨hc1, hf1⟩ := bcell hb1; clear hf1)
    go_ret
    exact ⟨AnsB.no HV.out, (below_alloc _ _).trans (hb1.mono (by simp))⟩
  by_cases g2 : n / 64 ≤ 1024
  case neg =>
    have hv : ¬ VD n m S L fuel := not_VD_of_VH (fun h => g2 h.2.2.1)
    have HV : Hid (¬ VD n m S L fuel) := hv
    clear hv hp
    go_enter Try.func42, Try.ntmps42
    go_wp2_with (go_at_call 52; refine (sectorCount_any a p n c m q fuel dead _ hn).mono ?_; rintro e w1 ⟨rfl, hb1⟩; obtain ⟨hc1, hf1⟩ := bcell hb1; clear hf1)
    go_ret
    exact ⟨AnsB.no HV.out, (below_alloc _ _).trans (hb1.mono (by simp))⟩
  by_cases g3 : m ≤ 2000
  case neg =>
    have hv : ¬ VD n m S L fuel := not_VD_of_VH (fun h => g3 h.2.2.2.1)
    have HV : Hid (¬ VD n m S L fuel) := hv
    clear hv hp
    go_enter Try.func42, Try.ntmps42
    go_wp2_with (go_at_call 52; refine (sectorCount_any a p n c m q fuel dead _ hn).mono ?_; rintro e w1 ⟨rfl, hb1⟩; obtain ⟨hc1, hf1⟩ := bcell hb1; clear hf1)
    go_ret
    exact ⟨AnsB.no HV.out, (below_alloc _ _).trans (hb1.mono (by simp))⟩
  by_cases g4 : -1 ≤ fuel
  case neg =>
    have hv : ¬ VD n m S L fuel := not_VD_of_VH (fun h => g4 h.2.2.2.2.1)
    have HV : Hid (¬ VD n m S L fuel) := hv
    clear hv hp
    go_enter Try.func42, Try.ntmps42
    go_wp2_with (go_at_call 52; refine (sectorCount_any a p n c m q fuel dead _ hn).mono ?_; rintro e w1 ⟨rfl, hb1⟩; obtain ⟨hc1, hf1⟩ := bcell hb1; clear hf1)
    go_ret
    exact ⟨AnsB.no HV.out, (below_alloc _ _).trans (hb1.mono (by simp))⟩
  by_cases g5 : fuel ≤ 1000000
  case neg =>
    have hv : ¬ VD n m S L fuel := not_VD_of_VH (fun h => g5 h.2.2.2.2.2)
    have HV : Hid (¬ VD n m S L fuel) := hv
    clear hv hp
    go_enter Try.func42, Try.ntmps42
    go_wp2_with (go_at_call 52; refine (sectorCount_any a p n c m q fuel dead _ hn).mono ?_; rintro e w1 ⟨rfl, hb1⟩; obtain ⟨hc1, hf1⟩ := bcell hb1; clear hf1)
    go_ret
    exact ⟨AnsB.no HV.out, (below_alloc _ _).trans (hb1.mono (by simp))⟩
  have HV : Hid (VH n m fuel) := ⟨G0.out, g1, g2, g3, g4, g5⟩
  have HP : Hid (RdP w p m S L F) := hp
  clear hp
  go_enter Try.func42, Try.ntmps42
  go_wp2_with (go_at_call 52; refine (sectorCount_any a p n c m q fuel dead _ hn).mono ?_; rintro e w1 ⟨rfl, hb1⟩; obtain ⟨hc1, hf1⟩ := bcell hb1; clear hf1)
  have HB : Hid (Below w.heap.size w w1) := (below_alloc _ _).trans (hb1.mono (by simp))
  have HR : Hid (RdP w1 p m S L F) := HP.out.below HB.out
  have hsz : w.heap.size < w1.heap.size := by have := hb1.size; simp at this; omega
  have x0 := hc1 w.heap.size 0 (by simp)
  have x1 := hc1 w.heap.size 1 (by simp)
  have x2 := hc1 w.heap.size 2 (by simp)
  have x3 := hc1 w.heap.size 3 (by simp)
  simp at x0 x1 x2 x3
  have HB1 : Hid (w1.cell? ⟨w.heap.size, 0, none⟩ = some (.slice a n c) ∧ w1.cell? ⟨w.heap.size, 1, none⟩ = some (.slice p m q) ∧ w1.cell? ⟨w.heap.size, 2, none⟩ = some (.int .i64 fuel) ∧ w1.cell? ⟨w.heap.size, 3, none⟩ = some (.bool dead)) := ⟨x0, x1, x2, x3⟩
  clear hb1 hc1 x0 x1 x2 x3
  go_loopw [5, 39] (fun _ i wr => ∃ k : Nat, k ≤ m ∧ i = .int .i64 k ∧ (∀ j, j < k → VP n S L j) ∧ Below w1.heap.size w1 wr) (fun _ i _ => m - (intOf i).toNat)
  case atStart => exact ⟨0, Nat.zero_le _, rfl, fun j hj => absurd hj (Nat.not_lt_zero _), Below.refl _ _⟩
  case round =>
    obtain ⟨k, hk, rfl, hall, hbel⟩ := hrel
    have HA : Hid (∀ j, j < k → VP n S L j) := hall
    have hsr := hbel.size
    have y0 := (hbel.cell (p := ⟨w.heap.size, 0, none⟩) hsz).trans HB1.out.1
    have y1 := (hbel.cell (p := ⟨w.heap.size, 1, none⟩) hsz).trans HB1.out.2.1
    have y2 := (hbel.cell (p := ⟨w.heap.size, 2, none⟩) hsz).trans HB1.out.2.2.1
    have y3 := (hbel.cell (p := ⟨w.heap.size, 3, none⟩) hsz).trans HB1.out.2.2.2
    have HC : Hid (Below w1.heap.size w1 wr) := hbel
    have hsw : w.heap.size < wr.heap.size := by omega
    clear hall hbel
    by_cases hlt : k < m
    · rcases HR.out.below HC.out with h | ⟨b, o, hpa, hc⟩
      · omega
      subst hpa
      obtain ⟨c1, ad, cp, c2, c3⟩ := hc k hlt
      clear hc c3
      go_wp2_with fail
      refine (hasSector_any a _ n c m q fuel dead (S k) _ hn).mono ?_
      rintro e w2 ⟨⟨bb, rfl, hbb⟩, hb2⟩
      have HD : Hid (Below w.heap.size w w2 ∧ Below w1.heap.size w1 w2) := by
        have q1 : Below w1.heap.size w1 w2 := (HC.out.trans ((below_alloc _ _).mono (by omega))).trans (hb2.mono (by simp; omega))
        exact ⟨HB.out.trans (q1.mono (by omega)), q1⟩
      obtain ⟨hc2, hf2⟩ := bcell hb2
      clear hf2 hb2 y0 y1 y2 y3 c1 c2
      cases bb with
      | false =>
        have HF : Hid (¬ VD n m S L fuel) := not_VD_of_VP hlt (fun h => by have := hbb.2 ⟨h.1, h.2.1⟩; cases this)
        clear hbb
        go_wp2
        go_ret
        exact ⟨AnsB.no HF.out, HD.out.1⟩
      | true =>
        have hSk := hbb.1 rfl
        clear hbb
        by_cases e3 : L k = 64
        case neg =>
          have HF : Hid (¬ VD n m S L fuel) := not_VD_of_VP hlt (fun h => e3 h.2.2)
          have e3' : ((L k : Int) != 64) = true := by rw [bne_iff_ne]; omega
          go_wp2
          go_ret
          exact ⟨AnsB.no HF.out, HD.out.1⟩
        have HG : Hid (VP n S L k) := ⟨hSk.1, hSk.2, e3⟩
        have e3' : ((L k : Int) != 64) = false := by rw [bne_eq_false_iff_eq]; omega
        clear e3
        go_wp2
        go_roundw
        case rel =>
          refine ⟨k + 1, by omega, by go_num, fun j hj => ?_, HD.out.2⟩
          by_cases e : j = k
          · subst e; exact HG.out
          · exact HA.out j (by omega)
        case measure => simp [intOf]; omega
    · have e : k = m := by omega
      subst e
      go_wp2
      go_ret
      exact ⟨AnsB.yes ⟨HV.out, HA.out⟩, HB.out.trans (HC.out.mono (by omega))⟩
end Go.Proofs.Ytbpcafcipncloaa
