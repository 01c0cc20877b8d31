import Derived.Test.YtcnollkkigiobaaGreatTnR
import Derived.WalkKit
import Derived.Handy
namespace Go.Proofs.YtcnollkkigiobaaGreat
open Go.RowKit Go.Deep
set_option linter.unusedVariables false
set_option maxRecDepth 100000

set_option maxHeartbeats 1000000 in
theorem szStringS_any (a : Option Addr) (n c : Nat) (X : Nat → ByteArray) (l : Int) (w : World) (h : RdS w a n X) (hn : n ≤ maxLen) (hX : ∀ i, i < n → (X i).size ≤ maxLen) (h0 : 0 ≤ l) (h1 : l ≤ 1048576) :
    Calls Tryz.prog 150 #[.slice a n c, .int .i64 l] w fun e w' => ∃ r : Int, e = .returned (.int .i64 r) ∧ (r = -1 ∨ (0 ≤ r ∧ r ≤ 1048576 ∧ n ≤ 1048576)) ∧ Below w.heap.size w w' := by
  unfold maxLen at hn
  by_cases hneg : l - (n : Int) < 0
  · go_enter Tryz.func150, Tryz.ntmps150
    go_wp2
    go_ret
    exact ⟨-1, rfl, Or.inl rfl, Below.refl _ _⟩
  · go_enter Tryz.func150, Tryz.ntmps150
    go_wp2
    go_loopw [1, 5] (fun q i wr => ∃ (k : Nat) (l' : Int), k ≤ n ∧ i = .int .i64 k ∧ q = .int .i64 l' ∧ 0 ≤ l' ∧ l' ≤ 1048576 ∧ Below w.heap.size w wr) (fun _ i _ => n - (intOf i).toNat)
    case atStart => exact ⟨0, _, Nat.zero_le _, rfl, rfl, by omega, by omega, Below.refl _ _⟩
    case round =>
      obtain ⟨k, l', hk, rfl, rfl, hl0, hl1, hbel⟩ := hrel
      by_cases hlt : k < n
      · have hne : ¬ n = 0 := by omega
        have h' := h.below hbel
        have HB : Hid (Below w.heap.size w wr) := hbel
        rcases h' with h' | ⟨b, o, rfl, hc⟩
        · exact absurd h' hne
        have c1 := hc k hlt
        have HX := hX k hlt
        unfold maxLen at HX
        clear hc h hbel hX
        by_cases hq : l' - ((X k).size : Int) < 0
        · go_wp2
          go_ret
          exact ⟨-1, rfl, Or.inl rfl, HB.out⟩
        · go_wp2
          go_roundw
          case rel => exact ⟨k + 1, _, by omega, by go_num, rfl, by omega, by omega, HB.out⟩
          case measure => simp [intOf]; omega
      · have e : k = n := by omega
        subst e
        go_wp2
        go_ret
        exact ⟨l', rfl, Or.inr ⟨hl0, hl1, by omega⟩, hbel⟩

set_option maxHeartbeats 400000 in
theorem szInt64S_any (a : Option Addr) (n c : Nat) (l : Int) (w : World) (hn : n ≤ maxLen) (h0 : 0 ≤ l) (h1 : l ≤ 1048576) :
    Calls Tryz.prog 151 #[.slice a n c, .int .i64 l] w fun e w' => ∃ r : Int, e = .returned (.int .i64 r) ∧ (r = -1 ∨ (0 ≤ r ∧ r ≤ 1048576 ∧ n ≤ 1048576)) ∧ Below w.heap.size w w' := by
  unfold maxLen at hn
  by_cases h : l - (n : Int) < 0
  · go_enter Tryz.func151, Tryz.ntmps151
    go_wp2
    go_ret
    exact ⟨-1, rfl, Or.inl rfl, Below.refl _ _⟩
  · go_enter Tryz.func151, Tryz.ntmps151
    go_wp2
    go_ret
    exact ⟨_, rfl, Or.inr ⟨by omega, by omega, by omega⟩, Below.refl _ _⟩

/-- What is known of the sizes of a node that came in, and of one that passed. -/
def TnBig (x : Tn) : Prop := x.kn ≤ maxLen ∧ x.dn ≤ maxLen ∧ ∀ j, j < x.kn → (x.ks j).size ≤ maxLen
def TnFit (x : Tn) : Prop := x.kn ≤ 1048576 ∧ x.dn ≤ 1048576

set_option maxHeartbeats 1000000 in
theorem szTNode_any (x : Tn) (ka da : Option Addr) (kc dc : Nat) (l : Int) (w : World) (hk : RdS w ka x.kn x.ks) (hB : TnBig x) (h0 : 0 ≤ l) (h1 : l ≤ 1048576) :
    Calls Tryz.prog 131 #[.agg #[.bool x.lf, .slice ka x.kn kc, .slice da x.dn dc, .int .i64 x.ct], .int .i64 l] w fun e w' => ∃ r : Int, e = .returned (.int .i64 r) ∧ (r = -1 ∨ (0 ≤ r ∧ r ≤ 1048576 ∧ TnFit x)) ∧ Below w.heap.size w w' := by
  have HK : Hid (RdS w ka x.kn x.ks) := hk
  have HB : Hid (TnBig x) := hB
  clear hk hB
  go_enter Tryz.func131, Tryz.ntmps131
  go_wp2_with fail
  refine (szStringS_any ka x.kn kc x.ks l _ (HK.out.below (below_alloc _ _)) HB.out.1 HB.out.2.2 h0 h1).mono ?_
  rintro e w1 ⟨r, rfl, hr, hb1⟩
  have hc1 := (bcell hb1).1 w.heap.size
  have H1 : Hid (Below w.heap.size w w1) := (below_alloc _ _).trans (hb1.mono (by simp))
  have hz1 : w.heap.size < w1.heap.size := by have := hb1.size; simp at this; omega
  simp at hc1
  clear hb1
  rcases hr with rfl | ⟨hr0, hr1, hrn⟩
  · go_wp2
    go_ret
    exact ⟨-1, rfl, Or.inl rfl, H1.out⟩
  · have hr2 : ¬ r < 0 := by omega
    go_wp2_with fail
    refine (szInt64S_any da x.dn dc r _ HB.out.2.1 hr0 hr1).mono ?_
    rintro e w2 ⟨r2, rfl, hq, hb2⟩
    have H2 : Hid (Below w.heap.size w w2) := H1.out.trans (hb2.mono (by omega))
    clear hb2
    rcases hq with rfl | ⟨hq0, hq1, hqn⟩
    · go_wp2
      go_ret
      exact ⟨-1, rfl, Or.inl rfl, H2.out⟩
    · have hq2 : ¬ r2 < 0 := by omega
      go_wp2
      go_ret
      exact ⟨r2, rfl, Or.inr ⟨hq0, hq1, hrn, hqn⟩, H2.out⟩

set_option maxHeartbeats 1000000 in
theorem szTNodeS_any (a : Option Addr) (m c : Nat) (N : Nat → Tn) (l : Int) (w : World) (h : RdTn w a m N) (hm : m ≤ maxLen) (hN : ∀ i, i < m → TnBig (N i)) (h0 : 0 ≤ l) (h1 : l ≤ 1048576) :
    Calls Tryz.prog 107 #[.slice a m c, .int .i64 l] w fun e w' => ∃ r : Int, e = .returned (.int .i64 r) ∧ (r = -1 ∨ (0 ≤ r ∧ r ≤ 1048576 ∧ m ≤ 1048576 ∧ ∀ i, i < m → TnFit (N i))) ∧ Below w.heap.size w w' := by
  unfold maxLen at hm
  by_cases hneg : l - (m : Int) < 0
  · go_enter Tryz.func107, Tryz.ntmps107
    go_wp2
    go_ret
    exact ⟨-1, rfl, Or.inl rfl, Below.refl _ _⟩
  · go_enter Tryz.func107, Tryz.ntmps107
    go_wp2
    go_loopw [1, 5] (fun q i wr => ∃ (k : Nat) (l' : Int), k ≤ m ∧ i = .int .i64 k ∧ q = .int .i64 l' ∧ 0 ≤ l' ∧ l' ≤ 1048576 ∧ (∀ j, j < k → TnFit (N j)) ∧ Below w.heap.size w wr) (fun _ i _ => m - (intOf i).toNat)
    case atStart => exact ⟨0, _, Nat.zero_le _, rfl, rfl, by omega, by omega, fun j hj => absurd hj (Nat.not_lt_zero _), Below.refl _ _⟩
    case round =>
      obtain ⟨k, l', hk, rfl, rfl, hl0, hl1, hLk, hbel⟩ := hrel
      have HLk : Hid (∀ j, j < k → TnFit (N j)) := hLk
      clear hLk
      by_cases hlt : k < m
      · have hne : ¬ m = 0 := by omega
        have h' := h.below hbel
        have HB : Hid (Below w.heap.size w wr) := hbel
        have hsz := hbel.size
        rcases h' with h' | ⟨b, o, rfl, hc⟩
        · exact absurd h' hne
        obtain ⟨ka, kc, da, dc, c0, c1, c2, c3, c4, c5⟩ := hc k hlt
        have HK : Hid (RdS wr ka (N k).kn (N k).ks) := c4
        have HL : Hid (TnBig (N k)) := hN k hlt
        clear hc hN hbel h c4 c5
        go_wp2_with fail
        refine (szTNode_any (N k) ka da kc dc l' _ HK.out HL.out hl0 hl1).mono ?_
        rintro e w1 ⟨r, rfl, hr, hb1⟩
        have HB1 : Hid (Below w.heap.size w w1) := HB.out.trans (hb1.mono hsz)
        clear hb1
        rcases hr with rfl | ⟨hr0, hr1, hrn⟩
        · go_wp2
          go_ret
          exact ⟨-1, rfl, Or.inl rfl, HB1.out⟩
        · have hr2 : ¬ r < 0 := by omega
          have HF : Hid (TnFit (N k)) := hrn
          clear hrn
          go_wp2
          go_roundw
          case rel =>
            refine ⟨k + 1, r, by omega, by go_num, rfl, hr0, hr1, fun j hj => ?_, HB1.out⟩
            by_cases e : j = k
            · subst e; exact HF.out
            · exact HLk.out j (by omega)
          case measure => simp [intOf]; omega
      · have e : k = m := by omega
        subst e
        go_wp2
        go_ret
        exact ⟨l', rfl, Or.inr ⟨hl0, hl1, by omega, HLk.out⟩, hbel⟩

set_option maxHeartbeats 1000000 in
theorem szTree_any (a : Option Addr) (m c : Nat) (N : Nat → Tn) (w : World) (h : RdTn w a m N) (hm : m ≤ maxLen) (hN : ∀ i, i < m → TnBig (N i)) :
    Calls Tryz.prog 66 #[.agg #[.slice a m c], .int .i64 1048576] w fun e w' => ∃ r : Int, e = .returned (.int .i64 r) ∧ (r = -1 ∨ (0 ≤ r ∧ m ≤ 1048576 ∧ ∀ i, i < m → TnFit (N i))) ∧ Below w.heap.size w w' := by
  have HR : Hid (RdTn w a m N ∧ ∀ i, i < m → TnBig (N i)) := ⟨h, hN⟩
  clear h hN
  go_enter Tryz.func66, Tryz.ntmps66
  go_wp2_with fail
  refine (szTNodeS_any a m c N 1048576 _ (HR.out.1.below (below_alloc _ _)) hm HR.out.2 (by omega) (by omega)).mono ?_
  rintro e w1 ⟨r, rfl, hr, hb1⟩
  have H1 : Hid (Below w.heap.size w w1) := (below_alloc _ _).trans (hb1.mono (by simp))
  clear hb1
  rcases hr with rfl | ⟨hr0, hr1, hrm, hrn⟩
  · go_wp2
    go_ret
    exact ⟨-1, rfl, Or.inl rfl, H1.out⟩
  · have hr2 : ¬ r < 0 := by omega
    have HF : Hid (∀ i, i < m → TnFit (N i)) := hrn
    clear hrn
    go_wp2
    go_ret
    exact ⟨r, rfl, Or.inr ⟨hr0, hrm, HF.out⟩, H1.out⟩
end Go.Proofs.YtcnollkkigiobaaGreat
