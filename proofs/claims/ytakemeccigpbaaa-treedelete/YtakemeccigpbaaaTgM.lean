import Derived.Test.YtakemeccigpbaaaMkTx
import Derived.Test.YtakemeccigpbaaaTnT2
import Derived.Test.YtakemeccigpbaaaTnSs
import Derived.Test.YtakemeccigpbaaaTiP
import Derived.Deep.RegionHeld3
namespace Go.Proofs.Ytakemeccigpbaaa
open Go.RowKit Go.Deep
set_option linter.unusedVariables false
set_option maxRecDepth 100000

set_option maxHeartbeats 400000 in
theorem markTextI (x : Int) (k : Nat) (h : x = (k : Int)) (w : World) (hk : 1 ≤ k) (hk2 : k ≤ 1073741824) :
    Calls Try.prog 45 #[.int .i64 x] w fun e w' => e = .returned (.string (mkT k)) ∧ Below w.heap.size w w' := by
  subst h
  exact markText_any k w hk hk2

/-- A slice whose cells the call may write. -/
def OwnV (w : World) (t : TypeId) (a : Option Addr) (n : Nat) (f : Nat → Value) : Prop := n = 0 ∨ ∃ g, a = some ⟨g, 0, none⟩ ∧ rowIn w g t n f

set_option maxHeartbeats 2000000 in
theorem markStrs_any (a : Option Addr) (n c k : Nat) (X : Nat → ByteArray) (w : World) (h : OwnV w 9 a n (fun i => .string (X i))) (hk : 1 ≤ k) (hk2 : k + n ≤ 1073741824) :
    Calls Try.prog 27 #[.slice a n c, .int .i64 (k : Int)] w fun e w' => e = .returned (.int .i64 ((k + n : Nat) : Int)) ∧ w.grownBy w' (a.map (·.block)) ∧ (n = 0 → w' = w) ∧ OwnV w' 9 a n (fun i => .string (mkT (k + i))) := by
  by_cases hn0 : n = 0
  · subst hn0
    go_enter Try.func27, Try.ntmps27
    go_wp2
    go_loopw [1, 5] (fun q i wr => q = .int .i64 (k : Int) ∧ i = .int .i64 0 ∧ wr = w) (fun _ i _ => 1 - (intOf i).toNat)
    case atStart => exact ⟨rfl, rfl, rfl⟩
    case round =>
      obtain ⟨rfl, rfl, rfl⟩ := hrel
      go_wp2
      go_ret
      exact ⟨by simp, grown_refl _ _, fun _ => rfl, .inl rfl⟩
  · obtain ⟨g, rfl, hrow⟩ := h.resolve_left hn0
    have HR : Hid (rowIn w g 9 n (fun i => .string (X i))) := hrow
    clear hrow h
    have HN0 : Hid (¬ n = 0) := hn0
    clear hn0
    go_enter Try.func27, Try.ntmps27
    go_wp2
    go_loopw [1, 5] (fun q i wr => ∃ j p : Nat, j ≤ n ∧ i = .int .i64 j ∧ q = .int .i64 p ∧ p = k + j ∧ w.grownBy wr (some g) ∧ rowIn wr g 9 n (fun i => .string (if i < j then mkT (k + i) else X i))) (fun _ i _ => n - (intOf i).toNat)
    case atStart => exact ⟨0, k, Nat.zero_le _, rfl, rfl, rfl, grown_refl _ _, HR.out.congr (fun i _ => by simp)⟩
    case round =>
      obtain ⟨j, p, hj, rfl, rfl, hp, hgr, hrow⟩ := hrel
      have HS : Hid (p = k + j ∧ w.grownBy wr (some g) ∧ rowIn wr g 9 n (fun i => .string (if i < j then mkT (k + i) else X i))) := ⟨hp, hgr, hrow⟩
      by_cases hlt : j < n
      · have hpb : 1 ≤ p ∧ p ≤ 1073741824 := by omega
        have i0 : (0 : Int) ≤ (j : Int) := by omega
        have i1 : (j : Int) < (n : Int) := by omega
        clear hp hgr hrow HR
        go_wp2_with fail
        refine (markTextI _ p rfl wr hpb.1 hpb.2).mono ?_
        rintro e w1 ⟨rfl, hb1⟩
        have hrow1 := HS.out.2.2.of_block (hb1.block g HS.out.2.2.lt)
        have c1 := hrow1.cell hlt
        have f1 := hrow1.frozen j
        have l1 := hrow1.lt
        have HX : Hid (w.grownBy (w1.setCell ⟨g, j, none⟩ (.string (mkT p))) (some g) ∧ rowIn (w1.setCell ⟨g, j, none⟩ (.string (mkT p))) g 9 n (fun i => .string (if i < j + 1 then mkT (k + i) else X i))) := by
          refine ⟨grown_trans (grown_trans HS.out.2.1 (grown_below hb1)) (grown_set _ _ _ _), (hrow1.set j _).congr (fun i hi => ?_)⟩
          by_cases e : i = j
          · subst e; simp [HS.out.1]
          · by_cases e2 : i < j
            · have : i < j + 1 := by omega
              simp [e, e2, this]
            · have : ¬ i < j + 1 := by omega
              simp [e, e2, this]
        have HP : Hid (p + 1 = k + (j + 1)) := by
          show p + 1 = k + (j + 1)
          have := HS.out.1
          omega
        clear hrow1 hb1 HS
        go_wp2
        go_roundw
        case rel => exact ⟨j + 1, p + 1, by omega, by go_num, by go_num, HP.out, HX.out⟩
        case measure => simp [intOf]; omega
      · have e : j = n := by omega
        subst e
        clear hp hgr hrow
        go_wp2
        go_ret
        exact ⟨by rw [HS.out.1]; rfl, HS.out.2.1, fun h => absurd h HN0.out, .inr ⟨g, rfl, HS.out.2.2.congr (fun i hi => by simp [hi])⟩⟩

set_option maxHeartbeats 2000000 in
theorem markInts_any (a : Option Addr) (n c k : Nat) (X : Nat → Int) (w : World) (h : OwnV w 2 a n (fun i => .int .i64 (X i))) (hk : 1 ≤ k) (hk2 : k + n ≤ 1073741824) :
    Calls Try.prog 64 #[.slice a n c, .int .i64 (k : Int)] w fun e w' => e = .returned (.int .i64 ((k + n : Nat) : Int)) ∧ w.grownBy w' (a.map (·.block)) ∧ (n = 0 → w' = w) ∧ ∃ X' : Nat → Int, OwnV w' 2 a n (fun i => .int .i64 (X' i)) := by
  by_cases hn0 : n = 0
  · subst hn0
    go_enter Try.func64, Try.ntmps64
    go_wp2
    go_loopw [1, 5] (fun q i wr => q = .int .i64 (k : Int) ∧ i = .int .i64 0 ∧ wr = w) (fun _ i _ => 1 - (intOf i).toNat)
    case atStart => exact ⟨rfl, rfl, rfl⟩
    case round =>
      obtain ⟨rfl, rfl, rfl⟩ := hrel
      go_wp2
      go_ret
      exact ⟨by simp, grown_refl _ _, fun _ => rfl, X, .inl rfl⟩
  · obtain ⟨g, rfl, hrow⟩ := h.resolve_left hn0
    have HR : Hid (rowIn w g 2 n (fun i => .int .i64 (X i))) := hrow
    clear hrow h
    have HN0 : Hid (¬ n = 0) := hn0
    clear hn0
    go_enter Try.func64, Try.ntmps64
    go_wp2
    go_loopw [1, 5] (fun q i wr => ∃ (j p : Nat) (Y : Nat → Int), j ≤ n ∧ i = .int .i64 j ∧ q = .int .i64 p ∧ p = k + j ∧ w.grownBy wr (some g) ∧ rowIn wr g 2 n (fun i => .int .i64 (Y i))) (fun _ i _ => n - (intOf i).toNat)
    case atStart => exact ⟨0, k, X, Nat.zero_le _, rfl, rfl, rfl, grown_refl _ _, HR.out⟩
    case round =>
      obtain ⟨j, p, Y, hj, rfl, rfl, hp, hgr, hrow⟩ := hrel
      have HS : Hid (p = k + j ∧ w.grownBy wr (some g) ∧ rowIn wr g 2 n (fun i => .int .i64 (Y i))) := ⟨hp, hgr, hrow⟩
      by_cases hlt : j < n
      · have hpb : 1 ≤ p ∧ p ≤ 1073741824 := by omega
        have i0 : (0 : Int) ≤ (j : Int) := by omega
        have i1 : (j : Int) < (n : Int) := by omega
        have c1 := hrow.cell hlt
        have f1 := hrow.frozen j
        have l1 := hrow.lt
        have HX : Hid (w.grownBy (wr.setCell ⟨g, j, none⟩ (.int .i64 (p : Int))) (some g) ∧ rowIn (wr.setCell ⟨g, j, none⟩ (.int .i64 (p : Int))) g 2 n (fun i => .int .i64 (if i = j then (p : Int) else Y i))) := by
          refine ⟨grown_trans HS.out.2.1 (grown_set _ _ _ _), (hrow.set j _).congr (fun i hi => ?_)⟩
          by_cases e : i = j
          · subst e; simp
          · simp [e]
        have HP : Hid (p + 1 = k + (j + 1)) := by
          show p + 1 = k + (j + 1)
          have := HS.out.1
          omega
        clear hp hgr hrow HR HS
        go_wp2
        go_roundw
        case rel => exact ⟨j + 1, p + 1, _, by omega, by go_num, by go_num, HP.out, HX.out⟩
        case measure => simp [intOf]; omega
      · have e : j = n := by omega
        subst e
        clear hp hgr hrow
        go_wp2
        go_ret
        exact ⟨by rw [HS.out.1]; rfl, HS.out.2.1, fun h => absurd h HN0.out, Y, .inr ⟨g, rfl, HS.out.2.2⟩⟩

set_option maxHeartbeats 2000000 in
theorem heldStrs_any (a : Option Addr) (n c k : Nat) (w : World) (h : RdS w a n (fun i => mkT (k + i))) (hk : 1 ≤ k) (hk2 : k + n ≤ 1073741824) :
    Calls Try.prog 28 #[.slice a n c, .int .i64 (k : Int)] w fun e w' => e = .returned (.int .i64 ((k + n : Nat) : Int)) ∧ Below w.heap.size w w' := by
  have HR : Hid (RdS w a n (fun i => mkT (k + i))) := h
  clear h
  go_enter Try.func28, Try.ntmps28
  go_wp2
  go_loopw [1, 5] (fun q i wr => ∃ j p : Nat, j ≤ n ∧ i = .int .i64 j ∧ q = .int .i64 p ∧ p = k + j ∧ Below w.heap.size w wr) (fun _ i _ => n - (intOf i).toNat)
  case atStart => exact ⟨0, k, Nat.zero_le _, rfl, rfl, rfl, Below.refl _ _⟩
  case round =>
    obtain ⟨j, p, hj, rfl, rfl, hp, hbel⟩ := hrel
    have HS : Hid (p = k + j ∧ Below w.heap.size w wr) := ⟨hp, hbel⟩
    have hpb : 1 ≤ p ∧ p ≤ 1073741824 := by omega
    by_cases hlt : j < n
    · rcases HR.out.below hbel with q | ⟨b, o, rfl, hc⟩
      · omega
      have s1 : wr.cell? ⟨b, o + j, none⟩ = some (.string (mkT p)) := by rw [hp]; exact hc j hlt
      have i0 : (0 : Int) ≤ (j : Int) := by omega
      have i1 : (j : Int) < (n : Int) := by omega
      have hbl : b < wr.heap.size := World.block_lt_of_cell? _ _ s1
      have HM : Hid (∀ W : World, Calls Try.prog 45 #[.int .i64 (p : Int)] W fun e w' => e = .returned (.string (mkT p)) ∧ Below W.heap.size W w') := fun W => markTextI _ p rfl W hpb.1 hpb.2
      have HC : Hid (∀ w1 : World, Below wr.drew.heap.size wr.drew w1 → w1.cell? ⟨b, o + j, none⟩ = some (.string (mkT p))) := fun w1 hb1 => by
        rw [hb1.cell (p := ⟨b, o + j, none⟩) hbl]
        exact s1
      obtain ⟨T, hT⟩ : ∃ T, mkT p = T := ⟨_, rfl⟩
      rw [hT] at s1 HM HC
      clear hc hp hbel hT
      have hq : (T.toList == T.toList) = true := by simp
      go_wp2
      go_region_held3 (fun w' => w'.cell? ⟨b, o + j, none⟩ = some (.string T)) (go_keep) (first | (go_at_call 45; refine (HM.out _).mono ?_; rintro e w1 ⟨rfl, hb1⟩; have k1 := HC.out w1 hb1) | fail)
      have HB : Hid (Below w.heap.size w w1) := HS.out.2.trans ((show Below wr.heap.size wr w1 from (Below.refl _ _).drew.trans hb1).mono HS.out.2.size)
      have HP : Hid (p + 1 = k + (j + 1)) := by
        show p + 1 = k + (j + 1)
        have := HS.out.1
        omega
      clear hb1 k1 HS
      go_wp2
      go_roundw
      case rel => exact ⟨j + 1, p + 1, by omega, by go_num, by go_num, HP.out, HB.out⟩
      case measure => simp [intOf]; omega
    · have e : j = n := by omega
      subst e
      clear hp hbel
      go_wp2
      go_ret
      exact ⟨by rw [HS.out.1]; rfl, HS.out.2⟩
end Go.Proofs.Ytakemeccigpbaaa
