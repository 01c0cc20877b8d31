import Derived.Test.YtcnollkkigiobaaGreatTnSz
import Derived.Deep.QuietTactic
import Derived.BigQuiet
import Derived.Deep.RegionWith
namespace Go.Proofs.YtcnollkkigiobaaGreat
open Go.RowKit Go.Deep
set_option linter.unusedVariables false
set_option maxRecDepth 100000

set_option maxHeartbeats 1000000 in
theorem eqStringS_yes (a b : Option Addr) (len ca cb : Nat) (f : Nat → ByteArray) (w : World) (ha : RdS w a len f) (hb : RdS w b len f) (hm : len ≤ 1048576) :
    Calls Tryz.prog 158 #[.slice a len ca, .slice b len cb] w fun e w' => e = .returned (.bool true) ∧ ∃ n, w' = w.drewN n := by
  have hll : ((len : Int) != (len : Int)) = false := by simp
  go_enter Tryz.func158, Tryz.ntmps158
  go_wp2
  go_loopw [5] (fun i wr => ∃ k n : Nat, k ≤ len ∧ i = .int .i64 k ∧ wr = w.drewN n) (fun i _ => len - (intOf i).toNat)
  case atStart => exact ⟨0, 0, Nat.zero_le _, rfl, rfl⟩
  case round =>
    obtain ⟨k, n, hk, rfl, rfl⟩ := hrel
    by_cases hlt : k < len
    · have hne : ¬ len = 0 := by omega
      rcases ha with h | ⟨ba, oa, rfl, hca⟩
      · exact absurd h hne
      rcases hb with h | ⟨bb, ob, rfl, hcb⟩
      · exact absurd h hne
      have h1 := hca k hlt
      have h2 := hcb k hlt
      clear hca hcb
      go_wp2
      go_quiet (fail)
      go_wp2
      go_roundw
      case rel => exact ⟨k + 1, _, by omega, by go_num, rfl⟩
      case measure => simp [intOf]; omega
    · have e : k = len := by omega
      subst e
      go_wp2
      go_ret
      exact ⟨rfl, n, rfl⟩

set_option maxHeartbeats 1000000 in
theorem eqInt64S_yes (a b : Option Addr) (len ca cb : Nat) (f : Nat → Int) (w : World) (ha : Rd .i64 w a len f) (hb : Rd .i64 w b len f) (hm : len ≤ 1048576) :
    Calls Tryz.prog 159 #[.slice a len ca, .slice b len cb] w fun e w' => e = .returned (.bool true) ∧ ∃ n, w' = w.drewN n := by
  have hll : ((len : Int) != (len : Int)) = false := by simp
  go_enter Tryz.func159, Tryz.ntmps159
  go_wp2
  go_loopw [5] (fun i wr => ∃ k n : Nat, k ≤ len ∧ i = .int .i64 k ∧ wr = w.drewN n) (fun i _ => len - (intOf i).toNat)
  case atStart => exact ⟨0, 0, Nat.zero_le _, rfl, rfl⟩
  case round =>
    obtain ⟨k, n, hk, rfl, rfl⟩ := hrel
    by_cases hlt : k < len
    · have hne : ¬ len = 0 := by omega
      rcases ha with h | ⟨ba, oa, rfl, hca⟩
      · exact absurd h hne
      rcases hb with h | ⟨bb, ob, rfl, hcb⟩
      · exact absurd h hne
      have h1 := hca k hlt
      have h2 := hcb k hlt
      have hff : (f k != f k) = false := by simp
      clear hca hcb
      go_wp2
      go_quiet (fail)
      go_wp2
      go_roundw
      case rel => exact ⟨k + 1, _, by omega, by go_num, rfl⟩
      case measure => simp [intOf]; omega
    · have e : k = len := by omega
      subst e
      go_wp2
      go_ret
      exact ⟨rfl, n, rfl⟩

set_option maxHeartbeats 2000000 in
theorem eqTNode_yes (x : Tn) (ka da kb db : Option Addr) (kc dc kc' dc' : Nat) (w : World) (h1 : RdS w ka x.kn x.ks) (h2 : Rd .i64 w da x.dn x.kd) (h3 : RdS w kb x.kn x.ks) (h4 : Rd .i64 w db x.dn x.kd) (hf : TnFit x) :
    Calls Tryz.prog 135 #[.agg #[.bool x.lf, .slice ka x.kn kc, .slice da x.dn dc, .int .i64 x.ct], .agg #[.bool x.lf, .slice kb x.kn kc', .slice db x.dn dc', .int .i64 x.ct]] w fun e w' => e = .returned (.bool true) ∧ Below w.heap.size w w' := by
  have hss : (x.ct != x.ct) = false := by simp
  have hbb : (x.lf != x.lf) = false := by simp
  have HR : Hid (RdS w ka x.kn x.ks ∧ Rd .i64 w da x.dn x.kd ∧ RdS w kb x.kn x.ks ∧ Rd .i64 w db x.dn x.kd) := ⟨h1, h2, h3, h4⟩
  obtain ⟨hf1, hf2⟩ := hf
  clear h1 h2 h3 h4
  go_enter Tryz.func135, Tryz.ntmps135
  go_wp2_with fail
  have hbel : ∀ o1 o2, Below w.heap.size w ((w.alloc o1).alloc o2) := fun o1 o2 => ((Below.refl _ _).alloc (Nat.le_refl _) o1).alloc (by simp) o2
  refine (eqStringS_yes ka kb x.kn kc kc' x.ks _ (HR.out.1.below (hbel _ _)) (HR.out.2.2.1.below (hbel _ _)) hf1).mono ?_
  rintro e w1 ⟨rfl, n1, rfl⟩
  go_wp2_with fail
  refine (eqInt64S_yes da db x.dn dc dc' x.kd _ (HR.out.2.1.below (below_drewN (hbel _ _) n1)) (HR.out.2.2.2.below (below_drewN (hbel _ _) n1)) hf2).mono ?_
  rintro e w2 ⟨rfl, n2, rfl⟩
  go_wp2
  go_ret
  exact ⟨rfl, below_drewN (hbel _ _) (n1 + n2)⟩

set_option maxHeartbeats 2000000 in
theorem eqTNodeS_yes (a b : Option Addr) (m ca cb : Nat) (N : Nat → Tn) (w : World) (ha : RdTn w a m N) (hb : RdTn w b m N) (hm : m ≤ 1048576) (hN : ∀ i, i < m → TnFit (N i)) :
    Calls Tryz.prog 111 #[.slice a m ca, .slice b m cb] w fun e w' => e = .returned (.bool true) ∧ Below w.heap.size w w' := by
  have hll : ((m : Int) != (m : Int)) = false := by simp
  go_enter Tryz.func111, Tryz.ntmps111
  go_wp2
  go_loopw [5] (fun i wr => ∃ k : Nat, k ≤ m ∧ i = .int .i64 k ∧ Below w.heap.size w wr) (fun i _ => m - (intOf i).toNat)
  case atStart => exact ⟨0, Nat.zero_le _, rfl, Below.refl _ _⟩
  case round =>
    obtain ⟨k, hk, rfl, hbel⟩ := hrel
    by_cases hlt : k < m
    · have hne : ¬ m = 0 := by omega
      have ha' := ha.below hbel
      have hb' := hb.below hbel
      rcases ha' with h | ⟨ba, oa, rfl, hca⟩
      · exact absurd h hne
      rcases hb' with h | ⟨bb, ob, rfl, hcb⟩
      · exact absurd h hne
      obtain ⟨ka, kc, da, dc, c0, c1, c2, c3, c4, c5⟩ := hca k hlt
      obtain ⟨kb, kc', db, dc', g0, g1, g2, g3, g4, g5⟩ := hcb k hlt
      have HL := hN k hlt
      clear hca hcb ha hb hN
      have hsz := hbel.size
      have HB : Hid (Below w.heap.size w wr) := hbel
      clear hbel
      go_wp2
      go_region_with (go_at_call 135; refine (eqTNode_yes (N k) ka da kb db kc dc kc' dc' _ (by exact c4) (by exact c5) (by exact g4) (by exact g5) HL).mono ?_; rintro e w2 ⟨rfl, hb2⟩)
      all_goals
        have HX : Hid (Below w.heap.size w w2) := (HB.out.drew).trans (hb2.mono (by simpa using hsz))
        clear hb2 c0 c1 c2 c3 c4 c5 g0 g1 g2 g3 g4 g5
        go_wp2
        go_roundw
        case rel => exact ⟨k + 1, by omega, by go_num, HX.out⟩
        case measure => simp [intOf]; omega
    · have e : k = m := by omega
      subst e
      go_wp2
      go_ret
      exact ⟨rfl, hbel⟩

set_option maxHeartbeats 400000 in
theorem eqTree_yes (a b : Option Addr) (m ca cb : Nat) (N : Nat → Tn) (w : World) (ha : RdTn w a m N) (hb : RdTn w b m N) (hm : m ≤ 1048576) (hN : ∀ i, i < m → TnFit (N i)) :
    Calls Tryz.prog 74 #[.agg #[.slice a m ca], .agg #[.slice b m cb]] w fun e w' => e = .returned (.bool true) ∧ Below w.heap.size w w' := by
  have HR : Hid (RdTn w a m N ∧ RdTn w b m N ∧ ∀ i, i < m → TnFit (N i)) := ⟨ha, hb, hN⟩
  clear ha hb hN
  go_enter Tryz.func74, Tryz.ntmps74
  go_wp2_with fail
  have hbel : ∀ o1 o2, Below w.heap.size w ((w.alloc o1).alloc o2) := fun o1 o2 => ((Below.refl _ _).alloc (Nat.le_refl _) o1).alloc (by simp) o2
  refine (eqTNodeS_yes a b m ca cb N _ (HR.out.1.below (hbel _ _)) (HR.out.2.1.below (hbel _ _)) hm HR.out.2.2).mono ?_
  rintro e w1 ⟨rfl, hb1⟩
  have H1 : Hid (Below w.heap.size w w1) := (hbel _ _).trans (hb1.mono (by simp; omega))
  clear hb1
  go_wp2
  go_ret
  exact ⟨rfl, H1.out⟩
end Go.Proofs.YtcnollkkigiobaaGreat
