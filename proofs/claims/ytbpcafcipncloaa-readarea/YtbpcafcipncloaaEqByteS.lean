import Derived.Test.YtbpcafcipncloaaRows
import Derived.Test.YtbpcafcipncloaaBase
import Derived.Deep.QuietTactic
import Derived.BigQuiet
namespace Go.Proofs.Ytbpcafcipncloaa
open Go.RowKit Go.Deep

set_option maxHeartbeats 1000000 in
theorem eqByteS_yes (a b : Option Addr) (len ca cb : Nat) (f : Nat → Int) (w : World) (ha : Rd .u8 w a len f) (hb : Rd .u8 w b len f) (hm : len ≤ 1099511627776) :
    Calls Try.prog 13 #[.slice a len ca, .slice b len cb] w fun e w' => e = .returned (.bool true) ∧ ∃ n, w' = w.drewN n := by
  have hll : ((len : Int) != (len : Int)) = false := by simp
  go_enter Try.func13, Try.ntmps13
  go_wp2
  go_loopw [5] (fun i wr => ∃ k n : Nat, k ≤ len ∧ i = .int .i64 k ∧ wr = w.drewN n) (fun i _ => len - (intOf i).toNat)
  case atStart => exact ⟨0, 0, Nat.zero_le _, rfl, rfl⟩
  case round =>
    obtain ⟨k, n, hk, rfl, rfl⟩ := hrel
    by_cases hlt : k < len
    · have hne : ¬ len = 0 := by omega
      rcases ha with h | ⟨ba, oa, rfl, hca⟩
      · exact absurd h hne
      rcases hb with h | ⟨bb, ob, rfl, hcb⟩
      · exact absurd h hne
      have h1 := hca k hlt
      have h2 := hcb k hlt
      have hff : (f k != f k) = false := by simp
      clear hca hcb
      go_wp2
      go_quiet (fail)
      go_wp2
      go_roundw
      case rel => exact ⟨k + 1, _, by omega, by go_num, rfl⟩
      case measure => simp [intOf]; omega
    · have e : k = len := by omega
      subst e
      go_wp2
      go_ret
      exact ⟨rfl, n, rfl⟩
end Go.Proofs.Ytbpcafcipncloaa
