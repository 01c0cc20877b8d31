import Derived.Test.YtbpcafcipncloaaRows
import Derived.Test.YtbpcafcipncloaaBase
import Derived.Test.YtbpcafcipncloaaCrcMath
namespace Go.Proofs.Ytbpcafcipncloaa
open Go.RowKit Go.Deep

set_option maxHeartbeats 1000000 in
theorem specCrc_any (a : Option Addr) (len cap : Nat) (f : Nat → Int) (w : World) (h : Rd .u8 w a len f) (hf : ∀ i, i < len → 0 ≤ f i ∧ f i < 256) (hm : len ≤ 1099511627776) :
    Calls Try.prog 10 #[.slice a len cap] w fun e w' => e = .returned (.int .u32 (bits .xor .u32 (crcTo f len) 4294967295)) ∧ w' = w := by
  go_enter Try.func10, Try.ntmps10
  go_wp2
  go_loop [3, 4, 5] (fun c i _ => ∃ k : Nat, k ≤ len ∧ i = .int .i64 k ∧ c = .int .u32 (crcTo f k)) (fun _ i _ => len - (intOf i).toNat)
  case atStart => exact ⟨0, Nat.zero_le _, rfl, rfl⟩
  case round =>
    obtain ⟨k, hk, rfl, rfl⟩ := hrel
    by_cases hlt : k < len
    · have hne : ¬ len = 0 := by omega
      rcases h with h | ⟨b, o, rfl, hc⟩
      · exact absurd h hne
      have hcx := hc k hlt
      have hfk := hf k hlt
      have hx := xor_range (crcTo f k) (f k)
      have HX : Hid (crcTo f (k + 1) = crcStN 8 (bits .xor .u32 (crcTo f k) (f k))) := rfl
      clear hc hf
      generalize crcTo f k = c0 at *
      go_wp2
      clear hcx
      generalize bits .xor .u32 c0 (f k) = x0 at *
      go_loop [3, 5] (fun c j => ∃ n : Nat, n ≤ 8 ∧ j = .int .i64 n ∧ c = .int .u32 (crcStN n x0)) (fun _ j => 8 - (intOf j).toNat)
      case atStart => exact ⟨0, Nat.zero_le _, rfl, rfl⟩
      case round =>
        obtain ⟨n, hn, rfl, rfl⟩ := hrel
        have hr := crcStN_range n x0 hx.1 hx.2
        have HN : Hid (crcStN (n + 1) x0 = crcSt (crcStN n x0)) := rfl
        by_cases hlt8 : n < 8
        · generalize crcStN n x0 = c1 at *
          by_cases h1 : c1 % 2 = 1
          · have h1b : (c1 % 2 == 1) = true := by simp [h1]
            have HE : Hid (crcSt c1 = bits .xor .u32 (c1 / 2) 3988292384) := crcSt_one c1 h1
            clear h1
            go_wp2
            go_round
            case rel => exact ⟨n + 1, by omega, by go_num, by rw [HN.out, HE.out]⟩
            case measure => simp [intOf]; omega
          · have h1b : (c1 % 2 == 1) = false := by simp [h1]
            have HE : Hid (crcSt c1 = c1 / 2) := crcSt_zero c1 h1
            clear h1
            go_wp2
            go_round
            case rel => exact ⟨n + 1, by omega, by go_num, by rw [HN.out, HE.out]⟩
            case measure => simp [intOf]; omega
        · have e : n = 8 := by omega
          subst e
          go_wp2
          go_round
          case rel => exact ⟨k + 1, by omega, by go_num, by rw [HX.out]⟩
          case measure => simp [intOf]; omega
    · have e : k = len := by omega
      subst e
      go_wp2
      go_ret
      exact ⟨rfl, rfl⟩

set_option maxHeartbeats 1000000 in
theorem implCrc_any (a : Option Addr) (len cap : Nat) (f : Nat → Int) (w : World) (h : Rd .u8 w a len f) (hf : ∀ i, i < len → 0 ≤ f i ∧ f i < 256) (hm : len ≤ 1099511627776) :
    Calls Try.prog 12 #[.slice a len cap] w fun e w' => e = .returned (.int .u32 (bits .xor .u32 (crcTo f len) 4294967295)) ∧ w' = w := by
  go_enter Try.func12, Try.ntmps12
  go_wp2
  go_loop [3, 5, 8, 16] (fun c _ i _ => ∃ k : Nat, k ≤ len ∧ i = .int .i64 k ∧ c = .int .u32 (crcTo f k)) (fun _ _ i _ => len - (intOf i).toNat)
  case atStart => exact ⟨0, Nat.zero_le _, rfl, rfl⟩
  case round =>
    obtain ⟨k, hk, rfl, rfl⟩ := hrel
    by_cases hlt : k < len
    · have hne : ¬ len = 0 := by omega
      rcases h with h | ⟨b, o, rfl, hc⟩
      · exact absurd h hne
      have hcx := hc k hlt
      have hfk := hf k hlt
      have hx := xor_range (crcTo f k) (f k)
      have HX : Hid (crcTo f (k + 1) = crcStN 8 (bits .xor .u32 (crcTo f k) (f k))) := rfl
      clear hc hf
      generalize crcTo f k = c0 at *
      go_wp2
      clear hcx
      generalize bits .xor .u32 c0 (f k) = x0 at *
      go_loop [3, 16] (fun c j => ∃ n : Nat, n ≤ 8 ∧ j = .int .i64 n ∧ c = .int .u32 (crcStN n x0)) (fun _ j => 8 - (intOf j).toNat)
      case atStart => exact ⟨0, Nat.zero_le _, rfl, rfl⟩
      case round =>
        obtain ⟨n, hn, rfl, rfl⟩ := hrel
        have hr := crcStN_range n x0 hx.1 hx.2
        have HN : Hid (crcStN (n + 1) x0 = crcSt (crcStN n x0)) := rfl
        by_cases hlt8 : n < 8
        · generalize crcStN n x0 = c1 at *
          have ha := and_one_u32 c1 hr.1 hr.2
          by_cases h1 : c1 % 2 = 1
          · have h1b : (bits .and .u32 c1 1 == 1) = true := by simp [ha, h1]
            have HE : Hid (crcSt c1 = bits .xor .u32 (c1 / 2) 3988292384) := crcSt_one c1 h1
            clear h1 ha
            go_wp2
            go_round
            case rel => exact ⟨n + 1, by omega, by go_num, by rw [HN.out, HE.out]⟩
            case measure => simp [intOf]; omega
          · have h1b : (bits .and .u32 c1 1 == 1) = false := by simp [ha, h1]
            have HE : Hid (crcSt c1 = c1 / 2) := crcSt_zero c1 h1
            clear h1 ha
            go_wp2
            go_round
            case rel => exact ⟨n + 1, by omega, by go_num, by rw [HN.out, HE.out]⟩
            case measure => simp [intOf]; omega
        · have e : n = 8 := by omega
          subst e
          go_wp2
          go_round
          case rel => exact ⟨k + 1, by omega, by go_num, by rw [HX.out]⟩
          case measure => simp [intOf]; omega
    · have e : k = len := by omega
      subst e
      go_wp2
      go_ret
      exact ⟨rfl, rfl⟩
end Go.Proofs.Ytbpcafcipncloaa
