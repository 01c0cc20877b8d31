import Derived.Test.YtbpcafcipncloaaRows
import Derived.Test.YtbpcafcipncloaaOwn
namespace Go.Proofs.Ytbpcafcipncloaa
open Go.RowKit Go.Deep

set_option maxHeartbeats 1000000 in
theorem markByteS_row (g n cap : Nat) (f : Nat → Int) (w : World) (k0 : Int) (h : rowIn w g 5 n (fun i => .int .u8 (f i))) (hn : n ≤ 1099511627776) (h0 : 0 ≤ k0) (h1 : k0 ≤ 4611686018427387904) :
    Calls Try.prog 25 #[.slice (some ⟨g, 0, none⟩) n cap, .int .i64 k0] w fun e w' => e = .returned (.int .i64 (k0 + n)) ∧
      rowIn w' g 5 n (fun i => .int .u8 (IntKind.u8.wrap (k0 + i))) ∧ OnlyAt (some ⟨g, 0, none⟩) w w' := by
  go_enter Try.func25, Try.ntmps25
  go_wp2
  go_loopw [1, 5] (fun q i wr => ∃ k : Nat, k ≤ n ∧ i = .int .i64 k ∧ q = .int .i64 (k0 + k) ∧ rowIn wr g 5 n (fun j => if j < k then .int .u8 (IntKind.u8.wrap (k0 + j)) else .int .u8 (f j)) ∧ OnlyAt (some ⟨g, 0, none⟩) w wr) (fun _ i _ => n - (intOf i).toNat)
  case atStart => exact ⟨0, Nat.zero_le _, rfl, by simp, h.congr (fun j _ => by simp), OnlyAt.refl _ _⟩
  case round =>
    obtain ⟨k, hk, rfl, rfl, hrow, honly⟩ := hrel
    by_cases hlt : k < n
    · have hcy := hrow.cell hlt
      simp only [Nat.lt_irrefl, if_false] at hcy
      have hfy := hrow.frozen k
      have HX : Hid (rowIn (wr.setCell ⟨g, k, none⟩ (.int .u8 (IntKind.u8.wrap (k0 + k)))) g 5 n (fun j => if j < k + 1 then .int .u8 (IntKind.u8.wrap (k0 + j)) else .int .u8 (f j)) ∧ OnlyAt (some ⟨g, 0, none⟩) w (wr.setCell ⟨g, k, none⟩ (.int .u8 (IntKind.u8.wrap (k0 + k))))) :=
        ⟨(hrow.set k _).congr (fun j _ => by
            by_cases e : j = k
            · subst e; simp
            · by_cases hl : j < k
              · have : j < k + 1 := by omega
                simp [e, hl, this]
              · have : ¬ j < k + 1 := by omega
                simp [e, hl, this]), honly.setCell k _⟩
      clear hrow honly h
      go_wp2
      go_roundw
      case rel => exact ⟨k + 1, by omega, by go_num, by go_num, HX.out⟩
      case measure => simp [intOf]; omega
    · have e : k = n := by omega
      subst e
      go_wp2
      go_ret
      exact ⟨rfl, hrow.congr (fun i hi => by simp [hi]), honly⟩

theorem markByteS_own (a : Option Addr) (n cap B : Nat) (f : Nat → Int) (w : World) (k0 : Int) (h : OwnB w B a n f) (hn : n ≤ 1099511627776) (h0 : 0 ≤ k0) (h1 : k0 ≤ 4611686018427387904) :
    Calls Try.prog 25 #[.slice a n cap, .int .i64 k0] w fun e w' => e = .returned (.int .i64 (k0 + n)) ∧
      OwnB w' B a n (fun i => IntKind.u8.wrap (k0 + i)) ∧ OnlyAt a w w' ∧ (n = 0 → w' = w) := by
  by_cases hz : n = 0
  · subst hz
    go_enter Try.func25, Try.ntmps25
    go_wp2
    go_loop [1, 5] (fun q i => i = .int .i64 0 ∧ q = .int .i64 k0) (fun _ _ => 0)
    case atStart => exact ⟨rfl, rfl⟩
    case round =>
      obtain ⟨rfl, rfl⟩ := hrel
      go_wp2
      go_ret
      exact ⟨by simp, Or.inl rfl, OnlyAt.refl _ _, by simp⟩
  · rcases h with h | ⟨g, rfl, hg, hr⟩
    · exact absurd h hz
    · refine (markByteS_row g n cap f w k0 hr hn h0 h1).mono ?_
      rintro e w' ⟨rfl, hr', ho⟩
      exact ⟨rfl, Or.inr ⟨g, rfl, hg, hr'⟩, ho, fun h => absurd h hz⟩

set_option maxHeartbeats 1000000 in
theorem heldByteS_yes (a : Option Addr) (n cap : Nat) (w : World) (k0 : Int) (h : Rd .u8 w a n (fun i => IntKind.u8.wrap (k0 + i))) (hn : n ≤ 1099511627776) (h0 : 0 ≤ k0) (h1 : k0 ≤ 4611686018427387904) :
    Calls Try.prog 47 #[.slice a n cap, .int .i64 k0] w fun e w' => e = .returned (.int .i64 (k0 + n)) ∧ w' = w := by
  go_enter Try.func47, Try.ntmps47
  go_wp2
  go_loop [1, 5] (fun q i => ∃ k : Nat, k ≤ n ∧ i = .int .i64 k ∧ q = .int .i64 (k0 + k)) (fun _ i => n - (intOf i).toNat)
  case atStart => exact ⟨0, Nat.zero_le _, rfl, by simp⟩
  case round =>
    obtain ⟨k, hk, rfl, rfl⟩ := hrel
    by_cases hlt : k < n
    · have hne : ¬ n = 0 := by omega
      rcases h with h | ⟨b, o, rfl, hc⟩
      · exact absurd h hne
      have hcx := hc k hlt
      have hq : (IntKind.u8.wrap (k0 + k) != IntKind.u8.wrap (k0 + k)) = false := by simp
      clear hc
      go_wp2
      go_round
      case rel => exact ⟨k + 1, by omega, by go_num, by go_num⟩
      case measure => simp [intOf]; omega
    · have e : k = n := by omega
      subst e
      go_wp2
      go_ret
      exact ⟨rfl, rfl⟩
end Go.Proofs.Ytbpcafcipncloaa
