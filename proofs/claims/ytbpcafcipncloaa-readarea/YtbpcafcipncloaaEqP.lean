import Derived.Test.YtbpcafcipncloaaEqByteS
import Derived.Test.YtbpcafcipncloaaOwnP
import Derived.Deep.RegionWith
namespace Go.Proofs.Ytbpcafcipncloaa
open Go.RowKit Go.Deep


set_option maxHeartbeats 1000000 in
theorem eqPend_yes (s : Int) (a b : Option Addr) (len ca cb : Nat) (f : Nat → Int) (w : World) (ha : Rd .u8 w a len f) (hb : Rd .u8 w b len f) (hm : len ≤ 1099511627776) :
    Calls Try.prog 74 #[.agg #[.int .i64 s, .slice a len ca], .agg #[.int .i64 s, .slice b len cb]] w fun e w' => e = .returned (.bool true) ∧ Below w.heap.size w w' := by
  have hss : (s != s) = false := by simp
  go_enter Try.func74, Try.ntmps74
  go_wp2_with fail
  have hbel : ∀ o1 o2, Below w.heap.size w ((w.alloc o1).alloc o2) := fun o1 o2 => ((Below.refl _ _).alloc (Nat.le_refl _) o1).alloc (by simp) o2
  refine (eqByteS_yes a b len ca cb f _ (ha.below (hbel _ _)) (hb.below (hbel _ _)) hm).mono ?_
  rintro e w' ⟨rfl, n, rfl⟩
  go_wp2
  go_ret
  exact ⟨rfl, below_drewN (hbel _ _) n⟩

set_option maxHeartbeats 2000000 in
theorem eqPendS_yes (a b : Option Addr) (m ca cb : Nat) (S : Nat → Int) (L : Nat → Nat) (F : Nat → Nat → Int) (w : World) (ha : RdP w a m S L F) (hb : RdP w b m S L F) (hm : m ≤ 1048576) (hL : ∀ i, i < m → L i ≤ 1048576) :
    Calls Try.prog 45 #[.slice a m ca, .slice b m cb] w fun e w' => e = .returned (.bool true) ∧ Below w.heap.size w w' := by
  have hll : ((m : Int) != (m : Int)) = false := by simp
  go_enter Try.func45, Try.ntmps45
  go_wp2
  go_loopw [5] (fun i wr => ∃ k : Nat, k ≤ m ∧ i = .int .i64 k ∧ Below w.heap.size w wr) (fun i _ => m - (intOf i).toNat)
  case atStart => exact ⟨0, Nat.zero_le _, rfl, Below.refl _ _⟩
  case round =>
    obtain ⟨k, hk, rfl, hbel⟩ := hrel
    by_cases hlt : k < m
    · have hne : ¬ m = 0 := by omega
      have ha' := ha.below hbel
      have hb' := hb.below hbel
      rcases ha' with h | ⟨ba, oa, rfl, hca⟩
      · exact absurd h hne
      rcases hb' with h | ⟨bb, ob, rfl, hcb⟩
      · exact absurd h hne
      obtain ⟨h1, ad1, cp1, h2, h3⟩ := hca k hlt
      obtain ⟨g1, ad2, cp2, g2, g3⟩ := hcb k hlt
      have HL := hL k hlt
      clear hca hcb ha hb hL
      have hsz := hbel.size
      have HB : Hid (Below w.heap.size w wr) := hbel
      clear hbel
      go_wp2
      go_region_with (go_at_call 74; refine (eqPend_yes (S k) ad1 ad2 (L k) cp1 cp2 (F k) _ (by exact h3) (by exact g3) (by omega)).mono ?_; rintro e w2 ⟨rfl, hb2⟩)
      all_goals
        have HX : Hid (Below w.heap.size w w2) := (HB.out.drew).trans (hb2.mono (by simpa using hsz))
        clear hb2 h1 h2 h3 g1 g2 g3
        go_wp2
        go_roundw
        case rel => exact ⟨k + 1, by omega, by go_num, HX.out⟩
        case measure => simp [intOf]; omega
    · have e : k = m := by omega
      subst e
      go_wp2
      go_ret
      exact ⟨rfl, hbel⟩
end Go.Proofs.Ytbpcafcipncloaa
