import Derived.Test.YtbpcafcipncloaaRows
import Derived.Test.YtbpcafcipncloaaOwnP
namespace Go.Proofs.Ytbpcafcipncloaa
open Go.RowKit Go.Deep

set_option maxHeartbeats 400000 in
theorem szByteS_any (a : Option Addr) (n c : Nat) (l : Int) (w : World) (hn : n ≤ maxLen) (h0 : 0 ≤ l) (h1 : l ≤ 1048576) :
    Calls Try.prog 32 #[.slice a n c, .int .i64 l] w fun e w' => ∃ r : Int, e = .returned (.int .i64 r) ∧ (r = -1 ∨ (r = l - n ∧ 0 ≤ r ∧ n ≤ 1048576)) ∧ w' = w := by
  unfold maxLen at hn
  by_cases h : l - (n : Int) < 0
  · go_enter Try.func32, Try.ntmps32
    go_wp2
    go_ret
    exact ⟨-1, rfl, Or.inl rfl, rfl⟩
  · go_enter Try.func32, Try.ntmps32
    go_wp2
    go_ret
    exact ⟨_, rfl, Or.inr ⟨rfl, by omega, by omega⟩, rfl⟩

set_option maxHeartbeats 400000 in
theorem szPend_any (s : Int) (a : Option Addr) (n c : Nat) (l : Int) (w : World) (hn : n ≤ maxLen) (h0 : 0 ≤ l) (h1 : l ≤ 1048576) :
    Calls Try.prog 65 #[.agg #[.int .i64 s, .slice a n c], .int .i64 l] w fun e w' => ∃ r : Int, e = .returned (.int .i64 r) ∧ (r = -1 ∨ (0 ≤ r ∧ r ≤ 1048576 ∧ n ≤ 1048576)) ∧ Below w.heap.size w w' := by
  go_enter Try.func65, Try.ntmps65
  go_wp2_with fail
  refine (szByteS_any a n c l _ hn h0 h1).mono ?_
  rintro e w1 ⟨r, rfl, hr, hw⟩
  subst hw
  rcases hr with rfl | ⟨hr, hr0, hrn⟩
  · go_wp2
    go_ret
    exact ⟨-1, rfl, Or.inl rfl, below_alloc _ _⟩
  · have H : Hid (r = l - n) := hr
    clear hr
    have hr1 : ¬ r < 0 := by omega
    go_wp2
    go_ret
    exact ⟨r, rfl, Or.inr ⟨hr0, by have := H.out; omega, hrn⟩, below_alloc _ _⟩

set_option maxHeartbeats 1000000 in
theorem szPendS_any (a : Option Addr) (m c : Nat) (S : Nat → Int) (L : Nat → Nat) (F : Nat → Nat → Int) (l : Int) (w : World) (h : RdP w a m S L F) (hm : m ≤ maxLen) (hL : ∀ i, i < m → L i ≤ maxLen) (h0 : 0 ≤ l) (h1 : l ≤ 1048576) :
    Calls Try.prog 33 #[.slice a m c, .int .i64 l] w fun e w' => ∃ r : Int, e = .returned (.int .i64 r) ∧ (r = -1 ∨ (0 ≤ r ∧ r ≤ 1048576 ∧ m ≤ 1048576 ∧ ∀ i, i < m → L i ≤ 1048576)) ∧ Below w.heap.size w w' := by
  unfold maxLen at hm
  by_cases hneg : l - (m : Int) < 0
  · go_enter Try.func33, Try.ntmps33
    go_wp2
    go_ret
    exact ⟨-1, rfl, Or.inl rfl, Below.refl _ _⟩
  · go_enter Try.func33, Try.ntmps33
    go_wp2
    go_loopw [1, 5] (fun q i wr => ∃ (k : Nat) (l' : Int), k ≤ m ∧ i = .int .i64 k ∧ q = .int .i64 l' ∧ 0 ≤ l' ∧ l' ≤ 1048576 ∧ (∀ j, j < k → L j ≤ 1048576) ∧ Below w.heap.size w wr) (fun _ i _ => m - (intOf i).toNat)
    case atStart => exact ⟨0, _, Nat.zero_le _, rfl, rfl, by omega, by omega, fun j hj => absurd hj (Nat.not_lt_zero _), Below.refl _ _⟩
    case round =>
      obtain ⟨k, l', hk, rfl, rfl, hl0, hl1, hLk, hbel⟩ := hrel
      have HLk : Hid (∀ j, j < k → L j ≤ 1048576) := hLk
      clear hLk
      by_cases hlt : k < m
      · have hne : ¬ m = 0 := by omega
        have h' := h.below hbel
        have HB : Hid (Below w.heap.size w wr) := hbel
        have hsz := hbel.size
        rcases h' with h' | ⟨b, o, rfl, hc⟩
        · exact absurd h' hne
        obtain ⟨c1, ad, cp, c2, c3⟩ := hc k hlt
        have HL := hL k hlt
        clear hc hL hbel h
        go_wp2_with fail
        refine (szPend_any (S k) ad (L k) cp l' _ HL hl0 hl1).mono ?_
        rintro e w1 ⟨r, rfl, hr, hb1⟩
        have HB1 : Hid (Below w.heap.size w w1) := HB.out.trans (hb1.mono hsz)
        clear hb1
        rcases hr with rfl | ⟨hr0, hr1, hrn⟩
        · go_wp2
          go_ret
          exact ⟨-1, rfl, Or.inl rfl, HB1.out⟩
        · have hr2 : ¬ r < 0 := by omega
          go_wp2
          go_roundw
          case rel =>
            refine ⟨k + 1, r, by omega, by go_num, rfl, hr0, hr1, fun j hj => ?_, HB1.out⟩
            by_cases e : j = k
            · subst e; exact hrn
            · exact HLk.out j (by omega)
          case measure => simp [intOf]; omega
      · have e : k = m := by omega
        subst e
        go_wp2
        go_ret
        exact ⟨l', rfl, Or.inr ⟨hl0, hl1, by omega, HLk.out⟩, hbel⟩

set_option maxHeartbeats 1000000 in
theorem szDisk_any (a p : Option Addr) (n c m q : Nat) (S : Nat → Int) (L : Nat → Nat) (F : Nat → Nat → Int) (fuel : Int) (dead : Bool) (w : World) (hn : n ≤ maxLen) (h : RdP w p m S L F) (hm : m ≤ maxLen) (hL : ∀ i, i < m → L i ≤ maxLen) :
    Calls Try.prog 14 #[.agg #[.slice a n c, .slice p m q, .int .i64 fuel, .bool dead], .int .i64 1048576] w fun e w' => ∃ r : Int, e = .returned (.int .i64 r) ∧ (r = -1 ∨ (0 ≤ r ∧ n ≤ 1048576 ∧ m ≤ 1048576 ∧ ∀ i, i < m → L i ≤ 1048576)) ∧ Below w.heap.size w w' := by
  go_enter Try.func14, Try.ntmps14
  go_wp2_with fail
  refine (szByteS_any a n c 1048576 _ hn (by omega) (by omega)).mono ?_
  rintro e w1 ⟨r, rfl, hr, hw⟩
  subst hw
  rcases hr with rfl | ⟨hr, hr0, hrn⟩
  · go_wp2
    go_ret
    exact ⟨-1, rfl, Or.inl rfl, below_alloc _ _⟩
  · have hr3 : r ≤ 1048576 := by omega
    clear hr
    have hr1 : ¬ r < 0 := by omega
    go_wp2_with fail
    refine (szPendS_any p m q S L F r _ (h.below (below_alloc _ _)) hm hL hr0 hr3).mono ?_
    rintro e w2 ⟨r2, rfl, hr2, hb2⟩
    have HB2 : Hid (Below w.heap.size w w2) := (below_alloc _ _).trans (hb2.mono (by simp))
    clear hb2
    rcases hr2 with rfl | ⟨hq0, hq1, hq2, hq3⟩
    · go_wp2
      go_ret
      exact ⟨-1, rfl, Or.inl rfl, HB2.out⟩
    · have hq : ¬ r2 < 0 := by omega
      go_wp2
      go_ret
      exact ⟨r2, rfl, Or.inr ⟨hq0, hrn, hq2, hq3⟩, HB2.out⟩
end Go.Proofs.Ytbpcafcipncloaa
