import Derived.Test.YtcnollkkigiobaaGreatTnT2
import Derived.Test.YtcnollkkigiobaaGreatTnEq
import Derived.Test.YtcnollkkigiobaaGreatTnSs
import Derived.Test.YtcnollkkigiobaaGreatOpenTree
import Derived.Test.YtcnollkkigiobaaGreatTrB
namespace Go.Proofs.YtcnollkkigiobaaGreat
open Go.RowKit Go.Deep
set_option linter.unusedVariables false
set_option maxRecDepth 100000

/-- A slice of trees that can be read: tree i has M i nodes, T i. -/
def RdIx (w : World) (a : Option Addr) (n : Nat) (M : Nat → Nat) (T : Nat → Nat → Tn) : Prop :=
  n = 0 ∨ ∃ b o, a = some ⟨b, o, none⟩ ∧ ∀ i, i < n → ∃ ai ci, w.cell? ⟨b, o + i, none⟩ = some (.slice ai (M i) ci) ∧ RdTn w ai (M i) (T i)
theorem RdIx.below {w w' : World} {a : Option Addr} {n : Nat} {M : Nat → Nat} {T : Nat → Nat → Tn} (h : RdIx w a n M T) (hb : Below w.heap.size w w') : RdIx w' a n M T := by
  rcases h with h | ⟨b, o, rfl, hc⟩
  · exact Or.inl h
  · refine Or.inr ⟨b, o, rfl, fun i hi => ?_⟩
    obtain ⟨ai, ci, h0, h1⟩ := hc i hi
    exact ⟨ai, ci, by rw [hb.cell (World.block_lt_of_cell? _ _ h0)]; exact h0, h1.below hb⟩
/-- What is known of trees that passed. -/
def IxFit (n : Nat) (M : Nat → Nat) (T : Nat → Nat → Tn) : Prop := ∀ i, i < n → M i ≤ 1048576 ∧ ∀ j, j < M i → TnFit (T i j)
/-- How many nodes, keys and children the first k trees tell. -/
def sumI (M : Nat → Nat) (T : Nat → Nat → Tn) : Nat → Nat
  | 0 => 0
  | k + 1 => sumI M T k + M k + sumT (T k) (M k)
theorem sumI_get (M : Nat → Nat) (T : Nat → Nat → Tn) : ∀ (m i : Nat), i < m → M i + sumT (T i) (M i) ≤ sumI M T m
  | 0, i, h => absurd h (Nat.not_lt_zero _)
  | m + 1, i, h => by
    have e : sumI M T (m + 1) = sumI M T m + M m + sumT (T m) (M m) := rfl
    by_cases e2 : i = m
    · subst e2; omega
    · have := sumI_get M T m i (by omega)
      omega
theorem ixFit_of {n : Nat} {M : Nat → Nat} {T : Nat → Nat → Tn} (h : n + sumI M T n ≤ 1048576) : IxFit n M T := fun i hi => by
  have q := sumI_get M T n i hi
  refine ⟨by omega, fun j hj => ?_⟩
  have := sumT_get (T i) (M i) j hj
  exact ⟨by omega, by omega⟩

set_option maxHeartbeats 1000000 in
theorem szTree_left (a : Option Addr) (m c : Nat) (N : Nat → Tn) (l : Int) (w : World) (h : RdTn w a m N) (hm : m ≤ maxLen) (hN : ∀ i, i < m → TnBig (N i)) (h0 : 0 ≤ l) (h1 : l ≤ 1048576) :
    Calls Tryz.prog 66 #[.agg #[.slice a m c], .int .i64 l] w fun e w' => ∃ r : Int, e = .returned (.int .i64 r) ∧ (r = -1 ∨ (0 ≤ r ∧ r + (m : Int) + (sumT N m : Int) ≤ l)) ∧ Below w.heap.size w w' := by
  have HR : Hid (RdTn w a m N ∧ ∀ i, i < m → TnBig (N i)) := ⟨h, hN⟩
  clear h hN
  go_enter Tryz.func66, Tryz.ntmps66
  go_wp2_with fail
  refine (szTNodeS_sum a m c N l _ (HR.out.1.below (below_alloc _ _)) hm HR.out.2 h0 h1).mono ?_
  rintro e w1 ⟨r, rfl, hr, hb1⟩
  have H1 : Hid (Below w.heap.size w w1) := (below_alloc _ _).trans (hb1.mono (by simp))
  clear hb1
  rcases hr with rfl | ⟨hr0, hr1⟩
  · go_wp2
    go_ret
    exact ⟨-1, rfl, Or.inl rfl, H1.out⟩
  · have hr2 : ¬ r < 0 := by omega
    have HF : Hid (r + (m : Int) + (sumT N m : Int) ≤ l) := hr1
    clear hr1
    go_wp2
    go_ret
    exact ⟨r, rfl, Or.inr ⟨hr0, HF.out⟩, H1.out⟩

set_option maxHeartbeats 1000000 in
theorem szTreeS_sum (a : Option Addr) (m c : Nat) (M : Nat → Nat) (T : Nat → Nat → Tn) (l : Int) (w : World) (h : RdIx w a m M T) (hm : m ≤ maxLen) (hN : ∀ i, i < m → M i ≤ maxLen ∧ ∀ j, j < M i → TnBig (T i j)) (h0 : 0 ≤ l) (h1 : l ≤ 1048576) :
    Calls Tryz.prog 32 #[.slice a m c, .int .i64 l] w fun e w' => ∃ r : Int, e = .returned (.int .i64 r) ∧ (r = -1 ∨ (0 ≤ r ∧ r + (m : Int) + (sumI M T m : Int) ≤ l)) ∧ Below w.heap.size w w' := by
  unfold maxLen at hm
  by_cases hneg : l - (m : Int) < 0
  · go_enter Tryz.func32, Tryz.ntmps32
    go_wp2
    go_ret
    exact ⟨-1, rfl, Or.inl rfl, Below.refl _ _⟩
  · go_enter Tryz.func32, Tryz.ntmps32
    go_wp2
    go_loopw [1, 5] (fun q i wr => ∃ (k : Nat) (l' : Int), k ≤ m ∧ i = .int .i64 k ∧ q = .int .i64 l' ∧ 0 ≤ l' ∧ l' + (sumI M T k : Int) ≤ l - (m : Int) ∧ Below w.heap.size w wr) (fun _ i _ => m - (intOf i).toNat)
    case atStart => exact ⟨0, _, Nat.zero_le _, rfl, rfl, by omega, by simp [sumI], Below.refl _ _⟩
    case round =>
      obtain ⟨k, l', hk, rfl, rfl, hl0, hl1, hbel⟩ := hrel
      by_cases hlt : k < m
      · have hne : ¬ m = 0 := by omega
        have h' := h.below hbel
        have HB : Hid (Below w.heap.size w wr) := hbel
        have hsz := hbel.size
        rcases h' with h' | ⟨b, o, rfl, hc⟩
        · exact absurd h' hne
        obtain ⟨ai, ci, c0, c4⟩ := hc k hlt
        have HK : Hid (RdTn wr ai (M k) (T k)) := c4
        have HL : Hid (M k ≤ maxLen ∧ ∀ j, j < M k → TnBig (T k j)) := hN k hlt
        clear hc hN hbel h c4
        go_wp2_with fail
        refine (szTree_left ai (M k) ci (T k) l' _ HK.out HL.out.1 HL.out.2 hl0 (by omega)).mono ?_
        rintro e w1 ⟨r, rfl, hr, hb1⟩
        have HB1 : Hid (Below w.heap.size w w1) := HB.out.trans (hb1.mono hsz)
        clear hb1
        rcases hr with rfl | ⟨hr0, hr1⟩
        · go_wp2
          go_ret
          exact ⟨-1, rfl, Or.inl rfl, HB1.out⟩
        · have hr2 : ¬ r < 0 := by omega
          have HN2 : Hid (r + (sumI M T (k + 1) : Int) ≤ l - (m : Int)) := by
            show r + (sumI M T (k + 1) : Int) ≤ l - (m : Int)
            have : sumI M T (k + 1) = sumI M T k + M k + sumT (T k) (M k) := rfl
            omega
          go_wp2
          go_roundw
          case rel => exact ⟨k + 1, r, by omega, by go_num, rfl, hr0, HN2.out, HB1.out⟩
          case measure => simp [intOf]; omega
      · have e : k = m := by omega
        subst e
        go_wp2
        go_ret
        exact ⟨l', rfl, Or.inr ⟨hl0, by omega⟩, hbel⟩

set_option maxHeartbeats 1000000 in
theorem szIndex_sum (a : Option Addr) (m c : Nat) (M : Nat → Nat) (T : Nat → Nat → Tn) (w : World) (h : RdIx w a m M T) (hm : m ≤ maxLen) (hN : ∀ i, i < m → M i ≤ maxLen ∧ ∀ j, j < M i → TnBig (T i j)) :
    Calls Tryz.prog 7 #[.agg #[.slice a m c], .int .i64 1048576] w fun e w' => ∃ r : Int, e = .returned (.int .i64 r) ∧ (r = -1 ∨ (0 ≤ r ∧ m + sumI M T m ≤ 1048576)) ∧ Below w.heap.size w w' := by
  have HR : Hid (RdIx w a m M T ∧ ∀ i, i < m → M i ≤ maxLen ∧ ∀ j, j < M i → TnBig (T i j)) := ⟨h, hN⟩
  clear h hN
  go_enter Tryz.func7, Tryz.ntmps7
  go_wp2_with fail
  refine (szTreeS_sum a m c M T 1048576 _ (HR.out.1.below (below_alloc _ _)) hm HR.out.2 (by omega) (by omega)).mono ?_
  rintro e w1 ⟨r, rfl, hr, hb1⟩
  have H1 : Hid (Below w.heap.size w w1) := (below_alloc _ _).trans (hb1.mono (by simp))
  clear hb1
  rcases hr with rfl | ⟨hr0, hr1⟩
  · go_wp2
    go_ret
    exact ⟨-1, rfl, Or.inl rfl, H1.out⟩
  · have hr2 : ¬ r < 0 := by omega
    have HF : Hid (m + sumI M T m ≤ 1048576) := by
      show m + sumI M T m ≤ 1048576
      omega
    clear hr1
    go_wp2
    go_ret
    exact ⟨r, rfl, Or.inr ⟨hr0, HF.out⟩, H1.out⟩

set_option maxHeartbeats 2000000 in
theorem eqTreeS_yes (a b : Option Addr) (m ca cb : Nat) (M : Nat → Nat) (T : Nat → Nat → Tn) (w : World) (ha : RdIx w a m M T) (hb : RdIx w b m M T) (hm : m ≤ 1048576) (hN : IxFit m M T) :
    Calls Tryz.prog 39 #[.slice a m ca, .slice b m cb] w fun e w' => e = .returned (.bool true) ∧ Below w.heap.size w w' := by
  have hll : ((m : Int) != (m : Int)) = false := by simp
  go_enter Tryz.func39, Tryz.ntmps39
  go_wp2
  go_loopw [5] (fun i wr => ∃ k : Nat, k ≤ m ∧ i = .int .i64 k ∧ Below w.heap.size w wr) (fun i _ => m - (intOf i).toNat)
  case atStart => exact ⟨0, Nat.zero_le _, rfl, Below.refl _ _⟩
  case round =>
    obtain ⟨k, hk, rfl, hbel⟩ := hrel
    by_cases hlt : k < m
    · have hne : ¬ m = 0 := by omega
      have ha' := ha.below hbel
      have hb' := hb.below hbel
      rcases ha' with h | ⟨ba, oa, rfl, hca⟩
      · exact absurd h hne
      rcases hb' with h | ⟨bb, ob, rfl, hcb⟩
      · exact absurd h hne
      obtain ⟨ai, ci, c0, c4⟩ := hca k hlt
      obtain ⟨bi, di, g0, g4⟩ := hcb k hlt
      have HL := hN k hlt
      clear hca hcb ha hb hN
      have hsz := hbel.size
      have HB : Hid (Below w.heap.size w wr) := hbel
      clear hbel
      go_wp2
      go_region_with (go_at_call 74; refine (eqTree_yes ai bi (M k) ci di (T k) _ (by exact c4) (by exact g4) HL.1 HL.2).mono ?_; rintro e w2 ⟨rfl, hb2⟩)
      all_goals
        have HX : Hid (Below w.heap.size w w2) := (HB.out.drew).trans (hb2.mono (by simpa using hsz))
        clear hb2 c0 c4 g0 g4
        go_wp2
        go_roundw
        case rel => exact ⟨k + 1, by omega, by go_num, HX.out⟩
        case measure => simp [intOf]; omega
    · have e : k = m := by omega
      subst e
      go_wp2
      go_ret
      exact ⟨rfl, hbel⟩
set_option maxHeartbeats 400000 in
theorem eqIndex_yes (a b : Option Addr) (m ca cb : Nat) (M : Nat → Nat) (T : Nat → Nat → Tn) (w : World) (ha : RdIx w a m M T) (hb : RdIx w b m M T) (hm : m ≤ 1048576) (hN : IxFit m M T) :
    Calls Tryz.prog 13 #[.agg #[.slice a m ca], .agg #[.slice b m cb]] w fun e w' => e = .returned (.bool true) ∧ Below w.heap.size w w' := by
  have HR : Hid (RdIx w a m M T ∧ RdIx w b m M T ∧ IxFit m M T) := ⟨ha, hb, hN⟩
  clear ha hb hN
  go_enter Tryz.func13, Tryz.ntmps13
  go_wp2_with fail
  have hbel : ∀ o1 o2, Below w.heap.size w ((w.alloc o1).alloc o2) := fun o1 o2 => ((Below.refl _ _).alloc (Nat.le_refl _) o1).alloc (by simp) o2
  refine (eqTreeS_yes a b m ca cb M T _ (HR.out.1.below (hbel _ _)) (HR.out.2.1.below (hbel _ _)) hm HR.out.2.2).mono ?_
  rintro e w1 ⟨rfl, hb1⟩
  have H1 : Hid (Below w.heap.size w w1) := (hbel _ _).trans (hb1.mono (by simp; omega))
  clear hb1
  go_wp2
  go_ret
  exact ⟨rfl, H1.out⟩

theorem OwnTn.setO {W : World} {B g m : Nat} {N : Nat → Tn} {KA DA : Nat → Option Addr} {KC DC : Nat → Nat} (q : OwnTn W B g m N KA DA KC DC) {p : Addr} (hp : p.block < B) (v : Value) : OwnTn (W.setCell p v) B g m N KA DA KC DC := by
  have hle := q.le
  refine ⟨q.le, q.row.setOther (by omega) _, fun i hi => (q.keys i hi).setOther hp _, fun i hi => ?_, q.apartK, q.apartD⟩
  rcases q.kids i hi with h0 | ⟨g, hA, hg, hr⟩
  · exact Or.inl h0
  · exact Or.inr ⟨g, hA, hg, hr.setOther (by omega) _⟩
/-- A row of trees of the call's own; the first k are there. -/
def OwnIx (w : World) (B g n k : Nat) (M : Nat → Nat) (T : Nat → Nat → Tn) : Prop :=
  g < B ∧ ∃ cur : Array Value, w.heap[g]? = some (.cells cur 59 (0, 0)) ∧ cur.size = n ∧ ∀ i, i < k → ∃ gi KA DA KC DC, cur[i]? = some (.slice (some ⟨gi, 0, none⟩) (M i) (M i)) ∧ OwnTn w B gi (M i) (T i) KA DA KC DC
theorem OwnIx.rd {w : World} {B g n : Nat} {M : Nat → Nat} {T : Nat → Nat → Tn} (h : OwnIx w B g n n M T) : RdIx w (some ⟨g, 0, none⟩) n M T := by
  obtain ⟨_, cur, h1, h2, h3⟩ := h
  refine .inr ⟨g, 0, rfl, fun i hi => ?_⟩
  obtain ⟨gi, KA, DA, KC, DC, q1, q2⟩ := h3 i hi
  exact ⟨some ⟨gi, 0, none⟩, M i, by rw [Nat.zero_add, Bx.cell (show Bx w g 59 cur from h1) i]; exact q1, q2.rd⟩
end Go.Proofs.YtcnollkkigiobaaGreat
