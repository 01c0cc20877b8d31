import Derived.Test.YtbpcafcipncloaaSecS
import Derived.Test.YtbpcafcipncloaaZeros
import Derived.WalkSpells
namespace Go.Proofs.Ytbpcafcipncloaa
open Go.RowKit Go.Deep
set_option linter.unusedVariables false
set_option maxRecDepth 100000

theorem byteRow_succ (f : Nat → Int) (k : Nat) : byteRow f k ++ [.int .u8 (f k)] = byteRow f (k + 1) := by
  unfold byteRow
  rw [List.range_succ, List.map_append]
  rfl
theorem byteRow_cat (f g : Nat → Int) (n m : Nat) : byteRow f n ++ byteRow g m = byteRow (fun j => if j < n then f j else g (j - n)) (n + m) := by
  apply List.ext_getElem?
  intro i
  by_cases h1 : i < n
  · rw [List.getElem?_append_left (by rw [byteRow_length]; exact h1), byteRow_get _ _ _ h1, byteRow_get _ _ _ (by omega)]
    simp [h1]
  · by_cases h2 : i < n + m
    · rw [List.getElem?_append_right (by rw [byteRow_length]; omega), byteRow_length, byteRow_get _ _ _ (by omega), byteRow_get _ _ _ h2]
      simp [h1]
    · rw [List.getElem?_eq_none (by simp [byteRow_length]; omega), List.getElem?_eq_none (by rw [byteRow_length]; omega)]

theorem byteAt_succ (v : Int) (i : Nat) : byteAt v (i + 1) = byteAt (v / 256) i := by
  unfold byteAt
  rw [Int.pow_succ, Int.mul_comm (256 ^ i) 256, ← Int.ediv_ediv_of_nonneg (by omega)]

theorem shift_byteAt (v : Int) (k : Nat) : v / 256 ^ k / 256 = v / 256 ^ (k + 1) := by
  rw [Int.pow_succ, Int.ediv_ediv_of_nonneg (Int.le_of_lt (Int.pow_pos (by omega)))]

set_option maxHeartbeats 1000000 in
theorem l2Put_any (v : Int) (n : Nat) (w : World) (hv : 0 ≤ v) (hv2 : v ≤ 9223372036854775807) (hn : n ≤ 4) :
    Calls Try.prog 66 #[.int .i64 v, .int .i64 n] w fun e w' => RetOwn w e w' n (byteAt v) := by
  obtain ⟨i0, hi, hz0, hz1, hz2⟩ := info_parts Try.info5
  have HI : Hid (Try.prog.info? 5 = some i0 ∧ i0.zero = some (.int .u8 0) ∧ i0.size = 1 ∧ i0.bytes = 1) := ⟨hi, hz0, hz1, hz2⟩
  clear hi hz0 hz1 hz2
  go_enter Try.func66, Try.ntmps66
  go_wp2
  go_loopw [0, 5, 6] (fun x u i wr => ∃ k : Nat, k ≤ n ∧ i = .int .i64 k ∧ x = .int .i64 (v / 256 ^ k) ∧ wr.ownsRow w.heap.size 5 1 u k (byteRow (byteAt v) k) ∧ Below w.heap.size w wr) (fun _ _ i _ => n - (intOf i).toNat)
  case atStart => exact ⟨0, Nat.zero_le _, rfl, by simp, World.ownsRow_lit w #[] 0 (Nat.le_refl _) (Nat.zero_le _) rfl, (Below.refl _ _).alloc (Nat.le_refl _) _⟩
  case round =>
    obtain ⟨k, hk, rfl, rfl, hown, hbel⟩ := hrel
    have hsz := hbel.size
    have HB : Hid (Below w.heap.size w wr) := hbel
    have HO : Hid (wr.ownsRow w.heap.size 5 1 u5 k (byteRow (byteAt v) k)) := hown
    clear hbel hown
    by_cases hlt : k < n
    · have hx0 : 0 ≤ v / 256 ^ k := Int.ediv_nonneg hv (Int.le_of_lt (Int.pow_pos (by omega)))
      have hx1 : v / 256 ^ k ≤ 9223372036854775807 := Int.le_trans (Int.ediv_le_self _ hv) hv2
      have HX0 : Hid ((v / 256 ^ k) % 256 = byteAt v k ∧ (v / 256 ^ k) / 256 = v / 256 ^ (k + 1)) := ⟨rfl, shift_byteAt v k⟩
      generalize v / 256 ^ k = x at *
      have ht1 : x.tmod 256 = x % 256 := Int.tmod_eq_emod_of_nonneg hx0
      have ht2 : x.tdiv 256 = x / 256 := Int.tdiv_eq_ediv_of_nonneg hx0
      go_wp2_with (at_builtin; refine wpList_append_own _ rfl _ _ 24 rfl w.heap.size 5 i0 (.int .u8 0) 1 1 Try.underlying24 HI.out.1 HI.out.2.1 HI.out.2.2.1 HI.out.2.2.2 rfl (by decide) _ k (byteRow (byteAt v) k) rfl (HO.out.alloc _) ⟨wr.heap.size, 0, none⟩ 1 1 [.int .u8 (x % 256)] rfl rfl ?c1 ?c2 ?c3 ?c4 ?c5 ?_)
      case c1 => exact cell_one_new _ _ _
      case c2 => intro u hu; simp at hu; subst hu; rfl
      case c3 => unfold maxLen; omega
      case c4 => omega
      case c5 => simp; omega
      · intro v' w1 hown' hgrow _
        have HX : Hid (w1.ownsRow w.heap.size 5 1 v' (k + 1) (byteRow (byteAt v) (k + 1)) ∧ Below w.heap.size w w1) :=
          ⟨by rw [← byteRow_succ, ← HX0.out.1]; exact hown', (HB.out.alloc hsz _).grown hgrow (by simp; omega) (fun b e => (HO.out.lt b e).1)⟩
        clear hown' hgrow HO HB
        go_wp2
        go_roundw
        case rel => exact ⟨k + 1, by omega, by go_num, by rw [HX0.out.2], HX.out⟩
        case measure => simp [intOf]; omega
    · have e : k = n := by omega
      subst e
      obtain ⟨a, c, hvv, h1, h2, h3⟩ := ownB_ofRow HO.out
      subst hvv
      have HE : Hid (OwnB wr w.heap.size a k (byteAt v)) := h1
      clear h1 HO
      go_wp2
      go_ret
      exact ⟨a, c, rfl, HE.out, HB.out, h2, h3⟩

/-- Horner's way. -/
def hornN (f : Nat → Int) (n : Nat) : Nat → Int
  | 0 => 0
  | k + 1 => 256 * hornN f n k + f (n - 1 - k)
theorem hornN_range (f : Nat → Int) (n : Nat) (hf : ∀ i, i < n → 0 ≤ f i ∧ f i < 256) : ∀ k, k ≤ n → 0 ≤ hornN f n k ∧ hornN f n k < 256 ^ k
  | 0, _ => by simp [hornN]
  | k + 1, h => by
    have ih := hornN_range f n hf k (by omega)
    have hb := hf (n - 1 - k) (by omega)
    unfold hornN
    rw [Int.pow_succ]
    omega
theorem horn_getN4 (f : Nat → Int) : hornN f 4 4 = getN f 0 4 := by
  simp only [hornN, getN]
  simp
  omega

set_option maxHeartbeats 1000000 in
theorem l2Get_any (a : Option Addr) (n c : Nat) (f : Nat → Int) (w : World) (h : Rd .u8 w a n f) (hf : ∀ i, i < n → 0 ≤ f i ∧ f i < 256) (hn : n ≤ 4) :
    Calls Try.prog 37 #[.slice a n c] w fun e w' => e = .returned (.int .i64 (hornN f n n)) ∧ w' = w := by
  have H : Hid (Rd .u8 w a n f) := h
  have HF : Hid (∀ i, i < n → 0 ≤ f i ∧ f i < 256) := hf
  clear h hf
  go_enter Try.func37, Try.ntmps37
  go_wp2
  go_loop [3, 4] (fun x i => ∃ k : Nat, k ≤ n ∧ i = .int .i64 ((n : Int) - 1 - k) ∧ x = .int .i64 (hornN f n k)) (fun _ i => (intOf i + 1).toNat)
  case atStart => exact ⟨0, Nat.zero_le _, by simp, rfl⟩
  case round =>
    obtain ⟨k, hk, rfl, rfl⟩ := hrel
    by_cases hlt : k < n
    · rcases H.out with h0 | ⟨b, o, ha, hc⟩
      · omega
      subst ha
      obtain ⟨j, hj⟩ : ∃ j : Nat, (n : Int) - 1 - k = j := ⟨n - 1 - k, by omega⟩
      have hjn : j < n := by omega
      have hcx := hc j hjn
      have hb := HF.out j hjn
      have hr := hornN_range f n HF.out k hk
      have HN : Hid (hornN f n (k + 1) = 256 * hornN f n k + f j) := by show 256 * hornN f n k + f (n - 1 - k) = _; rw [show n - 1 - k = j by omega]
      have hr2 : hornN f n k < 16777216 := by
        have h3 := hr.2
        rcases pow_cases (show k < 4 by omega) with ⟨_, _, _, e3⟩ | ⟨_, _, _, e3⟩ | ⟨_, _, _, e3⟩ | ⟨_, _, _, e3⟩ <;> (rw [e3] at h3; omega)
      have HJ : Hid ((n : Int) - 1 - k = j) := hj
      rw [hj]
      clear hc hj
      generalize hornN f n k = x0 at *
      generalize f j = b0 at *
      have hr0 := hr.1
      clear hr
      go_wp2
      go_round
      case rel => exact ⟨k + 1, by omega, by have := HJ.out; go_num, by rw [HN.out]⟩
      case measure => simp [intOf]
    · have e : k = n := by omega
      subst e
      have e2 : (k : Int) - 1 - k = -1 := by omega
      rw [e2]
      go_wp2
      go_ret
      exact ⟨rfl, rfl⟩

/-- Parts, one behind the other. -/
def catL (L : Nat → Nat) : Nat → Nat
  | 0 => 0
  | k + 1 => catL L k + L k
def catF (L : Nat → Nat) (F : Nat → Nat → Int) : Nat → Nat → Int
  | 0 => fun _ => 0
  | k + 1 => fun j => if j < catL L k then catF L F k j else F k (j - catL L k)

/-- A list of lists of bytes that can be read. -/
def RdS (w : World) (b o m : Nat) (L : Nat → Nat) (F : Nat → Nat → Int) : Prop :=
  ∀ i, i < m → ∃ ad cp, w.cell? ⟨b, o + i, none⟩ = some (.slice ad (L i) cp) ∧ Rd .u8 w ad (L i) (F i)
theorem RdS.below {w w' : World} {b o m : Nat} {L : Nat → Nat} {F : Nat → Nat → Int} (h : RdS w b o m L F) (hb : Below w.heap.size w w') : RdS w' b o m L F := fun i hi => by
  obtain ⟨ad, cp, h1, h2⟩ := h i hi
  exact ⟨ad, cp, (hb.cell (p := ⟨b, o + i, none⟩) (World.block_lt_of_cell? _ _ h1)).trans h1, h2.below hb⟩

set_option maxHeartbeats 1000000 in
theorem l2Cat_any (b o m q : Nat) (L : Nat → Nat) (F : Nat → Nat → Int) (w : World) (h : RdS w b o m L F) (hm : m ≤ 1048576) (hl : ∀ k, k ≤ m → catL L k ≤ 1048576) (hL : ∀ k, k < m → L k ≤ 1048576) :
    Calls Try.prog 39 #[.slice (some ⟨b, o, none⟩) m q] w fun e w' => RetOwn w e w' (catL L m) (catF L F m) := by
  have H : Hid (RdS w b o m L F) := h
  have HL : Hid ((∀ k, k ≤ m → catL L k ≤ 1048576) ∧ ∀ k, k < m → L k ≤ 1048576) := ⟨hl, hL⟩
  clear h hl hL
  go_enter Try.func39, Try.ntmps39
  go_wp2
  go_loopw [3, 4] (fun u i wr => ∃ k : Nat, k ≤ m ∧ i = .int .i64 k ∧ wr.ownsRow w.heap.size 5 1 u (catL L k) (byteRow (catF L F k) (catL L k)) ∧ Below w.heap.size w wr) (fun _ i _ => m - (intOf i).toNat)
  case atStart => exact ⟨0, Nat.zero_le _, rfl, World.ownsRow_lit w #[] 0 (Nat.le_refl _) (Nat.zero_le _) rfl, (Below.refl _ _).alloc (Nat.le_refl _) _⟩
  case round =>
    obtain ⟨k, hk, rfl, hown, hbel⟩ := hrel
    have hsz := hbel.size
    have HB : Hid (Below w.heap.size w wr) := hbel
    have HO : Hid (wr.ownsRow w.heap.size 5 1 u3 (catL L k) (byteRow (catF L F k) (catL L k))) := hown
    clear hbel hown
    by_cases hlt : k < m
    · obtain ⟨ad, cp, h1, h2⟩ := H.out.below HB.out k hlt
      have R2 : Hid (Rd .u8 wr ad (L k) (F k)) := h2
      have l1 := HL.out.1 k hk
      have l2 := HL.out.2 k hlt
      clear h2
      go_wp2_with (at_builtin; refine wpList_append_rd rfl _ _ rfl w.heap.size _ (catL L k) (byteRow (catF L F k) (catL L k)) rfl HO.out ad (L k) cp (F k) rfl R2.out (by omega) hsz ?_)
      intro v' w1 hown' hgrow
      have HX : Hid (w1.ownsRow w.heap.size 5 1 v' (catL L (k + 1)) (byteRow (catF L F (k + 1)) (catL L (k + 1))) ∧ Below w.heap.size w w1) :=
        ⟨by show w1.ownsRow w.heap.size 5 1 v' (catL L k + L k) (byteRow (fun j => if j < catL L k then catF L F k j else F k (j - catL L k)) (catL L k + L k)); rw [← byteRow_cat]; exact hown', HB.out.grown hgrow hsz (fun b e => (HO.out.lt b e).1)⟩
      clear hown' hgrow HO HB h1
      go_wp2
      go_roundw
      case rel => exact ⟨k + 1, by omega, by go_num, HX.out⟩
      case measure => simp [intOf]; omega
    · have e : k = m := by omega
      subst e
      obtain ⟨a, c, hvv, h1, h2, h3⟩ := ownB_ofRow HO.out
      subst hvv
      have HE : Hid (OwnB wr w.heap.size a (catL L k) (catF L F k)) := h1
      clear h1 HO
      go_wp2
      go_ret
      exact ⟨a, c, rfl, HE.out, HB.out, h2, h3⟩

set_option maxHeartbeats 400000 in
theorem l2Number_any (x : Int) (w : World) : Calls Try.prog 35 #[.int .i64 x] w fun e w' => e = .returned (.bool (numB x)) ∧ w' = w := by
  by_cases h1 : 1 ≤ x
  · have HE : Hid (numB x = decide (x ≤ 2000000000)) := by show _ = _; unfold numB; rw [decide_eq_true h1]; rfl
    go_enter Try.func35, Try.ntmps35
    go_wp2
    go_ret
    exact ⟨by rw [HE.out]; rfl, rfl⟩
  · have HE : Hid (numB x = false) := by show _ = _; unfold numB; rw [decide_eq_false h1]; rfl
    go_enter Try.func35, Try.ntmps35
    go_wp2
    go_ret
    exact ⟨by rw [HE.out]; rfl, rfl⟩

end Go.Proofs.Ytbpcafcipncloaa
