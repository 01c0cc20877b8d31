import Derived.Test.YtfbhlegkpmcfoaaEligB
namespace Go.Proofs.Ytfbhlegkpmcfoaa
open Go.RowKit Go.Deep
set_option linter.unusedVariables false
set_option maxRecDepth 100000

def partOf (a b c d : Int) (i : Nat) : Int := if i = 0 then a else if i = 1 then b else if i = 2 then c else d

set_option maxHeartbeats 1000000 in
theorem l5Part_any (a b c d : Int) (i : Nat) (hi : i < 4) (w : World) :
    Calls Try.prog 21 #[.agg #[.int .i64 a, .int .i64 b, .int .i64 c, .int .i64 d], .int .i64 i] w fun e w' => e = .returned (.int .i64 (partOf a b c d i)) ∧ Below w.heap.size w w' := by
  have h : i = 0 ∨ i = 1 ∨ i = 2 ∨ i = 3 := by omega
  rcases h with rfl | rfl | rfl | rfl
  all_goals
    go_enter Try.func21, Try.ntmps21
    go_wp2
    go_ret
    exact ⟨rfl, below_alloc _ _⟩

/-- What 'l5Order' gives. -/
def OrdRet (w : World) (q : Nat → Nat) (e : Ending) (w' : World) : Prop := ∃ g, e = .returned (.slice (some ⟨g, 0, none⟩) 4 4) ∧ w.heap.size ≤ g ∧ rowIn w' g 3 4 (fun i => .int .i64 (q i)) ∧ Below w.heap.size w w'

def ord0 (i : Nat) : Nat := if i = 0 then 0 else if i = 1 then 1 else if i = 2 then 2 else 3
set_option maxHeartbeats 1000000 in
theorem l5Order_0 (w : World) : Calls Try.prog 20 #[.int .i64 0] w (OrdRet w ord0) := by
  go_enter Try.func20, Try.ntmps20
  go_wp2
  go_ret
  refine ⟨_, rfl, Nat.le_refl _, ⟨_, blk_alloc_new _ _, by simp, fun i hi => ?_⟩, below_alloc _ _⟩
  match i, hi with
  | 0, _ => rfl
  | 1, _ => rfl
  | 2, _ => rfl
  | 3, _ => rfl

def ord1 (i : Nat) : Nat := if i = 0 then 1 else if i = 1 then 2 else if i = 2 then 0 else 3
set_option maxHeartbeats 1000000 in
theorem l5Order_1 (w : World) : Calls Try.prog 20 #[.int .i64 1] w (OrdRet w ord1) := by
  go_enter Try.func20, Try.ntmps20
  go_wp2
  go_ret
  refine ⟨_, rfl, Nat.le_refl _, ⟨_, blk_alloc_new _ _, by simp, fun i hi => ?_⟩, below_alloc _ _⟩
  match i, hi with
  | 0, _ => rfl
  | 1, _ => rfl
  | 2, _ => rfl
  | 3, _ => rfl

def ord2 (i : Nat) : Nat := if i = 0 then 2 else if i = 1 then 0 else if i = 2 then 1 else 3
set_option maxHeartbeats 1000000 in
theorem l5Order_2 (w : World) : Calls Try.prog 20 #[.int .i64 2] w (OrdRet w ord2) := by
  go_enter Try.func20, Try.ntmps20
  go_wp2
  go_ret
  refine ⟨_, rfl, Nat.le_refl _, ⟨_, blk_alloc_new _ _, by simp, fun i hi => ?_⟩, below_alloc _ _⟩
  match i, hi with
  | 0, _ => rfl
  | 1, _ => rfl
  | 2, _ => rfl
  | 3, _ => rfl

def ord3 (i : Nat) : Nat := if i = 0 then 3 else if i = 1 then 0 else if i = 2 then 1 else 2
set_option maxHeartbeats 1000000 in
theorem l5Order_3 (w : World) : Calls Try.prog 20 #[.int .i64 3] w (OrdRet w ord3) := by
  go_enter Try.func20, Try.ntmps20
  go_wp2
  go_ret
  refine ⟨_, rfl, Nat.le_refl _, ⟨_, blk_alloc_new _ _, by simp, fun i hi => ?_⟩, below_alloc _ _⟩
  match i, hi with
  | 0, _ => rfl
  | 1, _ => rfl
  | 2, _ => rfl
  | 3, _ => rfl

def ord4 (i : Nat) : Nat := if i = 0 then 3 else if i = 1 then 1 else if i = 2 then 2 else 0
set_option maxHeartbeats 1000000 in
theorem l5Order_4 (w : World) : Calls Try.prog 20 #[.int .i64 4] w (OrdRet w ord4) := by
  go_enter Try.func20, Try.ntmps20
  go_wp2
  go_ret
  refine ⟨_, rfl, Nat.le_refl _, ⟨_, blk_alloc_new _ _, by simp, fun i hi => ?_⟩, below_alloc _ _⟩
  match i, hi with
  | 0, _ => rfl
  | 1, _ => rfl
  | 2, _ => rfl
  | 3, _ => rfl

def ord5 (i : Nat) : Nat := if i = 0 then 3 else if i = 1 then 2 else if i = 2 then 0 else 1
set_option maxHeartbeats 1000000 in
theorem l5Order_5 (w : World) : Calls Try.prog 20 #[.int .i64 5] w (OrdRet w ord5) := by
  go_enter Try.func20, Try.ntmps20
  go_wp2
  go_ret
  refine ⟨_, rfl, Nat.le_refl _, ⟨_, blk_alloc_new _ _, by simp, fun i hi => ?_⟩, below_alloc _ _⟩
  match i, hi with
  | 0, _ => rfl
  | 1, _ => rfl
  | 2, _ => rfl
  | 3, _ => rfl


/-- The first k parts are in range and no bound one stands behind a free one. -/
def okTo (x : Nat → Int) (k : Nat) : Prop := ∀ q, q < k → (0 ≤ x q ∧ x q ≤ 2000000000) ∧ ∀ r, r < q → x r = 0 → x q = 0
def freeTo (x : Nat → Int) : Nat → Bool
  | 0 => false
  | k + 1 => freeTo x k || x k == 0
theorem freeTo_iff (x : Nat → Int) (k : Nat) : freeTo x k = true ↔ ∃ r, r < k ∧ x r = 0 := by
  induction k with
  | zero => simp [freeTo]
  | succ k ih =>
    simp only [freeTo, Bool.or_eq_true, ih, beq_iff_eq]
    constructor
    · rintro (⟨r, h, e⟩ | e)
      · exact ⟨r, by omega, e⟩
      · exact ⟨k, by omega, e⟩
    · rintro ⟨r, h, e⟩
      by_cases hr : r = k
      · subst hr; exact .inr e
      · exact .inl ⟨r, by omega, e⟩
theorem okTo_succ {x : Nat → Int} {k : Nat} (h : okTo x k) (h1 : 0 ≤ x k) (h2 : x k ≤ 2000000000) (h3 : freeTo x k = true → x k ≤ 0) : okTo x (k + 1) := by
  intro q hq
  by_cases e : q = k
  · subst e
    refine ⟨⟨h1, h2⟩, fun r hr e => ?_⟩
    have := h3 ((freeTo_iff x q).2 ⟨r, hr, e⟩)
    omega
  · exact h q (by omega)

def eligB (x : Nat → Int) : Bool := (List.range 4).all fun q => decide (0 ≤ x q ∧ x q ≤ 2000000000) && (List.range q).all fun r => decide (x r = 0 → x q = 0)
theorem eligB_iff (x : Nat → Int) : eligB x = true ↔ okTo x 4 := by
  unfold eligB okTo
  simp only [List.all_eq_true, List.mem_range, Bool.and_eq_true, decide_eq_true_eq]
theorem eligB_no {x : Nat → Int} {k : Nat} (hk : k < 4) (h : ¬ ((0 ≤ x k ∧ x k ≤ 2000000000) ∧ (freeTo x k = true → x k ≤ 0))) : eligB x = false := by
  cases hc : eligB x with
  | false => rfl
  | true =>
    have o := (eligB_iff x).1 hc k hk
    refine absurd ⟨o.1, fun f => ?_⟩ h
    obtain ⟨r, hr, e⟩ := (freeTo_iff x k).1 f
    have := o.2 r hr e
    omega

set_option maxHeartbeats 2000000 in
theorem specElig_any (perm : Int) (h0 : 0 ≤ perm) (h5 : perm ≤ 5) (a b c d : Int) (q : Nat → Nat) (hq : ∀ i, i < 4 → q i < 4) (HO : ∀ w, Calls Try.prog 20 #[.int .i64 perm] w (OrdRet w q)) (w : World) :
    Calls Try.prog 6 #[.int .i64 perm, .agg #[.int .i64 a, .int .i64 b, .int .i64 c, .int .i64 d]] w fun e w' => e = .returned (.bool (eligB fun i => partOf a b c d (q i))) ∧ Below w.heap.size w w' := by
  have H : Hid (∀ w, Calls Try.prog 20 #[.int .i64 perm] w (OrdRet w q)) := HO
  clear HO
  go_enter Try.func6, Try.ntmps6
  go_wp2_with fail
  refine (H.out _).mono ?_
  rintro e w1 ⟨g, rfl, hg, hrow, hb1⟩
  rw [World.size_alloc] at hg hb1
  have p0 : w1.cell? ⟨w.heap.size, 0, none⟩ = some (.int .i64 a) := (hb1.cell (p := ⟨w.heap.size, 0, none⟩) (by show w.heap.size < w.heap.size + 1; omega)).trans (cellOf (blk_alloc_new _ _) 0)
  have p1 : w1.cell? ⟨w.heap.size, 1, none⟩ = some (.int .i64 b) := (hb1.cell (p := ⟨w.heap.size, 1, none⟩) (by show w.heap.size < w.heap.size + 1; omega)).trans (cellOf (blk_alloc_new _ _) 1)
  have p2 : w1.cell? ⟨w.heap.size, 2, none⟩ = some (.int .i64 c) := (hb1.cell (p := ⟨w.heap.size, 2, none⟩) (by show w.heap.size < w.heap.size + 1; omega)).trans (cellOf (blk_alloc_new _ _) 2)
  have p3 : w1.cell? ⟨w.heap.size, 3, none⟩ = some (.int .i64 d) := (hb1.cell (p := ⟨w.heap.size, 3, none⟩) (by show w.heap.size < w.heap.size + 1; omega)).trans (cellOf (blk_alloc_new _ _) 3)
  have HS : Hid (w.heap.size < w1.heap.size ∧ rowIn w1 g 3 4 (fun i => .int .i64 (q i)) ∧ (w1.cell? ⟨w.heap.size, 0, none⟩ = some (.int .i64 a) ∧ w1.cell? ⟨w.heap.size, 1, none⟩ = some (.int .i64 b) ∧ w1.cell? ⟨w.heap.size, 2, none⟩ = some (.int .i64 c) ∧ w1.cell? ⟨w.heap.size, 3, none⟩ = some (.int .i64 d)) ∧ Below w.heap.size w w1) := ⟨by have := hb1.size; simp at this; omega, hrow, ⟨p0, p1, p2, p3⟩, (below_alloc _ _).trans (hb1.mono (by omega))⟩
  clear hrow p0 p1 p2 p3 hb1
  go_wp2
  go_loopw [6, 7, 8] (fun fr i _ wr => ∃ k : Nat, k ≤ 4 ∧ i = .int .i64 k ∧ fr = .bool (freeTo (fun i => partOf a b c d (q i)) k) ∧ okTo (fun i => partOf a b c d (q i)) k ∧ Below w1.heap.size w1 wr) (fun _ i _ _ => 4 - (intOf i).toNat)
  case atStart => exact ⟨0, by omega, rfl, rfl, fun _ h => absurd h (Nat.not_lt_zero _), Below.refl _ _⟩
  case round =>
    obtain ⟨k, hk, rfl, rfl, hok, hb⟩ := hrel
    have HB : Hid (Below w.heap.size w wr) := HS.out.2.2.2.trans (hb.mono (by have := HS.out.1; omega))
    have HOK : Hid (okTo (fun i => partOf a b c d (q i)) k) := hok
    have HB1 : Hid (Below w1.heap.size w1 wr) := hb
    by_cases hlt : k < 4
    · obtain ⟨zz, hrow, ⟨p0', p1', p2', p3'⟩, bel⟩ := HS.out
      have p0 : wr.cell? ⟨w.heap.size, 0, none⟩ = some (.int .i64 a) := (hb.cell (p := ⟨w.heap.size, 0, none⟩) zz).trans p0'
      have p1 : wr.cell? ⟨w.heap.size, 1, none⟩ = some (.int .i64 b) := (hb.cell (p := ⟨w.heap.size, 1, none⟩) zz).trans p1'
      have p2 : wr.cell? ⟨w.heap.size, 2, none⟩ = some (.int .i64 c) := (hb.cell (p := ⟨w.heap.size, 2, none⟩) zz).trans p2'
      have p3 : wr.cell? ⟨w.heap.size, 3, none⟩ = some (.int .i64 d) := (hb.cell (p := ⟨w.heap.size, 3, none⟩) zz).trans p3'
      have oc : wr.cell? ⟨g, k, none⟩ = some (.int .i64 (q k)) := (hb.cell (p := ⟨g, k, none⟩) hrow.lt).trans (hrow.cell hlt)
      clear p0' p1' p2' p3' bel hrow hok hb
      generalize hX : partOf a b c d (q k) = X
      have HX : Hid (partOf a b c d (q k) = X) := hX
      have HP : Hid (∀ wz, Calls Try.prog 21 #[.agg #[.int .i64 a, .int .i64 b, .int .i64 c, .int .i64 d], .int .i64 (q k)] wz fun e w' => e = .returned (.int .i64 X) ∧ Below wz.heap.size wz w') := fun wz => by rw [← HX.out]; exact l5Part_any a b c d (q k) (hq k hlt) wz
      clear hX
      have hki : (k : Int) < 4 := by omega
      have hk0 : (0 : Int) ≤ k := by omega
      have HC : Hid (∀ w2 : World, Below wr.drew.heap.size wr.drew w2 → w2.cell? ⟨w.heap.size, 0, none⟩ = some (.int .i64 a) ∧ w2.cell? ⟨w.heap.size, 1, none⟩ = some (.int .i64 b) ∧ w2.cell? ⟨w.heap.size, 2, none⟩ = some (.int .i64 c) ∧ w2.cell? ⟨w.heap.size, 3, none⟩ = some (.int .i64 d) ∧ w2.cell? ⟨g, k, none⟩ = some (.int .i64 (q k))) := fun w2 h2 =>
        ⟨(h2.cell (p := ⟨w.heap.size, 0, none⟩) (World.block_lt_of_cell? _ _ p0)).trans p0, (h2.cell (p := ⟨w.heap.size, 1, none⟩) (World.block_lt_of_cell? _ _ p1)).trans p1, (h2.cell (p := ⟨w.heap.size, 2, none⟩) (World.block_lt_of_cell? _ _ p2)).trans p2, (h2.cell (p := ⟨w.heap.size, 3, none⟩) (World.block_lt_of_cell? _ _ p3)).trans p3, (h2.cell (p := ⟨g, k, none⟩) (World.block_lt_of_cell? _ _ oc)).trans oc⟩
      go_wp2
      go_region_held3 (fun w' => w'.cell? ⟨w.heap.size, 0, none⟩ = some (.int .i64 a) ∧ w'.cell? ⟨w.heap.size, 1, none⟩ = some (.int .i64 b) ∧ w'.cell? ⟨w.heap.size, 2, none⟩ = some (.int .i64 c) ∧ w'.cell? ⟨w.heap.size, 3, none⟩ = some (.int .i64 d) ∧ w'.cell? ⟨g, k, none⟩ = some (.int .i64 (q k))) (go_keep)
        (first
        | (go_at_call 21; refine (HP.out wr.drew).mono ?_; rintro e w2 ⟨rfl, hb2⟩; obtain ⟨y0, y1, y2, y3, y4⟩ := HC.out w2 hb2))
      have HB2 : Hid (Below w.heap.size w w2) := HB.out.drew.trans (hb2.mono HB.out.size)
      have HB3 : Hid (Below w1.heap.size w1 w2) := HB1.out.drew.trans (hb2.mono HB1.out.size)
      clear HC hb2 y0 y1 y2 y3 y4 p0 p1 p2 p3 oc
      have bad : ∀ _ : ¬ ((0 ≤ X ∧ X ≤ 2000000000) ∧ (freeTo (fun i => partOf a b c d (q i)) k = true → X ≤ 0)), Hid (eligB (fun i => partOf a b c d (q i)) = false) := fun h => eligB_no hlt (by show ¬ ((0 ≤ partOf a b c d (q k) ∧ partOf a b c d (q k) ≤ 2000000000) ∧ (freeTo (fun i => partOf a b c d (q i)) k = true → partOf a b c d (q k) ≤ 0)); rw [HX.out]; exact h)
      rcases Int.lt_or_le X 0 with h1 | h1
      · have hbad := bad (by omega)
        clear bad
        go_wp2
        go_ret
        exact ⟨by rw [hbad.out]; rfl, HB2.out⟩
      rcases Int.lt_or_le 2000000000 X with h2 | h2
      · have hbad := bad (by omega)
        clear bad
        go_wp2
        go_ret
        exact ⟨by rw [hbad.out]; rfl, HB2.out⟩
      have GO : ∀ _ : (freeTo (fun i => partOf a b c d (q i)) k = true → X ≤ 0), Hid (okTo (fun i => partOf a b c d (q i)) (k + 1)) := fun h => okTo_succ HOK.out (by show 0 ≤ partOf a b c d (q k); rw [HX.out]; omega) (by show partOf a b c d (q k) ≤ 2000000000; rw [HX.out]; omega) (by show _ → partOf a b c d (q k) ≤ 0; rw [HX.out]; exact h)
      have FS : Hid (freeTo (fun i => partOf a b c d (q i)) (k + 1) = (freeTo (fun i => partOf a b c d (q i)) k || X == 0)) := by show _ = _; rw [← HX.out]; rfl
      cases hf : freeTo (fun i => partOf a b c d (q i)) k with
      | true =>
        by_cases h3 : 0 < X
        · have hbad := bad (by intro h; have := h.2 hf; omega)
          clear bad GO FS
          go_wp2
          go_ret
          exact ⟨by rw [hbad.out]; rfl, HB2.out⟩
        · have hg := GO (fun _ => by omega)
          rw [hf] at FS
          clear bad GO
          go_wp2
          go_roundw
          case rel => exact ⟨k + 1, by omega, by go_num, by rw [FS.out]; rfl, hg.out, HB3.out⟩
          case measure => simp [intOf]; omega
      | false =>
        have hg := GO (fun h => by rw [hf] at h; cases h)
        rw [hf] at FS
        clear bad GO
        go_wp2
        go_roundw
        case rel => exact ⟨k + 1, by omega, by go_num, by rw [FS.out]; rfl, hg.out, HB3.out⟩
        case measure => simp [intOf]; omega
    · have e4 : k = 4 := by omega
      subst e4
      clear hb hok
      go_wp2
      go_ret
      refine ⟨?_, HB.out⟩
      rw [(eligB_iff _).2 HOK.out]
      rfl
end Go.Proofs.Ytfbhlegkpmcfoaa
