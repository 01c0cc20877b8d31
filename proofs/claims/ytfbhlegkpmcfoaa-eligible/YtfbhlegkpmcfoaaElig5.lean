import Derived.Test.YtfbhlegkpmcfoaaEligE
import Derived.Test.YtfbhlegkpmcfoaaLead1
import Derived.Test.YtfbhlegkpmcfoaaLead2
import Derived.Test.YtfbhlegkpmcfoaaLead3
import Derived.Test.YtfbhlegkpmcfoaaLead4
import Derived.Test.YtfbhlegkpmcfoaaLead5
import Derived.Test.YtfbhlegkpmcfoaaLead6
namespace Go.Proofs.Ytfbhlegkpmcfoaa
open Go.RowKit Go.Deep
set_option linter.unusedVariables false
set_option maxRecDepth 100000


theorem eligAt_0 (a b c d : Int) : eligB (fun i => partOf a b c d (ord0 i)) = (freeB a && freeB b && freeB c && freeB d && decide (a = 0 → b = 0 ∧ c = 0 ∧ d = 0) && decide (b = 0 → c = 0 ∧ d = 0) && decide (c = 0 → d = 0)) := by
  rw [Bool.eq_iff_iff, eligB_iff]
  simp only [Bool.and_eq_true, freeB, decide_eq_true_eq]
  constructor
  · intro h
    have h0 := h 0 (by omega)
    have h1 := h 1 (by omega)
    have h2 := h 2 (by omega)
    have h3 := h 3 (by omega)
    have h10 := h1.2 0 (by omega)
    have h20 := h2.2 0 (by omega)
    have h21 := h2.2 1 (by omega)
    have h30 := h3.2 0 (by omega)
    have h31 := h3.2 1 (by omega)
    have h32 := h3.2 2 (by omega)
    replace h0 := h0.1
    replace h1 := h1.1
    replace h2 := h2.1
    replace h3 := h3.1
    simp [ord0, partOf] at h0 h1 h2 h3 h10 h20 h21 h30 h31 h32
    omega
  · rintro h q hq
    have hq4 : q = 0 ∨ q = 1 ∨ q = 2 ∨ q = 3 := by omega
    rcases hq4 with rfl | rfl | rfl | rfl
    all_goals
      refine ⟨by simp [ord0, partOf]; omega, fun r hr => ?_⟩
      have hr4 : r = 0 ∨ r = 1 ∨ r = 2 := by omega
      rcases hr4 with rfl | rfl | rfl <;> simp [ord0, partOf] at hr ⊢ <;> omega

set_option maxHeartbeats 1000000 in
theorem implElig_0 (a b c d : Int) (w : World) :
    Calls Try.prog 8 #[.int .i64 0, .agg #[.int .i64 a, .int .i64 b, .int .i64 c, .int .i64 d]] w fun e w' => e = .returned (.bool (eligB fun i => partOf a b c d (ord0 i))) ∧ Below w.heap.size w w' := by
  cases hp : (freeB a && freeB b && freeB c && freeB d) with
  | false =>
    go_enter Try.func8, Try.ntmps8
    go_wp2_with (first
      | (go_at_call 22; refine (isPattern_any a b c d _).mono ?_; rintro e w1 ⟨rfl, hb1⟩; rw [hp])
      | fail)
    rw [World.size_alloc] at hb1
    refine bodyPost_ret (v := .bool false) (by simp [results, Try.results8, go_sem]) rfl ⟨?_, (below_alloc _ _).trans (hb1.mono (by omega))⟩
    rw [eligAt_0, hp]
    rfl
  | true =>
    go_enter Try.func8, Try.ntmps8
    go_wp2_with fail
    refine (isPattern_any a b c d _).mono ?_
    rintro e w1 ⟨rfl, hb1⟩
    rw [hp]
    rw [World.size_alloc] at hb1
    have p0 : w1.cell? ⟨w.heap.size, 0, none⟩ = some (.int .i64 a) := (hb1.cell (p := ⟨w.heap.size, 0, none⟩) (by show w.heap.size < w.heap.size + 1; omega)).trans (cellOf (blk_alloc_new _ _) 0)
    have p1 : w1.cell? ⟨w.heap.size, 1, none⟩ = some (.int .i64 b) := (hb1.cell (p := ⟨w.heap.size, 1, none⟩) (by show w.heap.size < w.heap.size + 1; omega)).trans (cellOf (blk_alloc_new _ _) 1)
    have p2 : w1.cell? ⟨w.heap.size, 2, none⟩ = some (.int .i64 c) := (hb1.cell (p := ⟨w.heap.size, 2, none⟩) (by show w.heap.size < w.heap.size + 1; omega)).trans (cellOf (blk_alloc_new _ _) 2)
    have p3 : w1.cell? ⟨w.heap.size, 3, none⟩ = some (.int .i64 d) := (hb1.cell (p := ⟨w.heap.size, 3, none⟩) (by show w.heap.size < w.heap.size + 1; omega)).trans (cellOf (blk_alloc_new _ _) 3)
    have HC : Hid (∀ wx w2 : World, Below wx.heap.size wx w2 → (wx.cell? ⟨w.heap.size, 0, none⟩ = some (.int .i64 a) ∧ wx.cell? ⟨w.heap.size, 1, none⟩ = some (.int .i64 b) ∧ wx.cell? ⟨w.heap.size, 2, none⟩ = some (.int .i64 c) ∧ wx.cell? ⟨w.heap.size, 3, none⟩ = some (.int .i64 d)) → w2.cell? ⟨w.heap.size, 0, none⟩ = some (.int .i64 a) ∧ w2.cell? ⟨w.heap.size, 1, none⟩ = some (.int .i64 b) ∧ w2.cell? ⟨w.heap.size, 2, none⟩ = some (.int .i64 c) ∧ w2.cell? ⟨w.heap.size, 3, none⟩ = some (.int .i64 d)) := fun wx w2 h2 h =>
      ⟨(h2.cell (p := ⟨w.heap.size, 0, none⟩) (World.block_lt_of_cell? _ _ h.1)).trans h.1, (h2.cell (p := ⟨w.heap.size, 1, none⟩) (World.block_lt_of_cell? _ _ h.2.1)).trans h.2.1, (h2.cell (p := ⟨w.heap.size, 2, none⟩) (World.block_lt_of_cell? _ _ h.2.2.1)).trans h.2.2.1, (h2.cell (p := ⟨w.heap.size, 3, none⟩) (World.block_lt_of_cell? _ _ h.2.2.2)).trans h.2.2.2⟩
    have HB1 : Hid (Below w.heap.size w w1) := (below_alloc _ _).trans (hb1.mono (by omega))
    clear hb1
    have hix := idx_0
    obtain ⟨l0, l1, l2, l3, e0, e1, e2, e3⟩ : ∃ l0 l1 l2 l3 : Int, l0 = (a) ∧ l1 = (if a = 0 then 0 else b) ∧ l2 = (if a = 0 ∨ b = 0 then 0 else c) ∧ l3 = (if a = 0 ∨ b = 0 ∨ c = 0 then 0 else d) := ⟨_, _, _, _, rfl, rfl, rfl, rfl⟩
    have HL : Hid (∀ wz, Calls Try.prog 24 #[.func (.func 52) #[] #[], .agg #[.int .i64 a, .int .i64 b, .int .i64 c, .int .i64 d]] wz fun e w' => e = .returned (.agg #[.int .i64 l0, .int .i64 l1, .int .i64 l2, .int .i64 l3]) ∧ Below wz.heap.size wz w') := fun wz => by rw [e0, e1, e2, e3]; exact lead_1 a b c d wz
    have HE : Hid (l0 = (a) ∧ l1 = (if a = 0 then 0 else b) ∧ l2 = (if a = 0 ∨ b = 0 then 0 else c) ∧ l3 = (if a = 0 ∨ b = 0 ∨ c = 0 then 0 else d)) := ⟨e0, e1, e2, e3⟩
    clear e0 e1 e2 e3
    have heq := eqQ l0 l1 l2 l3 a b c d
    go_wp2
    go_region_held3 (fun w' => w'.cell? ⟨w.heap.size, 0, none⟩ = some (.int .i64 a) ∧ w'.cell? ⟨w.heap.size, 1, none⟩ = some (.int .i64 b) ∧ w'.cell? ⟨w.heap.size, 2, none⟩ = some (.int .i64 c) ∧ w'.cell? ⟨w.heap.size, 3, none⟩ = some (.int .i64 d)) (go_keep)
      (first
      | (go_at_call 23; refine (orders_any w1.drew).mono ?_; rintro e w2 ⟨rfl, hb2⟩; obtain ⟨y0, y1, y2, y3⟩ := HC.out _ w2 hb2 ⟨p0, p1, p2, p3⟩)
      | (go_at_call 24; refine (HL.out w2).mono ?_; rintro e w3 ⟨rfl, hb3⟩; obtain ⟨x0, x1, x2, x3⟩ := HC.out _ w3 hb3 ⟨y0, y1, y2, y3⟩))
    have HB3 : Hid (Below w.heap.size w w3) := (HB1.out.drew.trans (hb2.mono HB1.out.size)).trans (hb3.mono (Nat.le_trans HB1.out.size hb2.size))
    clear HC hb2 hb3 hix heq
    go_wp2
    go_ret
    refine ⟨?_, HB3.out⟩
    rw [eligAt_0, hp]
    show Ending.returned (Value.bool _) = Ending.returned (Value.bool _)
    congr 2
    rw [Bool.eq_iff_iff]
    obtain ⟨e0, e1, e2, e3⟩ := HE.out
    simp only [Bool.and_eq_true, beq_iff_eq, decide_eq_true_eq, true_and]
    rw [e0, e1, e2, e3]
    by_cases hz0 : a = 0 <;> by_cases hz1 : b = 0 <;> by_cases hz2 : c = 0 <;> simp [hz0, hz1, hz2] <;> omega


theorem eligAt_1 (a b c d : Int) : eligB (fun i => partOf a b c d (ord1 i)) = (freeB a && freeB b && freeB c && freeB d && decide (b = 0 → c = 0 ∧ a = 0 ∧ d = 0) && decide (c = 0 → a = 0 ∧ d = 0) && decide (a = 0 → d = 0)) := by
  rw [Bool.eq_iff_iff, eligB_iff]
  simp only [Bool.and_eq_true, freeB, decide_eq_true_eq]
  constructor
  · intro h
    have h0 := h 0 (by omega)
    have h1 := h 1 (by omega)
    have h2 := h 2 (by omega)
    have h3 := h 3 (by omega)
    have h10 := h1.2 0 (by omega)
    have h20 := h2.2 0 (by omega)
    have h21 := h2.2 1 (by omega)
    have h30 := h3.2 0 (by omega)
    have h31 := h3.2 1 (by omega)
    have h32 := h3.2 2 (by omega)
    replace h0 := h0.1
    replace h1 := h1.1
    replace h2 := h2.1
    replace h3 := h3.1
    simp [ord1, partOf] at h0 h1 h2 h3 h10 h20 h21 h30 h31 h32
    omega
  · rintro h q hq
    have hq4 : q = 0 ∨ q = 1 ∨ q = 2 ∨ q = 3 := by omega
    rcases hq4 with rfl | rfl | rfl | rfl
    all_goals
      refine ⟨by simp [ord1, partOf]; omega, fun r hr => ?_⟩
      have hr4 : r = 0 ∨ r = 1 ∨ r = 2 := by omega
      rcases hr4 with rfl | rfl | rfl <;> simp [ord1, partOf] at hr ⊢ <;> omega

set_option maxHeartbeats 1000000 in
theorem implElig_1 (a b c d : Int) (w : World) :
    Calls Try.prog 8 #[.int .i64 1, .agg #[.int .i64 a, .int .i64 b, .int .i64 c, .int .i64 d]] w fun e w' => e = .returned (.bool (eligB fun i => partOf a b c d (ord1 i))) ∧ Below w.heap.size w w' := by
  cases hp : (freeB a && freeB b && freeB c && freeB d) with
  | false =>
    go_enter Try.func8, Try.ntmps8
    go_wp2_with (first
      | (go_at_call 22; refine (isPattern_any a b c d _).mono ?_; rintro e w1 ⟨rfl, hb1⟩; rw [hp])
      | fail)
    rw [World.size_alloc] at hb1
    refine bodyPost_ret (v := .bool false) (by simp [results, Try.results8, go_sem]) rfl ⟨?_, (below_alloc _ _).trans (hb1.mono (by omega))⟩
    rw [eligAt_1, hp]
    rfl
  | true =>
    go_enter Try.func8, Try.ntmps8
    go_wp2_with fail
    refine (isPattern_any a b c d _).mono ?_
    rintro e w1 ⟨rfl, hb1⟩
    rw [hp]
    rw [World.size_alloc] at hb1
    have p0 : w1.cell? ⟨w.heap.size, 0, none⟩ = some (.int .i64 a) := (hb1.cell (p := ⟨w.heap.size, 0, none⟩) (by show w.heap.size < w.heap.size + 1; omega)).trans (cellOf (blk_alloc_new _ _) 0)
    have p1 : w1.cell? ⟨w.heap.size, 1, none⟩ = some (.int .i64 b) := (hb1.cell (p := ⟨w.heap.size, 1, none⟩) (by show w.heap.size < w.heap.size + 1; omega)).trans (cellOf (blk_alloc_new _ _) 1)
    have p2 : w1.cell? ⟨w.heap.size, 2, none⟩ = some (.int .i64 c) := (hb1.cell (p := ⟨w.heap.size, 2, none⟩) (by show w.heap.size < w.heap.size + 1; omega)).trans (cellOf (blk_alloc_new _ _) 2)
    have p3 : w1.cell? ⟨w.heap.size, 3, none⟩ = some (.int .i64 d) := (hb1.cell (p := ⟨w.heap.size, 3, none⟩) (by show w.heap.size < w.heap.size + 1; omega)).trans (cellOf (blk_alloc_new _ _) 3)
    have HC : Hid (∀ wx w2 : World, Below wx.heap.size wx w2 → (wx.cell? ⟨w.heap.size, 0, none⟩ = some (.int .i64 a) ∧ wx.cell? ⟨w.heap.size, 1, none⟩ = some (.int .i64 b) ∧ wx.cell? ⟨w.heap.size, 2, none⟩ = some (.int .i64 c) ∧ wx.cell? ⟨w.heap.size, 3, none⟩ = some (.int .i64 d)) → w2.cell? ⟨w.heap.size, 0, none⟩ = some (.int .i64 a) ∧ w2.cell? ⟨w.heap.size, 1, none⟩ = some (.int .i64 b) ∧ w2.cell? ⟨w.heap.size, 2, none⟩ = some (.int .i64 c) ∧ w2.cell? ⟨w.heap.size, 3, none⟩ = some (.int .i64 d)) := fun wx w2 h2 h =>
      ⟨(h2.cell (p := ⟨w.heap.size, 0, none⟩) (World.block_lt_of_cell? _ _ h.1)).trans h.1, (h2.cell (p := ⟨w.heap.size, 1, none⟩) (World.block_lt_of_cell? _ _ h.2.1)).trans h.2.1, (h2.cell (p := ⟨w.heap.size, 2, none⟩) (World.block_lt_of_cell? _ _ h.2.2.1)).trans h.2.2.1, (h2.cell (p := ⟨w.heap.size, 3, none⟩) (World.block_lt_of_cell? _ _ h.2.2.2)).trans h.2.2.2⟩
    have HB1 : Hid (Below w.heap.size w w1) := (below_alloc _ _).trans (hb1.mono (by omega))
    clear hb1
    have hix := idx_1
    obtain ⟨l0, l1, l2, l3, e0, e1, e2, e3⟩ : ∃ l0 l1 l2 l3 : Int, l0 = (if b = 0 ∨ c = 0 then 0 else a) ∧ l1 = (b) ∧ l2 = (if b = 0 then 0 else c) ∧ l3 = (if b = 0 ∨ c = 0 ∨ a = 0 then 0 else d) := ⟨_, _, _, _, rfl, rfl, rfl, rfl⟩
    have HL : Hid (∀ wz, Calls Try.prog 24 #[.func (.func 53) #[] #[], .agg #[.int .i64 a, .int .i64 b, .int .i64 c, .int .i64 d]] wz fun e w' => e = .returned (.agg #[.int .i64 l0, .int .i64 l1, .int .i64 l2, .int .i64 l3]) ∧ Below wz.heap.size wz w') := fun wz => by rw [e0, e1, e2, e3]; exact lead_2 a b c d wz
    have HE : Hid (l0 = (if b = 0 ∨ c = 0 then 0 else a) ∧ l1 = (b) ∧ l2 = (if b = 0 then 0 else c) ∧ l3 = (if b = 0 ∨ c = 0 ∨ a = 0 then 0 else d)) := ⟨e0, e1, e2, e3⟩
    clear e0 e1 e2 e3
    have heq := eqQ l0 l1 l2 l3 a b c d
    go_wp2
    go_region_held3 (fun w' => w'.cell? ⟨w.heap.size, 0, none⟩ = some (.int .i64 a) ∧ w'.cell? ⟨w.heap.size, 1, none⟩ = some (.int .i64 b) ∧ w'.cell? ⟨w.heap.size, 2, none⟩ = some (.int .i64 c) ∧ w'.cell? ⟨w.heap.size, 3, none⟩ = some (.int .i64 d)) (go_keep)
      (first
      | (go_at_call 23; refine (orders_any w1.drew).mono ?_; rintro e w2 ⟨rfl, hb2⟩; obtain ⟨y0, y1, y2, y3⟩ := HC.out _ w2 hb2 ⟨p0, p1, p2, p3⟩)
      | (go_at_call 24; refine (HL.out w2).mono ?_; rintro e w3 ⟨rfl, hb3⟩; obtain ⟨x0, x1, x2, x3⟩ := HC.out _ w3 hb3 ⟨y0, y1, y2, y3⟩))
    have HB3 : Hid (Below w.heap.size w w3) := (HB1.out.drew.trans (hb2.mono HB1.out.size)).trans (hb3.mono (Nat.le_trans HB1.out.size hb2.size))
    clear HC hb2 hb3 hix heq
    go_wp2
    go_ret
    refine ⟨?_, HB3.out⟩
    rw [eligAt_1, hp]
    show Ending.returned (Value.bool _) = Ending.returned (Value.bool _)
    congr 2
    rw [Bool.eq_iff_iff]
    obtain ⟨e0, e1, e2, e3⟩ := HE.out
    simp only [Bool.and_eq_true, beq_iff_eq, decide_eq_true_eq, true_and]
    rw [e0, e1, e2, e3]
    by_cases hz0 : b = 0 <;> by_cases hz1 : c = 0 <;> by_cases hz2 : a = 0 <;> simp [hz0, hz1, hz2] <;> omega


theorem eligAt_2 (a b c d : Int) : eligB (fun i => partOf a b c d (ord2 i)) = (freeB a && freeB b && freeB c && freeB d && decide (c = 0 → a = 0 ∧ b = 0 ∧ d = 0) && decide (a = 0 → b = 0 ∧ d = 0) && decide (b = 0 → d = 0)) := by
  rw [Bool.eq_iff_iff, eligB_iff]
  simp only [Bool.and_eq_true, freeB, decide_eq_true_eq]
  constructor
  · intro h
    have h0 := h 0 (by omega)
    have h1 := h 1 (by omega)
    have h2 := h 2 (by omega)
    have h3 := h 3 (by omega)
    have h10 := h1.2 0 (by omega)
    have h20 := h2.2 0 (by omega)
    have h21 := h2.2 1 (by omega)
    have h30 := h3.2 0 (by omega)
    have h31 := h3.2 1 (by omega)
    have h32 := h3.2 2 (by omega)
    replace h0 := h0.1
    replace h1 := h1.1
    replace h2 := h2.1
    replace h3 := h3.1
    simp [ord2, partOf] at h0 h1 h2 h3 h10 h20 h21 h30 h31 h32
    omega
  · rintro h q hq
    have hq4 : q = 0 ∨ q = 1 ∨ q = 2 ∨ q = 3 := by omega
    rcases hq4 with rfl | rfl | rfl | rfl
    all_goals
      refine ⟨by simp [ord2, partOf]; omega, fun r hr => ?_⟩
      have hr4 : r = 0 ∨ r = 1 ∨ r = 2 := by omega
      rcases hr4 with rfl | rfl | rfl <;> simp [ord2, partOf] at hr ⊢ <;> omega

set_option maxHeartbeats 1000000 in
theorem implElig_2 (a b c d : Int) (w : World) :
    Calls Try.prog 8 #[.int .i64 2, .agg #[.int .i64 a, .int .i64 b, .int .i64 c, .int .i64 d]] w fun e w' => e = .returned (.bool (eligB fun i => partOf a b c d (ord2 i))) ∧ Below w.heap.size w w' := by
  cases hp : (freeB a && freeB b && freeB c && freeB d) with
  | false =>
    go_enter Try.func8, Try.ntmps8
    go_wp2_with (first
      | (go_at_call 22; refine (isPattern_any a b c d _).mono ?_; rintro e w1 ⟨rfl, hb1⟩; rw [hp])
      | fail)
    rw [World.size_alloc] at hb1
    refine bodyPost_ret (v := .bool false) (by simp [results, Try.results8, go_sem]) rfl ⟨?_, (below_alloc _ _).trans (hb1.mono (by omega))⟩
    rw [eligAt_2, hp]
    rfl
  | true =>
    go_enter Try.func8, Try.ntmps8
    go_wp2_with fail
    refine (isPattern_any a b c d _).mono ?_
    rintro e w1 ⟨rfl, hb1⟩
    rw [hp]
    rw [World.size_alloc] at hb1
    have p0 : w1.cell? ⟨w.heap.size, 0, none⟩ = some (.int .i64 a) := (hb1.cell (p := ⟨w.heap.size, 0, none⟩) (by show w.heap.size < w.heap.size + 1; omega)).trans (cellOf (blk_alloc_new _ _) 0)
    have p1 : w1.cell? ⟨w.heap.size, 1, none⟩ = some (.int .i64 b) := (hb1.cell (p := ⟨w.heap.size, 1, none⟩) (by show w.heap.size < w.heap.size + 1; omega)).trans (cellOf (blk_alloc_new _ _) 1)
    have p2 : w1.cell? ⟨w.heap.size, 2, none⟩ = some (.int .i64 c) := (hb1.cell (p := ⟨w.heap.size, 2, none⟩) (by show w.heap.size < w.heap.size + 1; omega)).trans (cellOf (blk_alloc_new _ _) 2)
    have p3 : w1.cell? ⟨w.heap.size, 3, none⟩ = some (.int .i64 d) := (hb1.cell (p := ⟨w.heap.size, 3, none⟩) (by show w.heap.size < w.heap.size + 1; omega)).trans (cellOf (blk_alloc_new _ _) 3)
    have HC : Hid (∀ wx w2 : World, Below wx.heap.size wx w2 → (wx.cell? ⟨w.heap.size, 0, none⟩ = some (.int .i64 a) ∧ wx.cell? ⟨w.heap.size, 1, none⟩ = some (.int .i64 b) ∧ wx.cell? ⟨w.heap.size, 2, none⟩ = some (.int .i64 c) ∧ wx.cell? ⟨w.heap.size, 3, none⟩ = some (.int .i64 d)) → w2.cell? ⟨w.heap.size, 0, none⟩ = some (.int .i64 a) ∧ w2.cell? ⟨w.heap.size, 1, none⟩ = some (.int .i64 b) ∧ w2.cell? ⟨w.heap.size, 2, none⟩ = some (.int .i64 c) ∧ w2.cell? ⟨w.heap.size, 3, none⟩ = some (.int .i64 d)) := fun wx w2 h2 h =>
      ⟨(h2.cell (p := ⟨w.heap.size, 0, none⟩) (World.block_lt_of_cell? _ _ h.1)).trans h.1, (h2.cell (p := ⟨w.heap.size, 1, none⟩) (World.block_lt_of_cell? _ _ h.2.1)).trans h.2.1, (h2.cell (p := ⟨w.heap.size, 2, none⟩) (World.block_lt_of_cell? _ _ h.2.2.1)).trans h.2.2.1, (h2.cell (p := ⟨w.heap.size, 3, none⟩) (World.block_lt_of_cell? _ _ h.2.2.2)).trans h.2.2.2⟩
    have HB1 : Hid (Below w.heap.size w w1) := (below_alloc _ _).trans (hb1.mono (by omega))
    clear hb1
    have hix := idx_2
    obtain ⟨l0, l1, l2, l3, e0, e1, e2, e3⟩ : ∃ l0 l1 l2 l3 : Int, l0 = (if c = 0 then 0 else a) ∧ l1 = (if c = 0 ∨ a = 0 then 0 else b) ∧ l2 = (c) ∧ l3 = (if c = 0 ∨ a = 0 ∨ b = 0 then 0 else d) := ⟨_, _, _, _, rfl, rfl, rfl, rfl⟩
    have HL : Hid (∀ wz, Calls Try.prog 24 #[.func (.func 54) #[] #[], .agg #[.int .i64 a, .int .i64 b, .int .i64 c, .int .i64 d]] wz fun e w' => e = .returned (.agg #[.int .i64 l0, .int .i64 l1, .int .i64 l2, .int .i64 l3]) ∧ Below wz.heap.size wz w') := fun wz => by rw [e0, e1, e2, e3]; exact lead_3 a b c d wz
    have HE : Hid (l0 = (if c = 0 then 0 else a) ∧ l1 = (if c = 0 ∨ a = 0 then 0 else b) ∧ l2 = (c) ∧ l3 = (if c = 0 ∨ a = 0 ∨ b = 0 then 0 else d)) := ⟨e0, e1, e2, e3⟩
    clear e0 e1 e2 e3
    have heq := eqQ l0 l1 l2 l3 a b c d
    go_wp2
    go_region_held3 (fun w' => w'.cell? ⟨w.heap.size, 0, none⟩ = some (.int .i64 a) ∧ w'.cell? ⟨w.heap.size, 1, none⟩ = some (.int .i64 b) ∧ w'.cell? ⟨w.heap.size, 2, none⟩ = some (.int .i64 c) ∧ w'.cell? ⟨w.heap.size, 3, none⟩ = some (.int .i64 d)) (go_keep)
      (first
      | (go_at_call 23; refine (orders_any w1.drew).mono ?_; rintro e w2 ⟨rfl, hb2⟩; obtain ⟨y0, y1, y2, y3⟩ := HC.out _ w2 hb2 ⟨p0, p1, p2, p3⟩)
      | (go_at_call 24; refine (HL.out w2).mono ?_; rintro e w3 ⟨rfl, hb3⟩; obtain ⟨x0, x1, x2, x3⟩ := HC.out _ w3 hb3 ⟨y0, y1, y2, y3⟩))
    have HB3 : Hid (Below w.heap.size w w3) := (HB1.out.drew.trans (hb2.mono HB1.out.size)).trans (hb3.mono (Nat.le_trans HB1.out.size hb2.size))
    clear HC hb2 hb3 hix heq
    go_wp2
    go_ret
    refine ⟨?_, HB3.out⟩
    rw [eligAt_2, hp]
    show Ending.returned (Value.bool _) = Ending.returned (Value.bool _)
    congr 2
    rw [Bool.eq_iff_iff]
    obtain ⟨e0, e1, e2, e3⟩ := HE.out
    simp only [Bool.and_eq_true, beq_iff_eq, decide_eq_true_eq, true_and]
    rw [e0, e1, e2, e3]
    by_cases hz0 : c = 0 <;> by_cases hz1 : a = 0 <;> by_cases hz2 : b = 0 <;> simp [hz0, hz1, hz2] <;> omega


theorem eligAt_3 (a b c d : Int) : eligB (fun i => partOf a b c d (ord3 i)) = (freeB a && freeB b && freeB c && freeB d && decide (d = 0 → a = 0 ∧ b = 0 ∧ c = 0) && decide (a = 0 → b = 0 ∧ c = 0) && decide (b = 0 → c = 0)) := by
  rw [Bool.eq_iff_iff, eligB_iff]
  simp only [Bool.and_eq_true, freeB, decide_eq_true_eq]
  constructor
  · intro h
    have h0 := h 0 (by omega)
    have h1 := h 1 (by omega)
    have h2 := h 2 (by omega)
    have h3 := h 3 (by omega)
    have h10 := h1.2 0 (by omega)
    have h20 := h2.2 0 (by omega)
    have h21 := h2.2 1 (by omega)
    have h30 := h3.2 0 (by omega)
    have h31 := h3.2 1 (by omega)
    have h32 := h3.2 2 (by omega)
    replace h0 := h0.1
    replace h1 := h1.1
    replace h2 := h2.1
    replace h3 := h3.1
    simp [ord3, partOf] at h0 h1 h2 h3 h10 h20 h21 h30 h31 h32
    omega
  · rintro h q hq
    have hq4 : q = 0 ∨ q = 1 ∨ q = 2 ∨ q = 3 := by omega
    rcases hq4 with rfl | rfl | rfl | rfl
    all_goals
      refine ⟨by simp [ord3, partOf]; omega, fun r hr => ?_⟩
      have hr4 : r = 0 ∨ r = 1 ∨ r = 2 := by omega
      rcases hr4 with rfl | rfl | rfl <;> simp [ord3, partOf] at hr ⊢ <;> omega

set_option maxHeartbeats 1000000 in
theorem implElig_3 (a b c d : Int) (w : World) :
    Calls Try.prog 8 #[.int .i64 3, .agg #[.int .i64 a, .int .i64 b, .int .i64 c, .int .i64 d]] w fun e w' => e = .returned (.bool (eligB fun i => partOf a b c d (ord3 i))) ∧ Below w.heap.size w w' := by
  cases hp : (freeB a && freeB b && freeB c && freeB d) with
  | false =>
    go_enter Try.func8, Try.ntmps8
    go_wp2_with (first
      | (go_at_call 22; refine (isPattern_any a b c d _).mono ?_; rintro e w1 ⟨rfl, hb1⟩; rw [hp])
      | fail)
    rw [World.size_alloc] at hb1
    refine bodyPost_ret (v := .bool false) (by simp [results, Try.results8, go_sem]) rfl ⟨?_, (below_alloc _ _).trans (hb1.mono (by omega))⟩
    rw [eligAt_3, hp]
    rfl
  | true =>
    go_enter Try.func8, Try.ntmps8
    go_wp2_with fail
    refine (isPattern_any a b c d _).mono ?_
    rintro e w1 ⟨rfl, hb1⟩
    rw [hp]
    rw [World.size_alloc] at hb1
    have p0 : w1.cell? ⟨w.heap.size, 0, none⟩ = some (.int .i64 a) := (hb1.cell (p := ⟨w.heap.size, 0, none⟩) (by show w.heap.size < w.heap.size + 1; omega)).trans (cellOf (blk_alloc_new _ _) 0)
    have p1 : w1.cell? ⟨w.heap.size, 1, none⟩ = some (.int .i64 b) := (hb1.cell (p := ⟨w.heap.size, 1, none⟩) (by show w.heap.size < w.heap.size + 1; omega)).trans (cellOf (blk_alloc_new _ _) 1)
    have p2 : w1.cell? ⟨w.heap.size, 2, none⟩ = some (.int .i64 c) := (hb1.cell (p := ⟨w.heap.size, 2, none⟩) (by show w.heap.size < w.heap.size + 1; omega)).trans (cellOf (blk_alloc_new _ _) 2)
    have p3 : w1.cell? ⟨w.heap.size, 3, none⟩ = some (.int .i64 d) := (hb1.cell (p := ⟨w.heap.size, 3, none⟩) (by show w.heap.size < w.heap.size + 1; omega)).trans (cellOf (blk_alloc_new _ _) 3)
    have HC : Hid (∀ wx w2 : World, Below wx.heap.size wx w2 → (wx.cell? ⟨w.heap.size, 0, none⟩ = some (.int .i64 a) ∧ wx.cell? ⟨w.heap.size, 1, none⟩ = some (.int .i64 b) ∧ wx.cell? ⟨w.heap.size, 2, none⟩ = some (.int .i64 c) ∧ wx.cell? ⟨w.heap.size, 3, none⟩ = some (.int .i64 d)) → w2.cell? ⟨w.heap.size, 0, none⟩ = some (.int .i64 a) ∧ w2.cell? ⟨w.heap.size, 1, none⟩ = some (.int .i64 b) ∧ w2.cell? ⟨w.heap.size, 2, none⟩ = some (.int .i64 c) ∧ w2.cell? ⟨w.heap.size, 3, none⟩ = some (.int .i64 d)) := fun wx w2 h2 h =>
      ⟨(h2.cell (p := ⟨w.heap.size, 0, none⟩) (World.block_lt_of_cell? _ _ h.1)).trans h.1, (h2.cell (p := ⟨w.heap.size, 1, none⟩) (World.block_lt_of_cell? _ _ h.2.1)).trans h.2.1, (h2.cell (p := ⟨w.heap.size, 2, none⟩) (World.block_lt_of_cell? _ _ h.2.2.1)).trans h.2.2.1, (h2.cell (p := ⟨w.heap.size, 3, none⟩) (World.block_lt_of_cell? _ _ h.2.2.2)).trans h.2.2.2⟩
    have HB1 : Hid (Below w.heap.size w w1) := (below_alloc _ _).trans (hb1.mono (by omega))
    clear hb1
    have hix := idx_3
    obtain ⟨l0, l1, l2, l3, e0, e1, e2, e3⟩ : ∃ l0 l1 l2 l3 : Int, l0 = (if d = 0 then 0 else a) ∧ l1 = (if d = 0 ∨ a = 0 then 0 else b) ∧ l2 = (if d = 0 ∨ a = 0 ∨ b = 0 then 0 else c) ∧ l3 = (d) := ⟨_, _, _, _, rfl, rfl, rfl, rfl⟩
    have HL : Hid (∀ wz, Calls Try.prog 24 #[.func (.func 55) #[] #[], .agg #[.int .i64 a, .int .i64 b, .int .i64 c, .int .i64 d]] wz fun e w' => e = .returned (.agg #[.int .i64 l0, .int .i64 l1, .int .i64 l2, .int .i64 l3]) ∧ Below wz.heap.size wz w') := fun wz => by rw [e0, e1, e2, e3]; exact lead_4 a b c d wz
    have HE : Hid (l0 = (if d = 0 then 0 else a) ∧ l1 = (if d = 0 ∨ a = 0 then 0 else b) ∧ l2 = (if d = 0 ∨ a = 0 ∨ b = 0 then 0 else c) ∧ l3 = (d)) := ⟨e0, e1, e2, e3⟩
    clear e0 e1 e2 e3
    have heq := eqQ l0 l1 l2 l3 a b c d
    go_wp2
    go_region_held3 (fun w' => w'.cell? ⟨w.heap.size, 0, none⟩ = some (.int .i64 a) ∧ w'.cell? ⟨w.heap.size, 1, none⟩ = some (.int .i64 b) ∧ w'.cell? ⟨w.heap.size, 2, none⟩ = some (.int .i64 c) ∧ w'.cell? ⟨w.heap.size, 3, none⟩ = some (.int .i64 d)) (go_keep)
      (first
      | (go_at_call 23; refine (orders_any w1.drew).mono ?_; rintro e w2 ⟨rfl, hb2⟩; obtain ⟨y0, y1, y2, y3⟩ := HC.out _ w2 hb2 ⟨p0, p1, p2, p3⟩)
      | (go_at_call 24; refine (HL.out w2).mono ?_; rintro e w3 ⟨rfl, hb3⟩; obtain ⟨x0, x1, x2, x3⟩ := HC.out _ w3 hb3 ⟨y0, y1, y2, y3⟩))
    have HB3 : Hid (Below w.heap.size w w3) := (HB1.out.drew.trans (hb2.mono HB1.out.size)).trans (hb3.mono (Nat.le_trans HB1.out.size hb2.size))
    clear HC hb2 hb3 hix heq
    go_wp2
    go_ret
    refine ⟨?_, HB3.out⟩
    rw [eligAt_3, hp]
    show Ending.returned (Value.bool _) = Ending.returned (Value.bool _)
    congr 2
    rw [Bool.eq_iff_iff]
    obtain ⟨e0, e1, e2, e3⟩ := HE.out
    simp only [Bool.and_eq_true, beq_iff_eq, decide_eq_true_eq, true_and]
    rw [e0, e1, e2, e3]
    by_cases hz0 : d = 0 <;> by_cases hz1 : a = 0 <;> by_cases hz2 : b = 0 <;> simp [hz0, hz1, hz2] <;> omega


theorem eligAt_4 (a b c d : Int) : eligB (fun i => partOf a b c d (ord4 i)) = (freeB a && freeB b && freeB c && freeB d && decide (d = 0 → b = 0 ∧ c = 0 ∧ a = 0) && decide (b = 0 → c = 0 ∧ a = 0) && decide (c = 0 → a = 0)) := by
  rw [Bool.eq_iff_iff, eligB_iff]
  simp only [Bool.and_eq_true, freeB, decide_eq_true_eq]
  constructor
  · intro h
    have h0 := h 0 (by omega)
    have h1 := h 1 (by omega)
    have h2 := h 2 (by omega)
    have h3 := h 3 (by omega)
    have h10 := h1.2 0 (by omega)
    have h20 := h2.2 0 (by omega)
    have h21 := h2.2 1 (by omega)
    have h30 := h3.2 0 (by omega)
    have h31 := h3.2 1 (by omega)
    have h32 := h3.2 2 (by omega)
    replace h0 := h0.1
    replace h1 := h1.1
    replace h2 := h2.1
    replace h3 := h3.1
    simp [ord4, partOf] at h0 h1 h2 h3 h10 h20 h21 h30 h31 h32
    omega
  · rintro h q hq
    have hq4 : q = 0 ∨ q = 1 ∨ q = 2 ∨ q = 3 := by omega
    rcases hq4 with rfl | rfl | rfl | rfl
    all_goals
      refine ⟨by simp [ord4, partOf]; omega, fun r hr => ?_⟩
      have hr4 : r = 0 ∨ r = 1 ∨ r = 2 := by omega
      rcases hr4 with rfl | rfl | rfl <;> simp [ord4, partOf] at hr ⊢ <;> omega

set_option maxHeartbeats 1000000 in
theorem implElig_4 (a b c d : Int) (w : World) :
    Calls Try.prog 8 #[.int .i64 4, .agg #[.int .i64 a, .int .i64 b, .int .i64 c, .int .i64 d]] w fun e w' => e = .returned (.bool (eligB fun i => partOf a b c d (ord4 i))) ∧ Below w.heap.size w w' := by
  cases hp : (freeB a && freeB b && freeB c && freeB d) with
  | false =>
    go_enter Try.func8, Try.ntmps8
    go_wp2_with (first
      | (go_at_call 22; refine (isPattern_any a b c d _).mono ?_; rintro e w1 ⟨rfl, hb1⟩; rw [hp])
      | fail)
    rw [World.size_alloc] at hb1
    refine bodyPost_ret (v := .bool false) (by simp [results, Try.results8, go_sem]) rfl ⟨?_, (below_alloc _ _).trans (hb1.mono (by omega))⟩
    rw [eligAt_4, hp]
    rfl
  | true =>
    go_enter Try.func8, Try.ntmps8
    go_wp2_with fail
    refine (isPattern_any a b c d _).mono ?_
    rintro e w1 ⟨rfl, hb1⟩
    rw [hp]
    rw [World.size_alloc] at hb1
    have p0 : w1.cell? ⟨w.heap.size, 0, none⟩ = some (.int .i64 a) := (hb1.cell (p := ⟨w.heap.size, 0, none⟩) (by show w.heap.size < w.heap.size + 1; omega)).trans (cellOf (blk_alloc_new _ _) 0)
    have p1 : w1.cell? ⟨w.heap.size, 1, none⟩ = some (.int .i64 b) := (hb1.cell (p := ⟨w.heap.size, 1, none⟩) (by show w.heap.size < w.heap.size + 1; omega)).trans (cellOf (blk_alloc_new _ _) 1)
    have p2 : w1.cell? ⟨w.heap.size, 2, none⟩ = some (.int .i64 c) := (hb1.cell (p := ⟨w.heap.size, 2, none⟩) (by show w.heap.size < w.heap.size + 1; omega)).trans (cellOf (blk_alloc_new _ _) 2)
    have p3 : w1.cell? ⟨w.heap.size, 3, none⟩ = some (.int .i64 d) := (hb1.cell (p := ⟨w.heap.size, 3, none⟩) (by show w.heap.size < w.heap.size + 1; omega)).trans (cellOf (blk_alloc_new _ _) 3)
    have HC : Hid (∀ wx w2 : World, Below wx.heap.size wx w2 → (wx.cell? ⟨w.heap.size, 0, none⟩ = some (.int .i64 a) ∧ wx.cell? ⟨w.heap.size, 1, none⟩ = some (.int .i64 b) ∧ wx.cell? ⟨w.heap.size, 2, none⟩ = some (.int .i64 c) ∧ wx.cell? ⟨w.heap.size, 3, none⟩ = some (.int .i64 d)) → w2.cell? ⟨w.heap.size, 0, none⟩ = some (.int .i64 a) ∧ w2.cell? ⟨w.heap.size, 1, none⟩ = some (.int .i64 b) ∧ w2.cell? ⟨w.heap.size, 2, none⟩ = some (.int .i64 c) ∧ w2.cell? ⟨w.heap.size, 3, none⟩ = some (.int .i64 d)) := fun wx w2 h2 h =>
      ⟨(h2.cell (p := ⟨w.heap.size, 0, none⟩) (World.block_lt_of_cell? _ _ h.1)).trans h.1, (h2.cell (p := ⟨w.heap.size, 1, none⟩) (World.block_lt_of_cell? _ _ h.2.1)).trans h.2.1, (h2.cell (p := ⟨w.heap.size, 2, none⟩) (World.block_lt_of_cell? _ _ h.2.2.1)).trans h.2.2.1, (h2.cell (p := ⟨w.heap.size, 3, none⟩) (World.block_lt_of_cell? _ _ h.2.2.2)).trans h.2.2.2⟩
    have HB1 : Hid (Below w.heap.size w w1) := (below_alloc _ _).trans (hb1.mono (by omega))
    clear hb1
    have hix := idx_4
    obtain ⟨l0, l1, l2, l3, e0, e1, e2, e3⟩ : ∃ l0 l1 l2 l3 : Int, l0 = (if d = 0 ∨ b = 0 ∨ c = 0 then 0 else a) ∧ l1 = (if d = 0 then 0 else b) ∧ l2 = (if d = 0 ∨ b = 0 then 0 else c) ∧ l3 = (d) := ⟨_, _, _, _, rfl, rfl, rfl, rfl⟩
    have HL : Hid (∀ wz, Calls Try.prog 24 #[.func (.func 56) #[] #[], .agg #[.int .i64 a, .int .i64 b, .int .i64 c, .int .i64 d]] wz fun e w' => e = .returned (.agg #[.int .i64 l0, .int .i64 l1, .int .i64 l2, .int .i64 l3]) ∧ Below wz.heap.size wz w') := fun wz => by rw [e0, e1, e2, e3]; exact lead_5 a b c d wz
    have HE : Hid (l0 = (if d = 0 ∨ b = 0 ∨ c = 0 then 0 else a) ∧ l1 = (if d = 0 then 0 else b) ∧ l2 = (if d = 0 ∨ b = 0 then 0 else c) ∧ l3 = (d)) := ⟨e0, e1, e2, e3⟩
    clear e0 e1 e2 e3
    have heq := eqQ l0 l1 l2 l3 a b c d
    go_wp2
    go_region_held3 (fun w' => w'.cell? ⟨w.heap.size, 0, none⟩ = some (.int .i64 a) ∧ w'.cell? ⟨w.heap.size, 1, none⟩ = some (.int .i64 b) ∧ w'.cell? ⟨w.heap.size, 2, none⟩ = some (.int .i64 c) ∧ w'.cell? ⟨w.heap.size, 3, none⟩ = some (.int .i64 d)) (go_keep)
      (first
      | (go_at_call 23; refine (orders_any w1.drew).mono ?_; rintro e w2 ⟨rfl, hb2⟩; obtain ⟨y0, y1, y2, y3⟩ := HC.out _ w2 hb2 ⟨p0, p1, p2, p3⟩)
      | (go_at_call 24; refine (HL.out w2).mono ?_; rintro e w3 ⟨rfl, hb3⟩; obtain ⟨x0, x1, x2, x3⟩ := HC.out _ w3 hb3 ⟨y0, y1, y2, y3⟩))
    have HB3 : Hid (Below w.heap.size w w3) := (HB1.out.drew.trans (hb2.mono HB1.out.size)).trans (hb3.mono (Nat.le_trans HB1.out.size hb2.size))
    clear HC hb2 hb3 hix heq
    go_wp2
    go_ret
    refine ⟨?_, HB3.out⟩
    rw [eligAt_4, hp]
    show Ending.returned (Value.bool _) = Ending.returned (Value.bool _)
    congr 2
    rw [Bool.eq_iff_iff]
    obtain ⟨e0, e1, e2, e3⟩ := HE.out
    simp only [Bool.and_eq_true, beq_iff_eq, decide_eq_true_eq, true_and]
    rw [e0, e1, e2, e3]
    by_cases hz0 : d = 0 <;> by_cases hz1 : b = 0 <;> by_cases hz2 : c = 0 <;> simp [hz0, hz1, hz2] <;> omega


theorem eligAt_5 (a b c d : Int) : eligB (fun i => partOf a b c d (ord5 i)) = (freeB a && freeB b && freeB c && freeB d && decide (d = 0 → c = 0 ∧ a = 0 ∧ b = 0) && decide (c = 0 → a = 0 ∧ b = 0) && decide (a = 0 → b = 0)) := by
  rw [Bool.eq_iff_iff, eligB_iff]
  simp only [Bool.and_eq_true, freeB, decide_eq_true_eq]
  constructor
  · intro h
    have h0 := h 0 (by omega)
    have h1 := h 1 (by omega)
    have h2 := h 2 (by omega)
    have h3 := h 3 (by omega)
    have h10 := h1.2 0 (by omega)
    have h20 := h2.2 0 (by omega)
    have h21 := h2.2 1 (by omega)
    have h30 := h3.2 0 (by omega)
    have h31 := h3.2 1 (by omega)
    have h32 := h3.2 2 (by omega)
    replace h0 := h0.1
    replace h1 := h1.1
    replace h2 := h2.1
    replace h3 := h3.1
    simp [ord5, partOf] at h0 h1 h2 h3 h10 h20 h21 h30 h31 h32
    omega
  · rintro h q hq
    have hq4 : q = 0 ∨ q = 1 ∨ q = 2 ∨ q = 3 := by omega
    rcases hq4 with rfl | rfl | rfl | rfl
    all_goals
      refine ⟨by simp [ord5, partOf]; omega, fun r hr => ?_⟩
      have hr4 : r = 0 ∨ r = 1 ∨ r = 2 := by omega
      rcases hr4 with rfl | rfl | rfl <;> simp [ord5, partOf] at hr ⊢ <;> omega

set_option maxHeartbeats 1000000 in
theorem implElig_5 (a b c d : Int) (w : World) :
    Calls Try.prog 8 #[.int .i64 5, .agg #[.int .i64 a, .int .i64 b, .int .i64 c, .int .i64 d]] w fun e w' => e = .returned (.bool (eligB fun i => partOf a b c d (ord5 i))) ∧ Below w.heap.size w w' := by
  cases hp : (freeB a && freeB b && freeB c && freeB d) with
  | false =>
    go_enter Try.func8, Try.ntmps8
    go_wp2_with (first
      | (go_at_call 22; refine (isPattern_any a b c d _).mono ?_; rintro e w1 ⟨rfl, hb1⟩; rw [hp])
      | fail)
    rw [World.size_alloc] at hb1
    refine bodyPost_ret (v := .bool false) (by simp [results, Try.results8, go_sem]) rfl ⟨?_, (below_alloc _ _).trans (hb1.mono (by omega))⟩
    rw [eligAt_5, hp]
    rfl
  | true =>
    go_enter Try.func8, Try.ntmps8
    go_wp2_with fail
    refine (isPattern_any a b c d _).mono ?_
    rintro e w1 ⟨rfl, hb1⟩
    rw [hp]
    rw [World.size_alloc] at hb1
    have p0 : w1.cell? ⟨w.heap.size, 0, none⟩ = some (.int .i64 a) := (hb1.cell (p := ⟨w.heap.size, 0, none⟩) (by show w.heap.size < w.heap.size + 1; omega)).trans (cellOf (blk_alloc_new _ _) 0)
    have p1 : w1.cell? ⟨w.heap.size, 1, none⟩ = some (.int .i64 b) := (hb1.cell (p := ⟨w.heap.size, 1, none⟩) (by show w.heap.size < w.heap.size + 1; omega)).trans (cellOf (blk_alloc_new _ _) 1)
    have p2 : w1.cell? ⟨w.heap.size, 2, none⟩ = some (.int .i64 c) := (hb1.cell (p := ⟨w.heap.size, 2, none⟩) (by show w.heap.size < w.heap.size + 1; omega)).trans (cellOf (blk_alloc_new _ _) 2)
    have p3 : w1.cell? ⟨w.heap.size, 3, none⟩ = some (.int .i64 d) := (hb1.cell (p := ⟨w.heap.size, 3, none⟩) (by show w.heap.size < w.heap.size + 1; omega)).trans (cellOf (blk_alloc_new _ _) 3)
    have HC : Hid (∀ wx w2 : World, Below wx.heap.size wx w2 → (wx.cell? ⟨w.heap.size, 0, none⟩ = some (.int .i64 a) ∧ wx.cell? ⟨w.heap.size, 1, none⟩ = some (.int .i64 b) ∧ wx.cell? ⟨w.heap.size, 2, none⟩ = some (.int .i64 c) ∧ wx.cell? ⟨w.heap.size, 3, none⟩ = some (.int .i64 d)) → w2.cell? ⟨w.heap.size, 0, none⟩ = some (.int .i64 a) ∧ w2.cell? ⟨w.heap.size, 1, none⟩ = some (.int .i64 b) ∧ w2.cell? ⟨w.heap.size, 2, none⟩ = some (.int .i64 c) ∧ w2.cell? ⟨w.heap.size, 3, none⟩ = some (.int .i64 d)) := fun wx w2 h2 h =>
      ⟨(h2.cell (p := ⟨w.heap.size, 0, none⟩) (World.block_lt_of_cell? _ _ h.1)).trans h.1, (h2.cell (p := ⟨w.heap.size, 1, none⟩) (World.block_lt_of_cell? _ _ h.2.1)).trans h.2.1, (h2.cell (p := ⟨w.heap.size, 2, none⟩) (World.block_lt_of_cell? _ _ h.2.2.1)).trans h.2.2.1, (h2.cell (p := ⟨w.heap.size, 3, none⟩) (World.block_lt_of_cell? _ _ h.2.2.2)).trans h.2.2.2⟩
    have HB1 : Hid (Below w.heap.size w w1) := (below_alloc _ _).trans (hb1.mono (by omega))
    clear hb1
    have hix := idx_5
    obtain ⟨l0, l1, l2, l3, e0, e1, e2, e3⟩ : ∃ l0 l1 l2 l3 : Int, l0 = (if d = 0 ∨ c = 0 then 0 else a) ∧ l1 = (if d = 0 ∨ c = 0 ∨ a = 0 then 0 else b) ∧ l2 = (if d = 0 then 0 else c) ∧ l3 = (d) := ⟨_, _, _, _, rfl, rfl, rfl, rfl⟩
    have HL : Hid (∀ wz, Calls Try.prog 24 #[.func (.func 57) #[] #[], .agg #[.int .i64 a, .int .i64 b, .int .i64 c, .int .i64 d]] wz fun e w' => e = .returned (.agg #[.int .i64 l0, .int .i64 l1, .int .i64 l2, .int .i64 l3]) ∧ Below wz.heap.size wz w') := fun wz => by rw [e0, e1, e2, e3]; exact lead_6 a b c d wz
    have HE : Hid (l0 = (if d = 0 ∨ c = 0 then 0 else a) ∧ l1 = (if d = 0 ∨ c = 0 ∨ a = 0 then 0 else b) ∧ l2 = (if d = 0 then 0 else c) ∧ l3 = (d)) := ⟨e0, e1, e2, e3⟩
    clear e0 e1 e2 e3
    have heq := eqQ l0 l1 l2 l3 a b c d
    go_wp2
    go_region_held3 (fun w' => w'.cell? ⟨w.heap.size, 0, none⟩ = some (.int .i64 a) ∧ w'.cell? ⟨w.heap.size, 1, none⟩ = some (.int .i64 b) ∧ w'.cell? ⟨w.heap.size, 2, none⟩ = some (.int .i64 c) ∧ w'.cell? ⟨w.heap.size, 3, none⟩ = some (.int .i64 d)) (go_keep)
      (first
      | (go_at_call 23; refine (orders_any w1.drew).mono ?_; rintro e w2 ⟨rfl, hb2⟩; obtain ⟨y0, y1, y2, y3⟩ := HC.out _ w2 hb2 ⟨p0, p1, p2, p3⟩)
      | (go_at_call 24; refine (HL.out w2).mono ?_; rintro e w3 ⟨rfl, hb3⟩; obtain ⟨x0, x1, x2, x3⟩ := HC.out _ w3 hb3 ⟨y0, y1, y2, y3⟩))
    have HB3 : Hid (Below w.heap.size w w3) := (HB1.out.drew.trans (hb2.mono HB1.out.size)).trans (hb3.mono (Nat.le_trans HB1.out.size hb2.size))
    clear HC hb2 hb3 hix heq
    go_wp2
    go_ret
    refine ⟨?_, HB3.out⟩
    rw [eligAt_5, hp]
    show Ending.returned (Value.bool _) = Ending.returned (Value.bool _)
    congr 2
    rw [Bool.eq_iff_iff]
    obtain ⟨e0, e1, e2, e3⟩ := HE.out
    simp only [Bool.and_eq_true, beq_iff_eq, decide_eq_true_eq, true_and]
    rw [e0, e1, e2, e3]
    by_cases hz0 : d = 0 <;> by_cases hz1 : c = 0 <;> by_cases hz2 : a = 0 <;> simp [hz0, hz1, hz2] <;> omega


set_option maxHeartbeats 1000000 in
theorem toQuad_any (a b c d : Int) (w : World) :
    Calls Try.prog 7 #[.agg #[.int .i64 a, .int .i64 b, .int .i64 c, .int .i64 d]] w fun e w' => e = .returned (.agg #[.int .i64 a, .int .i64 b, .int .i64 c, .int .i64 d]) ∧ Below w.heap.size w w' := by
  go_enter Try.func7, Try.ntmps7
  go_wp2
  refine bodyPost_ret (v := .agg #[.int .i64 a, .int .i64 b, .int .i64 c, .int .i64 d]) (by simp [results, Try.results7, go_sem]) rfl ⟨rfl, ?_⟩
  repeat (first | exact Below.refl _ _ | refine bA ?_ | refine bS (by simp <;> omega) ?_)

set_option maxHeartbeats 1000000 in
theorem eligOut (perm : Int) (h : perm < 0 ∨ 5 < perm) (a b c d : Int) (w : World) :
    (Calls Try.prog 6 #[.int .i64 perm, .agg #[.int .i64 a, .int .i64 b, .int .i64 c, .int .i64 d]] w fun e w' => e = .returned (.bool false) ∧ Below w.heap.size w w') ∧
    (Calls Try.prog 8 #[.int .i64 perm, .agg #[.int .i64 a, .int .i64 b, .int .i64 c, .int .i64 d]] w fun e w' => e = .returned (.bool false) ∧ Below w.heap.size w w') := by
  rcases h with h | h
  · refine ⟨?_, ?_⟩
    · go_enter Try.func6, Try.ntmps6
      go_wp2
      go_ret
      exact ⟨rfl, below_alloc _ _⟩
    · go_enter Try.func8, Try.ntmps8
      go_wp2
      go_ret
      exact ⟨rfl, below_alloc _ _⟩
  · have h6 : 6 ≤ perm := by omega
    have h0 : 0 ≤ perm := by omega
    refine ⟨?_, ?_⟩
    · go_enter Try.func6, Try.ntmps6
      go_wp2
      go_ret
      exact ⟨rfl, below_alloc _ _⟩
    · go_enter Try.func8, Try.ntmps8
      go_wp2
      go_ret
      exact ⟨rfl, below_alloc _ _⟩

theorem ordLt_0 (i : Nat) (hi : i < 4) : ord0 i < 4 := by
  have h4 : i = 0 ∨ i = 1 ∨ i = 2 ∨ i = 3 := by omega
  rcases h4 with rfl | rfl | rfl | rfl <;> decide
theorem ordLt_1 (i : Nat) (hi : i < 4) : ord1 i < 4 := by
  have h4 : i = 0 ∨ i = 1 ∨ i = 2 ∨ i = 3 := by omega
  rcases h4 with rfl | rfl | rfl | rfl <;> decide
theorem ordLt_2 (i : Nat) (hi : i < 4) : ord2 i < 4 := by
  have h4 : i = 0 ∨ i = 1 ∨ i = 2 ∨ i = 3 := by omega
  rcases h4 with rfl | rfl | rfl | rfl <;> decide
theorem ordLt_3 (i : Nat) (hi : i < 4) : ord3 i < 4 := by
  have h4 : i = 0 ∨ i = 1 ∨ i = 2 ∨ i = 3 := by omega
  rcases h4 with rfl | rfl | rfl | rfl <;> decide
theorem ordLt_4 (i : Nat) (hi : i < 4) : ord4 i < 4 := by
  have h4 : i = 0 ∨ i = 1 ∨ i = 2 ∨ i = 3 := by omega
  rcases h4 with rfl | rfl | rfl | rfl <;> decide
theorem ordLt_5 (i : Nat) (hi : i < 4) : ord5 i < 4 := by
  have h4 : i = 0 ∨ i = 1 ∨ i = 2 ∨ i = 3 := by omega
  rcases h4 with rfl | rfl | rfl | rfl <;> decide

theorem eligBoth (perm a b c d : Int) : ∃ B : Bool, ∀ w,
    (Calls Try.prog 6 #[.int .i64 perm, .agg #[.int .i64 a, .int .i64 b, .int .i64 c, .int .i64 d]] w fun e w' => e = .returned (.bool B) ∧ Below w.heap.size w w') ∧
    (Calls Try.prog 8 #[.int .i64 perm, .agg #[.int .i64 a, .int .i64 b, .int .i64 c, .int .i64 d]] w fun e w' => e = .returned (.bool B) ∧ Below w.heap.size w w') := by
  by_cases h : perm < 0 ∨ 5 < perm
  · exact ⟨false, fun w => eligOut perm h a b c d w⟩
  have h6 : perm = 0 ∨ perm = 1 ∨ perm = 2 ∨ perm = 3 ∨ perm = 4 ∨ perm = 5 := by omega
  rcases h6 with rfl | rfl | rfl | rfl | rfl | rfl
  · exact ⟨_, fun w => ⟨specElig_any 0 (by omega) (by omega) a b c d ord0 ordLt_0 l5Order_0 w, implElig_0 a b c d w⟩⟩
  · exact ⟨_, fun w => ⟨specElig_any 1 (by omega) (by omega) a b c d ord1 ordLt_1 l5Order_1 w, implElig_1 a b c d w⟩⟩
  · exact ⟨_, fun w => ⟨specElig_any 2 (by omega) (by omega) a b c d ord2 ordLt_2 l5Order_2 w, implElig_2 a b c d w⟩⟩
  · exact ⟨_, fun w => ⟨specElig_any 3 (by omega) (by omega) a b c d ord3 ordLt_3 l5Order_3 w, implElig_3 a b c d w⟩⟩
  · exact ⟨_, fun w => ⟨specElig_any 4 (by omega) (by omega) a b c d ord4 ordLt_4 l5Order_4 w, implElig_4 a b c d w⟩⟩
  · exact ⟨_, fun w => ⟨specElig_any 5 (by omega) (by omega) a b c d ord5 ordLt_5 l5Order_5 w, implElig_5 a b c d w⟩⟩

set_option maxHeartbeats 2000000 in
theorem eligLaw (perm : Int) (a b c d : Int) (w : World) :
    Calls Try.prog 3 #[.int .i64 perm, .agg #[.int .i64 a, .int .i64 b, .int .i64 c, .int .i64 d]] w fun e w' => e = .returned (.bool true) ∧ Below w.heap.size w w' := by
  obtain ⟨B, HB⟩ := eligBoth perm a b c d
  have H : Hid (∀ w, (Calls Try.prog 6 #[.int .i64 perm, .agg #[.int .i64 a, .int .i64 b, .int .i64 c, .int .i64 d]] w fun e w' => e = .returned (.bool B) ∧ Below w.heap.size w w') ∧
    (Calls Try.prog 8 #[.int .i64 perm, .agg #[.int .i64 a, .int .i64 b, .int .i64 c, .int .i64 d]] w fun e w' => e = .returned (.bool B) ∧ Below w.heap.size w w')) := HB
  clear HB
  go_enter Try.func3, Try.ntmps3
  have HC : Hid (∀ wx w2 : World, Below (w.heap.size + 1) wx w2 → (wx.cell? ⟨w.heap.size, 0, none⟩ = some (.int .i64 a) ∧ wx.cell? ⟨w.heap.size, 1, none⟩ = some (.int .i64 b) ∧ wx.cell? ⟨w.heap.size, 2, none⟩ = some (.int .i64 c) ∧ wx.cell? ⟨w.heap.size, 3, none⟩ = some (.int .i64 d)) → w2.cell? ⟨w.heap.size, 0, none⟩ = some (.int .i64 a) ∧ w2.cell? ⟨w.heap.size, 1, none⟩ = some (.int .i64 b) ∧ w2.cell? ⟨w.heap.size, 2, none⟩ = some (.int .i64 c) ∧ w2.cell? ⟨w.heap.size, 3, none⟩ = some (.int .i64 d)) := fun wx w2 h2 h =>
    ⟨(h2.cell (p := ⟨w.heap.size, 0, none⟩) (by show w.heap.size < _; omega)).trans h.1, (h2.cell (p := ⟨w.heap.size, 1, none⟩) (by show w.heap.size < _; omega)).trans h.2.1, (h2.cell (p := ⟨w.heap.size, 2, none⟩) (by show w.heap.size < _; omega)).trans h.2.2.1, (h2.cell (p := ⟨w.heap.size, 3, none⟩) (by show w.heap.size < _; omega)).trans h.2.2.2⟩
  go_wp2_with fail
  refine (toQuad_any a b c d _).mono ?_
  rintro e w1 ⟨rfl, hb1⟩
  rw [World.size_alloc] at hb1
  obtain ⟨x0, x1, x2, x3⟩ := HC.out _ w1 hb1 ⟨cellOf (blk_alloc_new _ _) 0, cellOf (blk_alloc_new _ _) 1, cellOf (blk_alloc_new _ _) 2, cellOf (blk_alloc_new _ _) 3⟩
  have z1 := hb1.size
  simp at z1
  have B1 : Hid (Below w.heap.size w w1) := (below_alloc _ _).trans (hb1.mono (by omega))
  clear hb1
  go_wp2_with fail
  refine (H.out _).1.mono ?_
  rintro e w2 ⟨rfl, hb2⟩
  obtain ⟨y0, y1, y2, y3⟩ := HC.out _ w2 (hb2.mono (by omega)) ⟨x0, x1, x2, x3⟩
  have z2 := Nat.le_trans z1 hb2.size
  have B2 : Hid (Below w.heap.size w w2) := B1.out.trans (hb2.mono (by omega))
  clear hb2 x0 x1 x2 x3
  go_wp2_with fail
  refine (toQuad_any a b c d _).mono ?_
  rintro e w3 ⟨rfl, hb3⟩
  obtain ⟨x0, x1, x2, x3⟩ := HC.out _ w3 (hb3.mono (by omega)) ⟨y0, y1, y2, y3⟩
  have z3 := Nat.le_trans z2 hb3.size
  have B3 : Hid (Below w.heap.size w w3) := B2.out.trans (hb3.mono (by omega))
  clear hb3 y0 y1 y2 y3
  go_wp2_with fail
  refine (H.out _).2.mono ?_
  rintro e w4 ⟨rfl, hb4⟩
  have B4 : Hid (Below w.heap.size w w4) := B3.out.trans (hb4.mono (by omega))
  clear hb4 x0 x1 x2 x3 HC H
  go_wp2
  go_ret
  exact ⟨rfl, B4.out⟩

end Go.Proofs.Ytfbhlegkpmcfoaa
