import Derived.Test.YtbpcafcipncloaaSecR
import Derived.ChangeKeysEq
namespace Go.Proofs.Ytbpcafcipncloaa
open Go.RowKit Go.Deep
set_option linter.unusedVariables false
set_option maxRecDepth 100000

/-- A new sector's variable. -/
theorem wpList_alloc_sec {w : World} {ops : Array Oper} {rest : List Oper} {act : Act} {Q : Exit → Act → World → Prop} {dst : Option Nat} {ty : TypeId} {ps : String} {af : Array Edge}
    (h : wpList Try.prog ops Q rest (act.put dst (.pointer (some ⟨w.heap.size, 0, none⟩))) (w.alloc (.cells (secA fun _ => 0) 87))) : wpList Try.prog ops Q ({ dst := dst, op := .alloc 87, type := ty, pos := ps, after := af, guard := none } :: rest) act w := by
  refine wpList_plain rfl fun K hK => ?_
  unfold Oper.wp
  simp [execOp, go_sem]
  exact hK _ _ h

theorem eqItems_sec (d : Nat) (f g : Nat → Int) (w : World) : ∀ (l : List Nat), (∀ i ∈ l, i < 64) → (Op.eqItems (d + 1) 5 1 (secA f) (secA g) l).run Try.prog w = .ok (l.all fun i => f i == g i) w
  | [], _ => by simp [Op.eqItems]
  | i :: l, h => by
    have hi : i < 64 := h i (by simp)
    have p1 := run_part_plain (P := Try.prog) w (e := 5) (by kernel_rfl) (off := i * 1) (xs := secA f) (by rw [Nat.mul_one]; exact secA_get f i hi)
    have p2 := run_part_plain (P := Try.prog) w (e := 5) (by kernel_rfl) (off := i * 1) (xs := secA g) (by rw [Nat.mul_one]; exact secA_get g i hi)
    have p3 := run_equalIn_int (P := Try.prog) w d 5 .u8 .u8 (f i) (g i) (by kernel_rfl)
    have ih := eqItems_sec d f g w l (fun j hj => h j (by simp [hj]))
    simp only [Op.eqItems, Sem.run_bind, p1, p2, p3, Result.andThen_ok, List.all_cons]
    cases hb : (f i == g i)
    · simp
    · simpa using ih

def sameB (f g : Nat → Int) : Bool := (List.range 64).all fun i => f i == g i
theorem sameB_iff (f g : Nat → Int) : sameB f g = true ↔ ∀ i, i < 64 → f i = g i := by
  simp only [sameB, List.all_eq_true, List.mem_range, beq_iff_eq]

/-- Two sectors held against each other. -/
theorem secEq (f g : Nat → Int) (w : World) : (Op.equalIn 10000 87 (.agg (secA f)) (.agg (secA g))).run Try.prog w = .ok (sameB f g) w := by
  obtain ⟨i0, hi, hz0, hz1, hz2⟩ := info_parts Try.info5
  rw [show (10000 : Nat) = 9999 + 1 from rfl, run_equalIn_array (P := Try.prog) w 9999 (n := 64) (e := 5) (secA f) (secA g) (by kernel_rfl) hi]
  have hz : Try.prog.cellsOf 5 = 1 := by kernel_rfl
  rw [hz, show (9999 : Nat) = 9998 + 1 from rfl, eqItems_sec 9998 f g w (List.range 64) (fun i hi => List.mem_range.1 hi)]
  rfl

/-- The same, the first one's bytes written out. -/
theorem secEq' (f g : Nat → Int) (w : World) : (Op.equalIn 10000 87 (.agg #[.int .u8 (f 0), .int .u8 (f 1), .int .u8 (f 2), .int .u8 (f 3), .int .u8 (f 4), .int .u8 (f 5), .int .u8 (f 6), .int .u8 (f 7), .int .u8 (f 8), .int .u8 (f 9), .int .u8 (f 10), .int .u8 (f 11), .int .u8 (f 12), .int .u8 (f 13), .int .u8 (f 14), .int .u8 (f 15), .int .u8 (f 16), .int .u8 (f 17), .int .u8 (f 18), .int .u8 (f 19), .int .u8 (f 20), .int .u8 (f 21), .int .u8 (f 22), .int .u8 (f 23), .int .u8 (f 24), .int .u8 (f 25), .int .u8 (f 26), .int .u8 (f 27), .int .u8 (f 28), .int .u8 (f 29), .int .u8 (f 30), .int .u8 (f 31), .int .u8 (f 32), .int .u8 (f 33), .int .u8 (f 34), .int .u8 (f 35), .int .u8 (f 36), .int .u8 (f 37), .int .u8 (f 38), .int .u8 (f 39), .int .u8 (f 40), .int .u8 (f 41), .int .u8 (f 42), .int .u8 (f 43), .int .u8 (f 44), .int .u8 (f 45), .int .u8 (f 46), .int .u8 (f 47), .int .u8 (f 48), .int .u8 (f 49), .int .u8 (f 50), .int .u8 (f 51), .int .u8 (f 52), .int .u8 (f 53), .int .u8 (f 54), .int .u8 (f 55), .int .u8 (f 56), .int .u8 (f 57), .int .u8 (f 58), .int .u8 (f 59), .int .u8 (f 60), .int .u8 (f 61), .int .u8 (f 62), .int .u8 (f 63)]) (.agg (secA g))).run Try.prog w = .ok (sameB f g) w := secEq f g w

def areaB (x : Int) : Bool := decide (0 ≤ x) && decide (x < 2)
def numB (x : Int) : Bool := decide (1 ≤ x) && decide (x ≤ 2000000000)
/-- A super that may be written. -/
def goodB (gen ar fi : Int) : Bool := decide (0 ≤ gen) && decide (gen ≤ 2000000000) && areaB ar && numB fi

set_option maxHeartbeats 400000 in
theorem isArea_any (x : Int) (w : World) : Calls Try.prog 59 #[.int .i64 x] w fun e w' => e = .returned (.bool (areaB x)) ∧ w' = w := by
  by_cases h1 : 0 ≤ x
  · have HE : Hid (areaB x = decide (x < 2)) := by show _ = _; unfold areaB; rw [decide_eq_true h1]; rfl
    go_enter Try.func59, Try.ntmps59
    go_wp2
    go_ret
    exact ⟨by rw [HE.out]; rfl, rfl⟩
  · have HE : Hid (areaB x = false) := by show _ = _; unfold areaB; rw [decide_eq_false h1]; rfl
    go_enter Try.func59, Try.ntmps59
    go_wp2
    go_ret
    exact ⟨by rw [HE.out]; rfl, rfl⟩

set_option maxHeartbeats 400000 in
theorem isNumber_any (x : Int) (w : World) : Calls Try.prog 43 #[.int .i64 x] w fun e w' => e = .returned (.bool (numB x)) ∧ w' = w := by
  by_cases h1 : 1 ≤ x
  · have HE : Hid (numB x = decide (x ≤ 2000000000)) := by show _ = _; unfold numB; rw [decide_eq_true h1]; rfl
    go_enter Try.func43, Try.ntmps43
    go_wp2
    go_ret
    exact ⟨by rw [HE.out]; rfl, rfl⟩
  · have HE : Hid (numB x = false) := by show _ = _; unfold numB; rw [decide_eq_false h1]; rfl
    go_enter Try.func43, Try.ntmps43
    go_wp2
    go_ret
    exact ⟨by rw [HE.out]; rfl, rfl⟩

end Go.Proofs.Ytbpcafcipncloaa
