import Derived.Test.YthcclkeeekppmaaPaS
import Derived.Laws.Cover1
namespace Go.Proofs.Ythcclkeeekppmaa
open Go.RowKit Go.Deep
set_option linter.unusedVariables false
set_option maxRecDepth 100000

def txS (x : ByteArray) : Bool := decide (1 ≤ x.size) && decide (x.size ≤ 30)
def emS (x : ByteArray) : Bool := x.toList.isEmpty
theorem emS_yes {x : ByteArray} (h : emS x = true) : x.toList = [] := by unfold emS at h; simpa using h
theorem emS_no {x : ByteArray} (h : emS x = false) : ¬ x.toList = [] := by unfold emS at h; simpa using h

set_option maxHeartbeats 400000 in
theorem l6Text_any (x : ByteArray) (w : World) : Calls Try.prog 55 #[.string x] w fun e w' => e = .returned (.bool (txS x)) ∧ w' = w := by
  by_cases h1 : 1 ≤ x.size
  · have i1 : (1 : Int) ≤ (x.size : Int) := by omega
    have i1' : decide ((1 : Int) ≤ (x.size : Int)) = true := decide_eq_true i1
    have HE : Hid (txS x = decide (x.size ≤ 30)) := by show _ = _; unfold txS; rw [decide_eq_true h1]; rfl
    by_cases h2 : x.size ≤ 30
    · have i2 : (x.size : Int) ≤ 30 := by omega
      have i2' : decide ((x.size : Int) ≤ 30) = true := decide_eq_true i2
      go_enter Try.func55, Try.ntmps55
      go_wp2
      go_ret
      exact ⟨by rw [HE.out, decide_eq_true h2]; rfl, rfl⟩
    · have i2 : ¬ (x.size : Int) ≤ 30 := by omega
      have i2' : decide ((x.size : Int) ≤ 30) = false := decide_eq_false i2
      go_enter Try.func55, Try.ntmps55
      go_wp2
      go_ret
      exact ⟨by rw [HE.out, decide_eq_false h2]; rfl, rfl⟩
  · have i1 : ¬ (1 : Int) ≤ (x.size : Int) := by omega
    have i1' : decide ((1 : Int) ≤ (x.size : Int)) = false := decide_eq_false i1
    have HE : Hid (txS x = false) := by show _ = _; unfold txS; rw [decide_eq_false h1]; rfl
    go_enter Try.func55, Try.ntmps55
    go_wp2
    go_ret
    exact ⟨by rw [HE.out]; rfl, rfl⟩

/-- Whether a node is as its kind asks. -/
def gnB (k : Int) (s t : ByteArray) : Bool :=
  if k = 1 ∨ k = 6 ∨ k = 7 ∨ k = 8 then emS s && emS t else if k = 2 ∨ k = 3 ∨ k = 4 ∨ k = 9 then txS s && emS t else if k = 5 then txS s && txS t else false

set_option maxHeartbeats 1000000 in
theorem good_1 (s t : ByteArray) (w : World) : Calls Try.prog 25 #[.agg #[.int .i64 1, .string s, .string t]] w fun e w' => e = .returned (.bool (emS s && emS t)) ∧ Below w.heap.size w w' := by
  cases h1 : emS s with
  | false =>
    have H1 : Hid (emS s = false) := h1
    have e1 : s.toList.isEmpty = false := h1
    have e1p := emS_no h1
    clear h1
    go_enter Try.func25, Try.ntmps25
    go_wp2
    go_ret
    exact ⟨by first | rfl | simp, below_alloc _ _⟩
  | true =>
    have H1 : Hid (emS s = true) := h1
    have e1 : s.toList.isEmpty = true := h1
    have e1p := emS_yes h1
    clear h1
    cases h2 : emS t with
    | false =>
      have H2 : Hid (emS t = false) := h2
      have e2 : t.toList.isEmpty = false := h2
      have e2p := emS_no h2
      clear h2
      go_enter Try.func25, Try.ntmps25
      go_wp2
      go_ret
      exact ⟨by first | rfl | simp, below_alloc _ _⟩
    | true =>
      have H2 : Hid (emS t = true) := h2
      have e2 : t.toList.isEmpty = true := h2
      have e2p := emS_yes h2
      clear h2
      go_enter Try.func25, Try.ntmps25
      go_wp2
      go_ret
      exact ⟨by first | rfl | simp, below_alloc _ _⟩

set_option maxHeartbeats 1000000 in
theorem good_6 (s t : ByteArray) (w : World) : Calls Try.prog 25 #[.agg #[.int .i64 6, .string s, .string t]] w fun e w' => e = .returned (.bool (emS s && emS t)) ∧ Below w.heap.size w w' := by
  cases h1 : emS s with
  | false =>
    have H1 : Hid (emS s = false) := h1
    have e1 : s.toList.isEmpty = false := h1
    have e1p := emS_no h1
    clear h1
    go_enter Try.func25, Try.ntmps25
    go_wp2
    go_ret
    exact ⟨by first | rfl | simp, below_alloc _ _⟩
  | true =>
    have H1 : Hid (emS s = true) := h1
    have e1 : s.toList.isEmpty = true := h1
    have e1p := emS_yes h1
    clear h1
    cases h2 : emS t with
    | false =>
      have H2 : Hid (emS t = false) := h2
      have e2 : t.toList.isEmpty = false := h2
      have e2p := emS_no h2
      clear h2
      go_enter Try.func25, Try.ntmps25
      go_wp2
      go_ret
      exact ⟨by first | rfl | simp, below_alloc _ _⟩
    | true =>
      have H2 : Hid (emS t = true) := h2
      have e2 : t.toList.isEmpty = true := h2
      have e2p := emS_yes h2
      clear h2
      go_enter Try.func25, Try.ntmps25
      go_wp2
      go_ret
      exact ⟨by first | rfl | simp, below_alloc _ _⟩

set_option maxHeartbeats 1000000 in
theorem good_7 (s t : ByteArray) (w : World) : Calls Try.prog 25 #[.agg #[.int .i64 7, .string s, .string t]] w fun e w' => e = .returned (.bool (emS s && emS t)) ∧ Below w.heap.size w w' := by
  cases h1 : emS s with
  | false =>
    have H1 : Hid (emS s = false) := h1
    have e1 : s.toList.isEmpty = false := h1
    have e1p := emS_no h1
    clear h1
    go_enter Try.func25, Try.ntmps25
    go_wp2
    go_ret
    exact ⟨by first | rfl | simp, below_alloc _ _⟩
  | true =>
    have H1 : Hid (emS s = true) := h1
    have e1 : s.toList.isEmpty = true := h1
    have e1p := emS_yes h1
    clear h1
    cases h2 : emS t with
    | false =>
      have H2 : Hid (emS t = false) := h2
      have e2 : t.toList.isEmpty = false := h2
      have e2p := emS_no h2
      clear h2
      go_enter Try.func25, Try.ntmps25
      go_wp2
      go_ret
      exact ⟨by first | rfl | simp, below_alloc _ _⟩
    | true =>
      have H2 : Hid (emS t = true) := h2
      have e2 : t.toList.isEmpty = true := h2
      have e2p := emS_yes h2
      clear h2
      go_enter Try.func25, Try.ntmps25
      go_wp2
      go_ret
      exact ⟨by first | rfl | simp, below_alloc _ _⟩

set_option maxHeartbeats 1000000 in
theorem good_8 (s t : ByteArray) (w : World) : Calls Try.prog 25 #[.agg #[.int .i64 8, .string s, .string t]] w fun e w' => e = .returned (.bool (emS s && emS t)) ∧ Below w.heap.size w w' := by
  cases h1 : emS s with
  | false =>
    have H1 : Hid (emS s = false) := h1
    have e1 : s.toList.isEmpty = false := h1
    have e1p := emS_no h1
    clear h1
    go_enter Try.func25, Try.ntmps25
    go_wp2
    go_ret
    exact ⟨by first | rfl | simp, below_alloc _ _⟩
  | true =>
    have H1 : Hid (emS s = true) := h1
    have e1 : s.toList.isEmpty = true := h1
    have e1p := emS_yes h1
    clear h1
    cases h2 : emS t with
    | false =>
      have H2 : Hid (emS t = false) := h2
      have e2 : t.toList.isEmpty = false := h2
      have e2p := emS_no h2
      clear h2
      go_enter Try.func25, Try.ntmps25
      go_wp2
      go_ret
      exact ⟨by first | rfl | simp, below_alloc _ _⟩
    | true =>
      have H2 : Hid (emS t = true) := h2
      have e2 : t.toList.isEmpty = true := h2
      have e2p := emS_yes h2
      clear h2
      go_enter Try.func25, Try.ntmps25
      go_wp2
      go_ret
      exact ⟨by first | rfl | simp, below_alloc _ _⟩

set_option maxHeartbeats 1000000 in
theorem good_2 (s t : ByteArray) (w : World) : Calls Try.prog 25 #[.agg #[.int .i64 2, .string s, .string t]] w fun e w' => e = .returned (.bool (txS s && emS t)) ∧ Below w.heap.size w w' := by
  cases h1 : txS s with
  | false =>
    have H1 : Hid (txS s = false) := h1
    clear h1
    go_enter Try.func25, Try.ntmps25
    go_wp2_with fail
    refine (l6Text_any s _).mono ?_
    rintro e w1 ⟨he, hw⟩
    subst hw
    rw [H1.out] at he
    subst he
    go_wp2
    go_ret
    exact ⟨by first | rfl | simp, below_alloc _ _⟩
  | true =>
    have H1 : Hid (txS s = true) := h1
    clear h1
    cases h2 : emS t with
    | false =>
      have H2 : Hid (emS t = false) := h2
      have e2 : t.toList.isEmpty = false := h2
      have e2p := emS_no h2
      clear h2
      go_enter Try.func25, Try.ntmps25
      go_wp2_with fail
      refine (l6Text_any s _).mono ?_
      rintro e w1 ⟨he, hw⟩
      subst hw
      rw [H1.out] at he
      subst he
      go_wp2
      go_ret
      exact ⟨by first | rfl | simp, below_alloc _ _⟩
    | true =>
      have H2 : Hid (emS t = true) := h2
      have e2 : t.toList.isEmpty = true := h2
      have e2p := emS_yes h2
      clear h2
      go_enter Try.func25, Try.ntmps25
      go_wp2_with fail
      refine (l6Text_any s _).mono ?_
      rintro e w1 ⟨he, hw⟩
      subst hw
      rw [H1.out] at he
      subst he
      go_wp2
      go_ret
      exact ⟨by first | rfl | simp, below_alloc _ _⟩

set_option maxHeartbeats 1000000 in
theorem good_3 (s t : ByteArray) (w : World) : Calls Try.prog 25 #[.agg #[.int .i64 3, .string s, .string t]] w fun e w' => e = .returned (.bool (txS s && emS t)) ∧ Below w.heap.size w w' := by
  cases h1 : txS s with
  | false =>
    have H1 : Hid (txS s = false) := h1
    clear h1
    go_enter Try.func25, Try.ntmps25
    go_wp2_with fail
    refine (l6Text_any s _).mono ?_
    rintro e w1 ⟨he, hw⟩
    subst hw
    rw [H1.out] at he
    subst he
    go_wp2
    go_ret
    exact ⟨by first | rfl | simp, below_alloc _ _⟩
  | true =>
    have H1 : Hid (txS s = true) := h1
    clear h1
    cases h2 : emS t with
    | false =>
      have H2 : Hid (emS t = false) := h2
      have e2 : t.toList.isEmpty = false := h2
      have e2p := emS_no h2
      clear h2
      go_enter Try.func25, Try.ntmps25
      go_wp2_with fail
      refine (l6Text_any s _).mono ?_
      rintro e w1 ⟨he, hw⟩
      subst hw
      rw [H1.out] at he
      subst he
      go_wp2
      go_ret
      exact ⟨by first | rfl | simp, below_alloc _ _⟩
    | true =>
      have H2 : Hid (emS t = true) := h2
      have e2 : t.toList.isEmpty = true := h2
      have e2p := emS_yes h2
      clear h2
      go_enter Try.func25, Try.ntmps25
      go_wp2_with fail
      refine (l6Text_any s _).mono ?_
      rintro e w1 ⟨he, hw⟩
      subst hw
      rw [H1.out] at he
      subst he
      go_wp2
      go_ret
      exact ⟨by first | rfl | simp, below_alloc _ _⟩

set_option maxHeartbeats 1000000 in
theorem good_4 (s t : ByteArray) (w : World) : Calls Try.prog 25 #[.agg #[.int .i64 4, .string s, .string t]] w fun e w' => e = .returned (.bool (txS s && emS t)) ∧ Below w.heap.size w w' := by
  cases h1 : txS s with
  | false =>
    have H1 : Hid (txS s = false) := h1
    clear h1
    go_enter Try.func25, Try.ntmps25
    go_wp2_with fail
    refine (l6Text_any s _).mono ?_
    rintro e w1 ⟨he, hw⟩
    subst hw
    rw [H1.out] at he
    subst he
    go_wp2
    go_ret
    exact ⟨by first | rfl | simp, below_alloc _ _⟩
  | true =>
    have H1 : Hid (txS s = true) := h1
    clear h1
    cases h2 : emS t with
    | false =>
      have H2 : Hid (emS t = false) := h2
      have e2 : t.toList.isEmpty = false := h2
      have e2p := emS_no h2
      clear h2
      go_enter Try.func25, Try.ntmps25
      go_wp2_with fail
      refine (l6Text_any s _).mono ?_
      rintro e w1 ⟨he, hw⟩
      subst hw
      rw [H1.out] at he
      subst he
      go_wp2
      go_ret
      exact ⟨by first | rfl | simp, below_alloc _ _⟩
    | true =>
      have H2 : Hid (emS t = true) := h2
      have e2 : t.toList.isEmpty = true := h2
      have e2p := emS_yes h2
      clear h2
      go_enter Try.func25, Try.ntmps25
      go_wp2_with fail
      refine (l6Text_any s _).mono ?_
      rintro e w1 ⟨he, hw⟩
      subst hw
      rw [H1.out] at he
      subst he
      go_wp2
      go_ret
      exact ⟨by first | rfl | simp, below_alloc _ _⟩

set_option maxHeartbeats 1000000 in
theorem good_9 (s t : ByteArray) (w : World) : Calls Try.prog 25 #[.agg #[.int .i64 9, .string s, .string t]] w fun e w' => e = .returned (.bool (txS s && emS t)) ∧ Below w.heap.size w w' := by
  cases h1 : txS s with
  | false =>
    have H1 : Hid (txS s = false) := h1
    clear h1
    go_enter Try.func25, Try.ntmps25
    go_wp2_with fail
    refine (l6Text_any s _).mono ?_
    rintro e w1 ⟨he, hw⟩
    subst hw
    rw [H1.out] at he
    subst he
    go_wp2
    go_ret
    exact ⟨by first | rfl | simp, below_alloc _ _⟩
  | true =>
    have H1 : Hid (txS s = true) := h1
    clear h1
    cases h2 : emS t with
    | false =>
      have H2 : Hid (emS t = false) := h2
      have e2 : t.toList.isEmpty = false := h2
      have e2p := emS_no h2
      clear h2
      go_enter Try.func25, Try.ntmps25
      go_wp2_with fail
      refine (l6Text_any s _).mono ?_
      rintro e w1 ⟨he, hw⟩
      subst hw
      rw [H1.out] at he
      subst he
      go_wp2
      go_ret
      exact ⟨by first | rfl | simp, below_alloc _ _⟩
    | true =>
      have H2 : Hid (emS t = true) := h2
      have e2 : t.toList.isEmpty = true := h2
      have e2p := emS_yes h2
      clear h2
      go_enter Try.func25, Try.ntmps25
      go_wp2_with fail
      refine (l6Text_any s _).mono ?_
      rintro e w1 ⟨he, hw⟩
      subst hw
      rw [H1.out] at he
      subst he
      go_wp2
      go_ret
      exact ⟨by first | rfl | simp, below_alloc _ _⟩

set_option maxHeartbeats 1000000 in
theorem good_5 (s t : ByteArray) (w : World) : Calls Try.prog 25 #[.agg #[.int .i64 5, .string s, .string t]] w fun e w' => e = .returned (.bool (txS s && txS t)) ∧ Below w.heap.size w w' := by
  cases h1 : txS s with
  | false =>
    have H1 : Hid (txS s = false) := h1
    clear h1
    go_enter Try.func25, Try.ntmps25
    go_wp2_with fail
    refine (l6Text_any s _).mono ?_
    rintro e w1 ⟨he, hw⟩
    subst hw
    rw [H1.out] at he
    subst he
    go_wp2
    go_ret
    exact ⟨by first | rfl | simp, below_alloc _ _⟩
  | true =>
    have H1 : Hid (txS s = true) := h1
    clear h1
    cases h2 : txS t with
    | false =>
      have H2 : Hid (txS t = false) := h2
      clear h2
      go_enter Try.func25, Try.ntmps25
      go_wp2_with fail
      refine (l6Text_any s _).mono ?_
      rintro e w1 ⟨he, hw⟩
      subst hw
      rw [H1.out] at he
      subst he
      go_wp2_with fail
      refine (l6Text_any t _).mono ?_
      rintro e w2 ⟨he, hw⟩
      subst hw
      rw [H2.out] at he
      subst he
      go_wp2
      go_ret
      exact ⟨by first | rfl | simp, below_alloc _ _⟩
    | true =>
      have H2 : Hid (txS t = true) := h2
      clear h2
      go_enter Try.func25, Try.ntmps25
      go_wp2_with fail
      refine (l6Text_any s _).mono ?_
      rintro e w1 ⟨he, hw⟩
      subst hw
      rw [H1.out] at he
      subst he
      go_wp2_with fail
      refine (l6Text_any t _).mono ?_
      rintro e w2 ⟨he, hw⟩
      subst hw
      rw [H2.out] at he
      subst he
      go_wp2
      go_ret
      exact ⟨by first | rfl | simp, below_alloc _ _⟩
end Go.Proofs.Ythcclkeeekppmaa
