import Derived.Test.YthcclkeeekppmaaPaG
namespace Go.Proofs.Ythcclkeeekppmaa
open Go.RowKit Go.Deep
set_option linter.unusedVariables false
set_option maxRecDepth 100000

set_option maxHeartbeats 1000000 in
theorem good_none (k : Int) (s t : ByteArray) (w : World) (hk : ¬ (1 ≤ k ∧ k ≤ 9)) : Calls Try.prog 25 #[.agg #[.int .i64 k, .string s, .string t]] w fun e w' => e = .returned (.bool false) ∧ Below w.heap.size w w' := by
  have e1 : (k == 1) = false := by simp; omega
  have e2 : (k == 2) = false := by simp; omega
  have e3 : (k == 3) = false := by simp; omega
  have e4 : (k == 4) = false := by simp; omega
  have e5 : (k == 5) = false := by simp; omega
  have e6 : (k == 6) = false := by simp; omega
  have e7 : (k == 7) = false := by simp; omega
  have e8 : (k == 8) = false := by simp; omega
  have e9 : (k == 9) = false := by simp; omega
  have f1 : ¬ k = 1 := by omega
  have f2 : ¬ k = 2 := by omega
  have f3 : ¬ k = 3 := by omega
  have f4 : ¬ k = 4 := by omega
  have f5 : ¬ k = 5 := by omega
  have f6 : ¬ k = 6 := by omega
  have f7 : ¬ k = 7 := by omega
  have f8 : ¬ k = 8 := by omega
  have f9 : ¬ k = 9 := by omega
  clear hk
  go_enter Try.func25, Try.ntmps25
  go_wp2
  go_ret
  exact ⟨rfl, below_alloc _ _⟩

/-- spec.l6GoodNode. -/
theorem l6GoodNode_any (k : Int) (s t : ByteArray) (w : World) : Calls Try.prog 25 #[.agg #[.int .i64 k, .string s, .string t]] w fun e w' => e = .returned (.bool (gnB k s t)) ∧ Below w.heap.size w w' := by
  by_cases h : 1 ≤ k ∧ k ≤ 9
  · have h9 : k = 1 ∨ k = 2 ∨ k = 3 ∨ k = 4 ∨ k = 5 ∨ k = 6 ∨ k = 7 ∨ k = 8 ∨ k = 9 := by omega
    rcases h9 with rfl | rfl | rfl | rfl | rfl | rfl | rfl | rfl | rfl
    · exact good_1 s t w
    · exact good_2 s t w
    · exact good_3 s t w
    · exact good_4 s t w
    · exact good_5 s t w
    · exact good_6 s t w
    · exact good_7 s t w
    · exact good_8 s t w
    · exact good_9 s t w
  · have e : gnB k s t = false := by
      unfold gnB
      rw [if_neg (by omega), if_neg (by omega), if_neg (by omega)]
    rw [e]
    exact good_none k s t w h
end Go.Proofs.Ythcclkeeekppmaa
