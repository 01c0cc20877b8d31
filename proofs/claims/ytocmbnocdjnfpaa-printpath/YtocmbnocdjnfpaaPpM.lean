import Derived.Test.YtocmbnocdjnfpaaPpL
import Derived.Test.YtocmbnocdjnfpaaPpD
namespace Go.Proofs.Ytocmbnocdjnfpaa
open Go.RowKit Go.Deep
set_option linter.unusedVariables false
set_option maxRecDepth 100000

/-- How strongly a node binds, as the program counts. -/
def iB (k : Int) : Int := if k = 7 ∨ k = 8 then 0 else if k = 6 then 1 else 2
theorem strength_any (k : Int) (w : World) : Calls Try.prog 91 #[.int .i64 k] w fun e w' => e = .returned (.int .i64 (iB k)) ∧ w' = w := by
  by_cases h7 : k = 7
  · subst h7
    go_enter Try.func91, Try.ntmps91
    go_wp2
    go_ret
    exact ⟨rfl, rfl⟩
  by_cases h8 : k = 8
  · subst h8
    go_enter Try.func91, Try.ntmps91
    go_wp2
    go_ret
    exact ⟨rfl, rfl⟩
  by_cases h6 : k = 6
  · subst h6
    go_enter Try.func91, Try.ntmps91
    go_wp2
    go_ret
    exact ⟨rfl, rfl⟩
  have b6 : (k == 6) = false := by simp [h6]
  have b7 : (k == 7) = false := by simp [h7]
  have b8 : (k == 8) = false := by simp [h8]
  have HE : Hid (iB k = 2) := by show _ = _; unfold iB; rw [if_neg (by omega), if_neg h6]
  go_enter Try.func91, Try.ntmps91
  go_wp2
  go_ret
  exact ⟨by rw [HE.out]; rfl, rfl⟩
theorem bl_app (a b : ByteArray) : bl (a ++ b) = bl a ++ bl b := by
  unfold bl
  simp [ByteArray.data_append]
theorem iB_wr (k kk : Int) (r : Bool) (st : Int) (h : (k = 3 ∨ k = 4 ∨ k = 5) ∧ r = false ∧ st = 2 ∨ k = 6 ∧ r = false ∧ st = 1 ∨ k = 6 ∧ r = true ∧ st = 2 ∨ (k = 7 ∨ k = 8) ∧ r = false ∧ st = 0 ∨ (k = 7 ∨ k = 8) ∧ r = true ∧ st = 1) : (iB kk < st) ↔ wrB k r (sB kk) = true := by
  have h4 : (kk = 7 ∨ kk = 8) ∨ kk = 6 ∨ (kk ≠ 6 ∧ kk ≠ 7 ∧ kk ≠ 8) := by omega
  have e : (iB kk = 0 ∧ sB kk = 1) ∨ (iB kk = 1 ∧ sB kk = 2) ∨ (iB kk = 2 ∧ sB kk = 0) := by
    unfold iB sB
    rcases h4 with h | h | ⟨h1, h2, h3⟩
    · left; rw [if_pos h, if_neg (by omega), if_pos h]; exact ⟨rfl, rfl⟩
    · subst h; right; left; exact ⟨rfl, rfl⟩
    · right; right; rw [if_neg (by omega), if_neg h1, if_neg h1, if_neg (by omega)]; exact ⟨rfl, rfl⟩
  rcases e with ⟨e1, e2⟩ | ⟨e1, e2⟩ | ⟨e1, e2⟩ <;> rw [e1, e2] <;> rcases h with ⟨q, rfl, rfl⟩ | ⟨rfl, rfl, rfl⟩ | ⟨rfl, rfl, rfl⟩ | ⟨q, rfl, rfl⟩ | ⟨q, rfl, rfl⟩ <;> (try rcases q with rfl | rfl | rfl) <;> (try rcases q with rfl | rfl) <;> simp [wrB]
set_option maxHeartbeats 1000000 in
theorem text1_any (i : Nat) (st kk : Int) (b4 b5 gp gt n m c4 c5 : Nat) (y : ByteArray) (w : World) (h4 : w.cell? ⟨b4, 0, none⟩ = some (.slice (some ⟨gp, 0, none⟩) n c4)) (h5 : w.cell? ⟨b5, 0, none⟩ = some (.slice (some ⟨gt, 0, none⟩) m c5)) (hi : i < n) (him : i < m) (hk : w.cell? ⟨gp, i * 7, none⟩ = some (.int .i64 kk)) (hy : w.cell? ⟨gt, i, none⟩ = some (.string y)) (hys : y.size ≤ 1000000) :
    Calls Try.prog 90 #[.int .i64 (i : Int), .int .i64 st, .pointer (some ⟨b4, 0, none⟩), .pointer (some ⟨b5, 0, none⟩)] w fun e w' => ∃ z, e = .returned (.string z) ∧ bl z = (if iB kk < st then [40] ++ (bl y ++ [41]) else bl y) ∧ w' = w := by
  have HS : Hid (Calls Try.prog 91 #[.int .i64 kk] w fun e w' => e = .returned (.int .i64 (iB kk)) ∧ w' = w) := strength_any kk w
  have i0 : (0 : Int) ≤ (i : Int) := by omega
  have i1 : (i : Int) < (n : Int) := by omega
  have i2 : (i : Int) < (m : Int) := by omega
  generalize iB kk = s at HS ⊢
  by_cases hs : s < st
  · go_enter Try.func90, Try.ntmps90
    go_wp2_with fail
    refine HS.out.mono ?_
    rintro e w1 ⟨rfl, hw1⟩
    subst hw1
    go_wp2
    go_ret
    refine ⟨_, rfl, ?_, rfl⟩
    (try rw [if_pos hs])
    rw [bl_app, bl_app]
    rfl
  · have hs2 : decide (s < st) = false := decide_eq_false hs
    go_enter Try.func90, Try.ntmps90
    go_wp2_with fail
    refine HS.out.mono ?_
    rintro e w1 ⟨rfl, hw1⟩
    subst hw1
    go_wp2
    go_ret
    exact ⟨_, rfl, by first | rfl | rw [if_neg (by omega)], rfl⟩
end Go.Proofs.Ytocmbnocdjnfpaa
