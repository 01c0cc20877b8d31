import Derived.Test.YtlcamfkgkcjehaaZeros
namespace Go.Proofs.Ytlcamfkgkcjehaa
open Go.RowKit Go.Deep
set_option linter.unusedVariables false

set_option maxHeartbeats 400000 in
theorem specNew_g (n : Nat) (w : World) (h1 : 16 ≤ n) (h2 : n ≤ 1024) :
    Calls Try.prog 59 #[.int .i64 n] w fun e w' => ∃ a c, e = .returned (.agg #[.slice a (n * 64) c, .slice none 0 0, .int .i64 (-1), .bool false]) ∧ OwnB w' w.heap.size a (n * 64) (fun _ => 0) ∧ Below w.heap.size w w' := by
  have hlo : ¬ (n : Int) < 16 := by omega
  have hhi : ¬ (1024 : Int) < (n : Int) := by omega
  go_enter Try.func59, Try.ntmps59
  go_wp2_with fail
  refine (zeros_at _ (n * 64) _ (by omega) (by omega)).mono ?_
  rintro e w1 ⟨a, c, rfl, ho, hb⟩
  have HO : Hid (OwnB w1 w.heap.size a (n * 64) (fun _ => 0)) := ho.mono (by simp)
  have hz : w.heap.size < w1.heap.size := by have := hb.size; simp at this; omega
  have HB : Hid (Below w.heap.size w w1) := ((Below.refl _ _).alloc (Nat.le_refl _) _).trans (hb.mono (by simp))
  obtain ⟨hc, hf⟩ := bcell hb
  have HO1 : Hid (OwnB w1 (w.heap.size + 1) a (n * 64) (fun _ => 0)) := ho.mono (by simp)
  clear ho hb
  go_wp2
  refine bodyPost_ret (v := .agg #[.slice a (n * 64) c, .slice none 0 0, .int .i64 (-1), .bool false]) (by simp [results, Try.results59, go_sem, hc]) rfl ⟨a, c, rfl, ?_, ?_⟩
  · exact ((((HO1.out.setOther (by simp) _).setOther (by simp) _).setOther (by simp) _).setOther (by simp) _).mono (by omega)
  · exact (((HB.out.setCell (by simp) _).setCell (by simp) _).setCell (by simp) _).setCell (by simp) _

theorem specNew_at (y : Int) (n : Nat) (w : World) (hy : y = (n : Int)) (h1 : 16 ≤ n) (h2 : n ≤ 1024) :
    Calls Try.prog 59 #[.int .i64 y] w fun e w' => ∃ a c, e = .returned (.agg #[.slice a (n * 64) c, .slice none 0 0, .int .i64 (-1), .bool false]) ∧ OwnB w' w.heap.size a (n * 64) (fun _ => 0) ∧ Below w.heap.size w w' := by
  subst hy
  exact specNew_g n w h1 h2
end Go.Proofs.Ytlcamfkgkcjehaa
