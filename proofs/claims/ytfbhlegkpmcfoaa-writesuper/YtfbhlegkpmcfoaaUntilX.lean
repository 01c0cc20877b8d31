import Derived.Test.YtfbhlegkpmcfoaaUntil
namespace Go.Proofs.Ytfbhlegkpmcfoaa
open Go.RowKit Go.Deep
set_option linter.unusedVariables false
set_option maxRecDepth 100000

set_option maxHeartbeats 400000 in
theorem until_super (b : Nat) (c1 : Value) (w : World) (R : World → Prop) (h : Calls Try.prog 44 #[.pointer (some ⟨b, 0, none⟩), c1] w fun e w' => Stepped e ∧ R w') :
    Calls Try.prog 79 #[.pointer (some ⟨b, 0, none⟩), .func (.func 44) #[] #[c1]] w fun e w' => e = .returned (.tuple #[]) ∧ ∃ w1, R w1 ∧ Below w1.heap.size w1 w' := by
  have H : Hid (Calls Try.prog 44 #[.pointer (some ⟨b, 0, none⟩), c1] w fun e w' => Stepped e ∧ R w') := h
  clear h
  go_enter_defers Try.func79, Try.ntmps79
  go_wp2_with fail
  refine H.out.mono ?_
  rintro e w1 ⟨he | he, hR⟩
  · subst he
    go_wp2
    refine leaves_cons (f := 87) (args := #[]) (by simp) (by simp [go_sem]) ?_
    refine (catch_idle _).mono ?_
    rintro e u' w'' ⟨rfl, rfl, rfl⟩
    simp [Leaves, settle, results, Try.results79, go_sem]
    exact ⟨_, hR, Below.refl _ _⟩
  · subst he
    go_wp2
    refine leaves_cons (f := 87) (args := #[]) (by simp) (by simp [go_sem]) ?_
    refine (catch_power [] _).mono ?_
    rintro e u' w'' ⟨rfl, rfl, hb⟩
    simp [Leaves, settle, results, Try.results79, go_sem]
    exact ⟨_, hR, hb⟩
end Go.Proofs.Ytfbhlegkpmcfoaa
