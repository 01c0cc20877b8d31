import Derived.Test.YtbpcafcipncloaaCopyD
import Derived.Test.YtbpcafcipncloaaUntil
namespace Go.Proofs.Ytbpcafcipncloaa
open Go.RowKit Go.Deep
set_option linter.unusedVariables false
set_option maxRecDepth 100000

/-- The cells of a device. -/
def devCell (v0 v1 : Value) (fuel : Int) (dead : Bool) (i : Nat) : Value := if i = 0 then v0 else if i = 1 then v1 else if i = 2 then .int .i64 fuel else .bool dead

/-- The device, in block b. -/
def Dev (w : World) (b : Nat) (v0 v1 : Value) (fuel : Int) (dead : Bool) : Prop := rowIn w b 95 4 (devCell v0 v1 fuel dead)

theorem Dev.cells {w : World} {b : Nat} {v0 v1 : Value} {fuel : Int} {dead : Bool} (h : Dev w b v0 v1 fuel dead) :
    w.cell? ⟨b, 0, none⟩ = some v0 ∧ w.cell? ⟨b, 1, none⟩ = some v1 ∧ w.cell? ⟨b, 2, none⟩ = some (.int .i64 fuel) ∧ w.cell? ⟨b, 3, none⟩ = some (.bool dead) ∧ (∀ o, w.frozen? ⟨b, o, none⟩ = false) ∧ b < w.heap.size :=
  ⟨by simpa [devCell] using rowIn.cell h (i := 0) (by omega), by simpa [devCell] using rowIn.cell h (i := 1) (by omega), by simpa [devCell] using rowIn.cell h (i := 2) (by omega), by simpa [devCell] using rowIn.cell h (i := 3) (by omega), fun o => rowIn.frozen h o, rowIn.lt h⟩

theorem Dev.setFuel {w : World} {b : Nat} {v0 v1 : Value} {fuel : Int} {dead : Bool} (h : Dev w b v0 v1 fuel dead) (x : Int) : Dev (w.setCell ⟨b, 2, none⟩ (.int .i64 x)) b v0 v1 x dead :=
  (rowIn.set h 2 _).congr (fun i hi => by
    unfold devCell
    by_cases e : i = 2
    · subst e; simp
    · simp [e])

theorem Dev.setDead {w : World} {b : Nat} {v0 v1 : Value} {fuel : Int} {dead : Bool} (h : Dev w b v0 v1 fuel dead) (x : Bool) : Dev (w.setCell ⟨b, 3, none⟩ (.bool x)) b v0 v1 fuel x :=
  (rowIn.set h 3 _).congr (fun i hi => by
    unfold devCell
    by_cases e : i = 3
    · subst e; simp
    · have : i < 3 := by omega
      by_cases e0 : i = 0
      · simp [e0]
      · by_cases e1 : i = 1
        · simp [e1]
        · have e2 : i = 2 := by omega
          simp [e2])

theorem Dev.setCache {w : World} {b : Nat} {v0 v1 : Value} {fuel : Int} {dead : Bool} (h : Dev w b v0 v1 fuel dead) (x : Value) : Dev (w.setCell ⟨b, 1, none⟩ x) b v0 x fuel dead :=
  (rowIn.set h 1 _).congr (fun i hi => by
    unfold devCell
    by_cases e : i = 1
    · subst e; simp
    · simp [e])

theorem Dev.below {w w' : World} {b : Nat} {v0 v1 : Value} {fuel : Int} {dead : Bool} (h : Dev w b v0 v1 fuel dead) (hb : Below w.heap.size w w') : Dev w' b v0 v1 fuel dead := rowIn.below h hb

/-- The fuel behind a step. -/
def fuelAfter (fuel : Int) : Int := if fuel = -1 then -1 else fuel - 1

set_option maxHeartbeats 400000 in
theorem spend_zero (b : Nat) (v0 v1 : Value) (dead : Bool) (w : World) (h : Dev w b v0 v1 0 dead) :
    Calls Try.prog 88 #[.pointer (some ⟨b, 0, none⟩)] w fun e w' => e = .panicked [{ v := .iface 103 (.agg #[]), recovered := false }] ∧ Dev w' b v0 v1 0 true ∧ OnlyAt (some ⟨b, 0, none⟩) w w' := by
  obtain ⟨c0, c1, c2, c3, cf, cl⟩ := h.cells
  have HE : Hid (Dev (w.setCell ⟨b, 3, none⟩ (.bool true)) b v0 v1 0 true ∧ OnlyAt (some ⟨b, 0, none⟩) w (w.setCell ⟨b, 3, none⟩ (.bool true))) := ⟨h.setDead true, (OnlyAt.refl _ _).setCell 3 _⟩
  clear h
  go_enter Try.func88, Try.ntmps88
  go_wp2
  exact ⟨rfl, rfl, HE.out⟩

set_option maxHeartbeats 400000 in
theorem spend_dead (b : Nat) (v0 v1 : Value) (fuel : Int) (w : World) (h : Dev w b v0 v1 fuel true) (hf : fuel ≠ 0) :
    Calls Try.prog 88 #[.pointer (some ⟨b, 0, none⟩)] w fun e w' => e = .panicked [{ v := .iface 103 (.agg #[]), recovered := false }] ∧ w' = w := by
  obtain ⟨c0, c1, c2, c3, cf, cl⟩ := h.cells
  have hf' : (fuel == 0) = false := by simp [hf]
  clear h hf
  go_enter Try.func88, Try.ntmps88
  go_wp2
  exact ⟨rfl, rfl, rfl⟩

set_option maxHeartbeats 400000 in
theorem spend_live (b : Nat) (v0 v1 : Value) (fuel : Int) (w : World) (h : Dev w b v0 v1 fuel false) (hf : fuel ≠ 0) (h1 : -1 ≤ fuel) (h2 : fuel ≤ 1000000) :
    Calls Try.prog 88 #[.pointer (some ⟨b, 0, none⟩)] w fun e w' => e = .returned (.tuple #[]) ∧ Dev w' b v0 v1 (fuelAfter fuel) false ∧ OnlyAt (some ⟨b, 0, none⟩) w w' := by
  obtain ⟨c0, c1, c2, c3, cf, cl⟩ := h.cells
  have hf' : (fuel == 0) = false := by simp [hf]
  by_cases hm : fuel = -1
  · subst hm
    have HE : Hid (Dev w b v0 v1 (fuelAfter (-1)) false) := h
    clear h
    go_enter Try.func88, Try.ntmps88
    go_wp2
    go_end0
    exact ⟨rfl, HE.out, OnlyAt.refl _ _⟩
  · have hm' : (fuel != -1) = true := by simp [hm]
    have HE : Hid (Dev (w.setCell ⟨b, 2, none⟩ (.int .i64 (fuel - 1))) b v0 v1 (fuelAfter fuel) false ∧ OnlyAt (some ⟨b, 0, none⟩) w (w.setCell ⟨b, 2, none⟩ (.int .i64 (fuel - 1)))) := ⟨by unfold fuelAfter; rw [if_neg hm]; exact h.setFuel _, (OnlyAt.refl _ _).setCell 2 _⟩
    clear h hm
    go_enter Try.func88, Try.ntmps88
    go_wp2
    all_goals go_end0
    all_goals exact ⟨rfl, HE.out⟩
end Go.Proofs.Ytbpcafcipncloaa
