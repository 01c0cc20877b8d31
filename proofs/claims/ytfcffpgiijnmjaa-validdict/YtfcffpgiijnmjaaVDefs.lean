import Derived.Test.YtfcffpgiijnmjaaTerm
import Derived.WalkKit
import Derived.Deep.RegionWith
import Derived.Deep.RegionHeld3
import Derived.Deep.QuietTactic
import Derived.BigQuiet
import Derived.Laws.Cover1
import Derived.Handy
namespace Go.Proofs.Ytfcffpgiijnmjaa
open Go.RowKit Go.Deep
set_option linter.unusedVariables false
set_option maxRecDepth 100000

def nuB (x : Int) : Bool := decide (1 ≤ x) && decide (x ≤ 2000000000)

/-- Term i of a dictionary is good by itself and behind the one before. -/
def GoodT (next : Int) (I : Nat → Int) (X : Nat → ByteArray) (R : Nat → Int) (i : Nat) : Prop :=
  (1 ≤ (X i).size ∧ (X i).size ≤ 30) ∧ (1 ≤ I i ∧ I i < next) ∧ (1 ≤ R i ∧ R i ≤ 2000000000) ∧ (0 < i → Op.bytesLess (X (i - 1)).toList (X i).toList = true)
def FreshT (I : Nat → Int) (i : Nat) : Prop := ∀ j, j < i → I j ≠ I i
/-- A valid dictionary. -/
def VDt (next : Int) (n : Nat) (I : Nat → Int) (X : Nat → ByteArray) (R : Nat → Int) : Prop :=
  nuB next = true ∧ n ≤ 1200 ∧ ∀ i, i < n → GoodT next I X R i ∧ FreshT I i

/-- A bool handed back that tells whether P. -/
def AnsP (w : World) (P : Prop) (e : Ending) (w' : World) : Prop := ∃ b : Bool, e = .returned (.bool b) ∧ (b = true ↔ P) ∧ Below w.heap.size w w'
theorem AnsP.no {w w' : World} {P : Prop} (h : ¬ P) (hb : Below w.heap.size w w') : AnsP w P (.returned (.bool false)) w' := ⟨false, rfl, Iff.intro (fun e => by cases e) (fun p => absurd p h), hb⟩
theorem AnsP.yes {w w' : World} {P : Prop} (h : P) (hb : Below w.heap.size w w') : AnsP w P (.returned (.bool true)) w' := ⟨true, rfl, Iff.intro (fun _ => h) (fun _ => rfl), hb⟩

set_option maxHeartbeats 400000 in
theorem l2Nu_any (x : Int) (w : World) : Calls Try.prog 36 #[.int .i64 x] w fun e w' => e = .returned (.bool (nuB x)) ∧ w' = w := by
  by_cases h1 : 1 ≤ x
  · have HE : Hid (nuB x = decide (x ≤ 2000000000)) := by show _ = _; unfold nuB; rw [decide_eq_true h1]; rfl
    go_enter Try.func36, Try.ntmps36
    go_wp2
    go_ret
    exact ⟨by rw [HE.out]; rfl, rfl⟩
  · have HE : Hid (nuB x = false) := by show _ = _; unfold nuB; rw [decide_eq_false h1]; rfl
    go_enter Try.func36, Try.ntmps36
    go_wp2
    go_ret
    exact ⟨by rw [HE.out]; rfl, rfl⟩

theorem idxT (b o n c p : Nat) (hp : p < n) (w : World) : (Instr.indexAt 22 (.slice (some ⟨b, o, none⟩) n c) (.int .i64 (p : Int))).run Try.prog w = .ok (.pointer (some ⟨b, o + p * 3, none⟩)) w := by
  simp [Instr.indexAt, go_sem]
  intro h
  omega

/-- A box of two cells that has been laid, later on. -/
theorem dbox {W w' : World} {v0 v1 : Value} {t : TypeId} (hb : Below (W.heap.size + 1) (W.alloc (.cells #[v0, v1] t)) w') :
    w'.cell? ⟨W.heap.size, 0, none⟩ = some v0 ∧ w'.cell? ⟨W.heap.size, 1, none⟩ = some v1 ∧ W.heap.size < w'.heap.size ∧ Below W.heap.size W w' := by
  have hs := hb.size
  have g := (hb.block W.heap.size (by omega)).trans (blk_alloc_new W (.cells #[v0, v1] t))
  refine ⟨?_, ?_, by simp at hs; omega, (below_alloc _ _).trans (hb.mono (by omega))⟩
  · simp [World.cell?, g]
  · simp [World.cell?, g]

theorem tbox (w : World) (v0 v1 v2 : Value) (nq : Nat) : ((w.alloc (.cells #[v0, v1, v2] 57)).drewN nq).cell? ⟨w.heap.size, 0, none⟩ = some v0 ∧ w.heap.size < ((w.alloc (.cells #[v0, v1, v2] 57)).drewN nq).heap.size := by
  have hb : Below (w.heap.size + 1) (w.alloc (.cells #[v0, v1, v2] 57)) ((w.alloc (.cells #[v0, v1, v2] 57)).drewN nq) := below_drewN (Below.refl _ _) nq
  have g := (hb.block w.heap.size (by omega)).trans (blk_alloc_new w (.cells #[v0, v1, v2] 57))
  have hs := hb.size
  simp only [World.size_alloc] at hs
  exact ⟨by unfold World.cell?; rw [g]; rfl, by omega⟩
end Go.Proofs.Ytfcffpgiijnmjaa
