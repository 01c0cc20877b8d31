import Derived.Test.YthcclkeeekppmaaPaN
import Derived.Maps.AppendAt
namespace Go.Proofs.Ythcclkeeekppmaa
open Go.RowKit Go.Deep
set_option linter.unusedVariables false
set_option maxRecDepth 100000

theorem addN3 {b o i : Nat} : (Addr.add ⟨b, o, none⟩ i) = ⟨b, o + i, none⟩ := by
  unfold Addr.add
  by_cases h : i = 0
  · subst h; simp
  · simp [h]

theorem runFromN (b o r c lo : Nat) (h1 : lo ≤ r) (h2 : r ≤ c) (h3 : lo < c) (w : World) : (Instr.sliceAt 23 (.slice (some ⟨b, o, none⟩) r c) (some (.int .i64 (lo : Int))) none none).run Try.prog w = .ok (.slice (some ⟨b, o + lo * 3, none⟩) (r - lo) (c - lo)) w := by
  simp [Instr.sliceAt, Instr.slice, go_sem]
  rw [if_pos h1, if_neg (show ¬ c = lo by omega)]

theorem runToN (b o r c hi : Nat) (h1 : hi ≤ c) (w : World) : (Instr.sliceAt 23 (.slice (some ⟨b, o, none⟩) r c) none (some (.int .i64 (hi : Int))) none).run Try.prog w = .ok (.slice (some ⟨b, o, none⟩) hi c) w := by
  simp [Instr.sliceAt, Instr.slice, go_sem]
  intro h
  omega

theorem underPss : Try.prog.underlying 103 = some (.slice 23) := by kernel_rfl
theorem infoPns : (Try.prog.info? 23).map (fun i => (i.zero, i.size, i.bytes)) = some (some (.slice none 0 0), 1, 24) := by kernel_rfl

theorem RdN.take {w : World} {a : Option Addr} {n r : Nat} {I : Nat → Int} {X R : Nat → ByteArray} (h : RdN w a n I X R) (hr : r ≤ n) : RdN w a r I X R := by
  rcases h with h | ⟨b, o, rfl, hc⟩
  · exact Or.inl (by omega)
  · exact Or.inr ⟨b, o, rfl, fun i hi => hc i (by omega)⟩

/-- A list of slices that can be read. -/
def KidsAt (W : World) (v : Value) (ks : List Value) : Prop := ∃ g cp, v = .slice (some ⟨g, 0, none⟩) ks.length cp ∧ ∀ i x, ks[i]? = some x → W.cell? ⟨g, i, none⟩ = some x

/-- The operands that have been cut off when j are. -/
def KidsOf (A : Nat → Nat) (b o c n j r : Nat) (ks : List Value) : Prop :=
  (j = 0 ∧ r = n - 1 ∧ ks = []) ∨ (j = 1 ∧ Begins A (n - 1) r ∧ ks = [.slice (some ⟨b, o + r * 3, none⟩) (n - 1 - r) (c - r)]) ∨
    (j = 2 ∧ r = 0 ∧ ∃ s, Begins A (n - 1) s ∧ Begins A s 0 ∧ ks = [.slice (some ⟨b, o, none⟩) s c, .slice (some ⟨b, o + s * 3, none⟩) (n - 1 - s) (c - s)])

/-- A whole tree's list: what its root's operands are. -/
theorem kids_math {A : Nat → Nat} {n : Nat} (hn : 0 < n) (h : Begins A n 0) (ha : A (n - 1) ≤ 2) :
    (A (n - 1) = 0 ∧ n = 1) ∨ (A (n - 1) = 1 ∧ Begins A (n - 1) 0) ∨ (A (n - 1) = 2 ∧ ∃ s, 0 < s ∧ Begins A (n - 1) s ∧ Begins A s 0) := by
  obtain ⟨hs, hd⟩ := (whole_iff A n hn).1 h
  obtain ⟨m, rfl⟩ : ∃ m, n = m + 1 := ⟨n - 1, by omega⟩
  rw [Nat.add_sub_cancel] at ha ⊢
  have h1 := dep_succ A m
  have hsm : StackOk A m := fun i hi => hs i (by omega)
  by_cases h0 : m = 0
  · subst h0
    have h2 : dep A 0 = 0 := rfl
    exact Or.inl ⟨by omega, rfl⟩
  · have hp := hsm.pos m (by omega) (Nat.le_refl _)
    by_cases h2 : A m = 1
    · exact Or.inr (Or.inl ⟨h2, (whole_iff A m (by omega)).2 ⟨hsm, by omega⟩⟩)
    · have h3 : A m = 2 := by omega
      obtain ⟨s, hb⟩ := hsm.begins m (by omega) (Nat.le_refl _)
      have h4 := hb.2.1
      unfold need at h4
      have hs0 : 0 < s := by
        rcases Nat.eq_zero_or_pos s with e | e
        · subst e
          have h5 : dep A 0 = 0 := rfl
          omega
        · exact e
      have hss : StackOk A s := fun i hi => hsm i (by have := hb.1; omega)
      exact Or.inr (Or.inr ⟨h3, s, hs0, hb, (whole_iff A s hs0).2 ⟨hss, by omega⟩⟩)
end Go.Proofs.Ythcclkeeekppmaa
