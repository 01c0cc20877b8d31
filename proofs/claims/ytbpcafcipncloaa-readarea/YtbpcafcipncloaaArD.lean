import Derived.Test.YtbpcafcipncloaaPayA
import Derived.Test.YtbpcafcipncloaaRecW
import Derived.Test.YtbpcafcipncloaaValid
namespace Go.Proofs.Ytbpcafcipncloaa
open Go.RowKit Go.Deep
set_option linter.unusedVariables false
set_option maxRecDepth 100000

section
variable (sec : Nat → Nat → Int) (ns A b0 : Nat) (first : Int)
/-- How many sectors the record at s claims. -/
def arK (s : Nat) : Nat := (getN (sec s) 6 2).toNat
/-- The sectors from s on. -/
def arG (s : Nat) (i : Nat) : Nat → Int := sec (s + i)
/-- Whether a record with this number lies at sector u of the area, and within it. -/
def arOk (u : Nat) (q : Int) : Prop := b0 + u < ns ∧ recOk (arG sec (b0 + u)) ((ns : Int) - ((b0 + u : Nat) : Int)) q ∧ u + arK sec (b0 + u) ≤ A
/-- The sectors in use behind j records. -/
def arU : Nat → Nat
  | 0 => 0
  | j + 1 => arU j + arK sec (b0 + arU j)
/-- Whether there is a record j. -/
def arGood (j : Nat) : Prop := first + j ≤ 2000000000 ∧ arOk sec ns A b0 (arU sec b0 j) (first + j)
def arL (j : Nat) : Nat := catL (recLz (arG sec (b0 + arU sec b0 j))) (arK sec (b0 + arU sec b0 j))
def arF (j : Nat) : Nat → Int := catF (recLz (arG sec (b0 + arU sec b0 j))) (recFz (arG sec (b0 + arU sec b0 j))) (arK sec (b0 + arU sec b0 j))
end

/-- What ReadArea hands back. -/
def RetA (w : World) (ok : Bool) (m : Nat) (L : Nat → Nat) (F : Nat → Nat → Int) (us nx : Int) (e : Ending) (w' : World) : Prop :=
  ∃ p c A, e = .returned (.agg #[.bool ok, .slice p m c, .int .i64 us, .int .i64 nx]) ∧ OwnY w' w.heap.size p m L F A ∧ Below w.heap.size w w'

theorem arK_pos {sec : Nat → Nat → Int} {ns A b0 u : Nat} {q : Int} (h : arOk sec ns A b0 u q) : 1 ≤ arK sec (b0 + u) ∧ arK sec (b0 + u) ≤ 625 ∧ ((arK sec (b0 + u) : Nat) : Int) = getN (sec (b0 + u)) 6 2 := by
  obtain ⟨_, ⟨h1, h2, _⟩, _⟩ := h
  unfold arG at h1 h2
  rw [Nat.add_zero] at h1 h2
  unfold arK
  omega

theorem arU_le {sec : Nat → Nat → Int} {ns A b0 : Nat} {first : Int} : ∀ J, (∀ j, j < J → arGood sec ns A b0 first j) → arU sec b0 J ≤ A ∧ J ≤ arU sec b0 J
  | 0, _ => ⟨Nat.zero_le _, Nat.zero_le _⟩
  | J + 1, h => by
    obtain ⟨_, h2⟩ := h J (by omega)
    have h3 := (arK_pos h2).1
    have h4 := arU_le J (fun j hj => h j (by omega))
    have h5 := h2.2.2
    show arU sec b0 J + arK sec (b0 + arU sec b0 J) ≤ A ∧ J + 1 ≤ arU sec b0 J + arK sec (b0 + arU sec b0 J)
    omega

theorem arL_le {sec : Nat → Nat → Int} {ns A b0 : Nat} {first : Int} {j : Nat} (h : arGood sec ns A b0 first j) : arL sec b0 j ≤ 30000 := by
  obtain ⟨_, h2⟩ := h
  obtain ⟨k1, k2, k3⟩ := arK_pos h2
  obtain ⟨_, ⟨_, _, _, h4⟩, _⟩ := h2
  have e : getN (arG sec (b0 + arU sec b0 j) 0) 6 2 = ((arK sec (b0 + arU sec b0 j) : Nat) : Int) := by
    rw [k3]; unfold arG; rw [Nat.add_zero]
  rw [e] at h4
  have h5 := catL_le (G := arG sec (b0 + arU sec b0 j)) (seq := first + j) (K := arK sec (b0 + arU sec b0 j)) (arK sec (b0 + arU sec b0 j)) (fun x hx => h4 x (by omega))
  unfold arL
  omega

/-- There is a last record. -/
theorem ar_last (sec : Nat → Nat → Int) (ns A b0 : Nat) (first : Int) (h0 : 1 ≤ first) : ∃ J, (∀ j, j < J → arGood sec ns A b0 first j) ∧ ¬ arGood sec ns A b0 first J := by
  have key : ∀ k : Nat, (∀ j, j < k → arGood sec ns A b0 first j) ∨ ∃ J, J < k ∧ (∀ j, j < J → arGood sec ns A b0 first j) ∧ ¬ arGood sec ns A b0 first J := by
    intro k
    induction k with
    | zero => exact Or.inl (fun j hj => absurd hj (Nat.not_lt_zero _))
    | succ k ih =>
      rcases ih with h | ⟨J, h1, h2⟩
      · by_cases hg : arGood sec ns A b0 first k
        · exact Or.inl (fun j hj => by
            by_cases e : j = k
            · subst e; exact hg
            · exact h j (by omega))
        · exact Or.inr ⟨k, by omega, h, hg⟩
      · exact Or.inr ⟨J, by omega, h2⟩
  rcases key (A + 1) with h | ⟨J, _, h⟩
  · refine ⟨A + 1, h, fun hg => ?_⟩
    have := arU_le (A + 1) h
    omega
  · exact ⟨J, h⟩

set_option maxHeartbeats 400000 in
theorem areaSectors_any (a p : Option Addr) (n c m q : Nat) (fuel : Int) (dead : Bool) (A : Nat) (w : World) (hn : n ≤ 1048576) (h16 : 16 ≤ n / 64) (hA : A = (n / 64 - 2) / 2) :
    Calls Try.prog 61 #[.agg #[.slice a n c, .slice p m q, .int .i64 fuel, .bool dead]] w fun e w' => e = .returned (.int .i64 A) ∧ Below w.heap.size w w' := by
  have e1 : IntKind.i64.wrap ((n : Int) / 64 - 2) = (n : Int) / 64 - 2 := by rw [IntKind.wrap_i64]; omega
  have e2 : ((n : Int) / 64 - 2).tdiv 2 = (A : Int) := by rw [Int.tdiv_eq_ediv_of_nonneg (by omega)]; omega
  have e3 : IntKind.i64.wrap (A : Int) = (A : Int) := by rw [IntKind.wrap_i64]; omega
  have HA : Hid (A = (n / 64 - 2) / 2) := hA
  clear hA
  go_enter Try.func61, Try.ntmps61
  go_wp2_with fail
  refine (sectorCount_any a p n c m q fuel dead _ hn).mono ?_
  rintro e w1 ⟨rfl, hb1⟩
  have HX : Hid (Below w.heap.size w w1) := (below_alloc _ _).trans (hb1.mono (by simp))
  clear hb1
  go_wp2
  go_ret
  exact ⟨rfl, HX.out⟩

set_option maxHeartbeats 400000 in
theorem areaBegin_any (a p : Option Addr) (n c m q : Nat) (fuel : Int) (dead : Bool) (A ar : Nat) (x : Int) (w : World) (hn : n ≤ 1048576) (h16 : 16 ≤ n / 64) (hA : A = (n / 64 - 2) / 2) (hx : x = (ar : Int)) (har : ar ≤ 1) :
    Calls Try.prog 60 #[.agg #[.slice a n c, .slice p m q, .int .i64 fuel, .bool dead], .int .i64 x] w fun e w' => e = .returned (.int .i64 ((2 + ar * A : Nat) : Int)) ∧ Below w.heap.size w w' := by
  have hm1 : x * (A : Int) = ((ar * A : Nat) : Int) := by rw [hx]; simp
  have hm2 : ar * A ≤ 8192 := by
    have : ar * A ≤ 1 * A := Nat.mul_le_mul_right _ har
    omega
  have e1 : IntKind.i64.wrap (x * (A : Int)) = ((ar * A : Nat) : Int) := by rw [IntKind.wrap_i64, hm1]; omega
  have e2 : IntKind.i64.wrap (2 + ((ar * A : Nat) : Int)) = ((2 + ar * A : Nat) : Int) := by rw [IntKind.wrap_i64]; omega
  have HE : Hid (2 + ((ar * A : Nat) : Int) = ((2 + ar * A : Nat) : Int)) := by show _ = _; omega
  obtain ⟨z, hz⟩ : ∃ z : Int, z = ((ar * A : Nat) : Int) := ⟨_, rfl⟩
  obtain ⟨y, hy⟩ : ∃ y : Int, y = ((2 + ar * A : Nat) : Int) := ⟨_, rfl⟩
  rw [← hz] at e1 e2
  rw [← hy] at e2 ⊢
  clear hm1 hm2 hx HE hz hy
  have HA : Hid (A = (n / 64 - 2) / 2) := hA
  clear hA
  go_enter Try.func60, Try.ntmps60
  go_wp2_with fail
  refine (areaSectors_any a p n c m q fuel dead A _ hn h16 HA.out).mono ?_
  rintro e w1 ⟨rfl, hb1⟩
  have HX : Hid (Below w.heap.size w w1) := (below_alloc _ _).trans (hb1.mono (by simp))
  clear hb1
  go_wp2
  go_ret
  exact ⟨rfl, HX.out⟩
end Go.Proofs.Ytbpcafcipncloaa
