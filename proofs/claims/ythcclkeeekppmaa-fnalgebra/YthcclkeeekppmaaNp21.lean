import Derived.Test.YthcclkeeekppmaaNp19
import Derived.Test.YthcclkeeekppmaaNm1
import Derived.Test.YthcclkeeekppmaaNp18
import Derived.Test.YthcclkeeekppmaaNp20
import Derived.Test.YthcclkeeekppmaaNp3
import Derived.Test.YthcclkeeekppmaaNp7
namespace Go.Proofs.Ythcclkeeekppmaa
set_option linter.unusedVariables false

/-- The reader, told as a function of its state. -/
def kdS (T : Nat → Tok) : (Nat × Nat × List Nd) ⊕ (Int × Int) → Nat
  | .inl s => (T s.1).c
  | .inr _ => 0
/-- What taking a string gives. -/
def tkQ (T : Nat → Tok) : (Nat × Nat × List Nd) ⊕ (Int × Int) → List Int
  | .inl s => if (T s.1).c = 14 then (T s.1).q else []
  | .inr _ => []
def loopF (T : Nat → Tok) (t : Nat → Bool) (body : Nat → (Nat × Nat × List Nd) ⊕ (Int × Int) → (Nat × Nat × List Nd) ⊕ (Int × Int)) : Nat → (Nat × Nat × List Nd) ⊕ (Int × Int) → (Nat × Nat × List Nd) ⊕ (Int × Int)
  | 0, σ => σ
  | g + 1, σ => if t (kdS T σ) = true then loopF T t body g (body (kdS T σ) σ) else σ

section
variable (T : Nat → Tok) (A : Nat → Nat)
def callF (c : Nat) (σ : (Nat × Nat × List Nd) ⊕ (Int × Int)) : (Nat × Nat × List Nd) ⊕ (Int × Int) :=
  emP ⟨c, tkQ T (tkP T A 11 (tkP T A c σ)), []⟩ (tkP T A 12 (tkP T A 14 (tkP T A 11 (tkP T A c σ))))
def hasF (σ : (Nat × Nat × List Nd) ⊕ (Int × Int)) : (Nat × Nat × List Nd) ⊕ (Int × Int) :=
  emP ⟨5, tkQ T (tkP T A 11 (tkP T A 5 σ)), tkQ T (tkP T A 13 (tkP T A 14 (tkP T A 11 (tkP T A 5 σ))))⟩ (tkP T A 12 (tkP T A 14 (tkP T A 13 (tkP T A 14 (tkP T A 11 (tkP T A 5 σ))))))
def moveF (σ : (Nat × Nat × List Nd) ⊕ (Int × Int)) : (Nat × Nat × List Nd) ⊕ (Int × Int) :=
  if kdS T σ = 4 then callF T A 4 σ else if kdS T σ = 5 then hasF T A σ else callF T A 3 σ
def recF (rec : (Nat × Nat × List Nd) ⊕ (Int × Int) → (Nat × Nat × List Nd) ⊕ (Int × Int)) : (Nat × Nat × List Nd) ⊕ (Int × Int) → (Nat × Nat × List Nd) ⊕ (Int × Int)
  | .inl s => rec (.inl s)
  | .inr x => .inr x
def innerF (rec : (Nat × Nat × List Nd) ⊕ (Int × Int) → (Nat × Nat × List Nd) ⊕ (Int × Int)) (σ : (Nat × Nat × List Nd) ⊕ (Int × Int)) : (Nat × Nat × List Nd) ⊕ (Int × Int) := tkP T A 12 (recF rec (tkP T A 11 σ))
def primF (rec : (Nat × Nat × List Nd) ⊕ (Int × Int) → (Nat × Nat × List Nd) ⊕ (Int × Int)) (σ : (Nat × Nat × List Nd) ⊕ (Int × Int)) : (Nat × Nat × List Nd) ⊕ (Int × Int) :=
  if kdS T σ = 1 then emP ⟨1, [], []⟩ (tkP T A 1 σ) else if kdS T σ = 2 then callF T A 2 σ
  else if kdS T σ = 9 then emP ⟨9, tkQ T (tkP T A 9 σ), []⟩ (innerF T A rec (tkP T A 14 (tkP T A 9 σ))) else innerF T A rec σ
def stepF (m : Nat) (rec : (Nat × Nat × List Nd) ⊕ (Int × Int) → (Nat × Nat × List Nd) ⊕ (Int × Int)) (σ : (Nat × Nat × List Nd) ⊕ (Int × Int)) : (Nat × Nat × List Nd) ⊕ (Int × Int) :=
  loopF T (fun c => decide (c = 10)) (fun _ σ => moveF T A (tkP T A 10 σ)) m (primF T A rec σ)
def meetF (m : Nat) (rec : (Nat × Nat × List Nd) ⊕ (Int × Int) → (Nat × Nat × List Nd) ⊕ (Int × Int)) (σ : (Nat × Nat × List Nd) ⊕ (Int × Int)) : (Nat × Nat × List Nd) ⊕ (Int × Int) :=
  loopF T (fun c => decide (c = 6)) (fun _ σ => emP ⟨6, [], []⟩ (stepF T A m rec (tkP T A 6 σ))) m (stepF T A m rec σ)
def pathF (m : Nat) : Nat → (Nat × Nat × List Nd) ⊕ (Int × Int) → (Nat × Nat × List Nd) ⊕ (Int × Int)
  | 0, σ => σ
  | g + 1, σ => loopF T (fun c => decide (c = 7 ∨ c = 8)) (fun c σ => emP ⟨c, [], []⟩ (meetF T A m (pathF m g) (tkP T A c σ))) m (meetF T A m (pathF m g) σ)
variable {T A}

variable {m : Nat}
end
end Go.Proofs.Ythcclkeeekppmaa

namespace Go.Proofs.Ythcclkeeekppmaa
set_option linter.unusedVariables false

section
variable {T : Nat → Tok} {A : Nat → Nat} {m : Nat}
/-- A good state of the reader. -/
def Okk (T : Nat → Tok) (m : Nat) (s : Nat × Nat × List Nd) : Prop := s.1 < m ∧ (T s.1).c ≠ 0 ∧ s.2.1 ≤ 100
/-- What comes out lies at least a tokens behind. -/
def Up (T : Nat → Tok) (m a : Nat) (σ σ' : (Nat × Nat × List Nd) ⊕ (Int × Int)) : Prop := ∀ s', σ' = .inl s' → ∃ s, σ = .inl s ∧ s.1 + a ≤ s'.1 ∧ (Okk T m s → Okk T m s')
theorem Up.refl (σ : (Nat × Nat × List Nd) ⊕ (Int × Int)) : Up T m 0 σ σ := fun s' e => ⟨s', e, Nat.le_refl _, id⟩
theorem Up.trans {a b : Nat} {σ σ1 σ2 : (Nat × Nat × List Nd) ⊕ (Int × Int)} (h : Up T m a σ σ1) (k : Up T m b σ1 σ2) : Up T m (a + b) σ σ2 := fun s' e => by
  obtain ⟨s1, e1, k1, k2⟩ := k s' e
  obtain ⟨s, e0, h1, h2⟩ := h s1 e1
  exact ⟨s, e0, by omega, fun q => k2 (h2 q)⟩
theorem Up.em {a : Nat} {σ σ' : (Nat × Nat × List Nd) ⊕ (Int × Int)} (h : Up T m a σ σ') (x : Nd) : Up T m a σ (emP x σ') := fun s' e => by
  cases σ' with
  | inr y => cases e
  | inl s1 =>
    cases e
    obtain ⟨s, e0, h1, h2⟩ := h s1 rfl
    exact ⟨s, e0, h1, fun q => h2 q⟩
/-- The whole: what the reader has made. -/
def topF (T : Nat → Tok) (A : Nat → Nat) (m : Nat) : (Nat × Nat × List Nd) ⊕ (Int × Int) := tkP T A 15 (pathF T A m m (nrm T A 0 0 []))
end
end Go.Proofs.Ythcclkeeekppmaa

namespace Go.Proofs.Ythcclkeeekppmaa
open Go.RowKit Go.Deep
set_option linter.unusedVariables false
set_option maxRecDepth 100000

/-- A list of nodes, told by its places. -/
def nI (l : List Nd) (i : Nat) : Int := ((l.getD i ⟨0, [], []⟩).k : Int)
def nX (l : List Nd) (i : Nat) : ByteArray := strT (l.getD i ⟨0, [], []⟩).s
def nR (l : List Nd) (i : Nat) : ByteArray := strT (l.getD i ⟨0, [], []⟩).t
theorem ndR_get : ∀ (l : List Nd) (i j : Nat), i < l.length → j < 3 → (ndR l)[i * 3 + j]? = (ndC (l.getD i ⟨0, [], []⟩))[j]?
  | [], i, j, h, _ => absurd h (Nat.not_lt_zero _)
  | x :: l, 0, j, h, hj => by
    show (ndC x ++ ndR l)[0 * 3 + j]? = _
    rw [List.getElem?_append_left (by rw [ndC_length]; omega), Nat.zero_mul, Nat.zero_add]
    rfl
  | x :: l, i + 1, j, h, hj => by
    show (ndC x ++ ndR l)[(i + 1) * 3 + j]? = _
    rw [List.getElem?_append_right (by rw [ndC_length]; omega), ndC_length, show (i + 1) * 3 + j - 3 = i * 3 + j by omega]
    rw [ndR_get l i j (by simpa using h) hj]
    rfl
theorem NdA.rd {w : World} {B : Nat} {v : Value} {l : List Nd} (h : NdA w B v l) : ∃ a c, v = .slice a l.length c ∧ l.length ≤ c ∧ c ≤ 9223372036854775807 ∧ RdN w a l.length (nI l) (nX l) (nR l) := by
  obtain ⟨h0, ⟨e, h1⟩ | ⟨g, cap, cur, e, hg, hh, h1, h2, h3, h4⟩⟩ := h
  · exact ⟨none, 0, by rw [h1]; exact e, by omega, by omega, .inl h1⟩
  · refine ⟨_, cap, e, h1, h2, .inr ⟨g, 0, rfl, fun i hi => ?_⟩⟩
    have cell : ∀ j, j < 3 → w.cell? ⟨g, i * 3 + j, none⟩ = (ndC (l.getD i ⟨0, [], []⟩))[j]? := by
      intro j hj
      rw [← ndR_get l i j hi hj, ← h4]
      unfold World.cell?
      rw [hh, List.getElem?_take, if_pos (by omega)]
      simp
    rw [Nat.zero_add]
    exact ⟨cell 0 (by omega), cell 1 (by omega), cell 2 (by omega)⟩
/-- What ParsePath answers. -/
def PAns (f : Nat → Int) (n m : Nat) (er at_ : Int) (l : List Nd) : Prop :=
  (2000 < n ∧ er = 1 ∧ at_ = 0 ∧ l = []) ∨
  (n ≤ 2000 ∧ ∃ x, topF (tkF f n) (tkPos f n) m = .inr x ∧ x.1 ≠ 0 ∧ er = x.1 ∧ at_ = x.2 ∧ l = []) ∨
  (n ≤ 2000 ∧ ∃ r, topF (tkF f n) (tkPos f n) m = .inl r ∧ ¬ VPth r.2.2.length (nI r.2.2) (nX r.2.2) (nR r.2.2) ∧ er = 5 ∧ at_ = n ∧ l = []) ∨
  (n ≤ 2000 ∧ ∃ r, topF (tkF f n) (tkPos f n) m = .inl r ∧ VPth r.2.2.length (nI r.2.2) (nX r.2.2) (nR r.2.2) ∧ er = 0 ∧ at_ = 0 ∧ l = r.2.2)
theorem PAns.same {f : Nat → Int} {n m : Nat} {er at_ er' at' : Int} {l l' : List Nd} (h : PAns f n m er at_ l) (h' : PAns f n m er' at' l') : er = er' ∧ at_ = at' ∧ l = l' := by
  rcases h with ⟨h0, rfl, rfl, rfl⟩ | ⟨h0, x, e, hx, rfl, rfl, rfl⟩ | ⟨h0, r, e, hv, rfl, rfl, rfl⟩ | ⟨h0, r, e, hv, rfl, rfl, rfl⟩
  · rcases h' with ⟨k0, rfl, rfl, rfl⟩ | ⟨k0, _⟩ | ⟨k0, _⟩ | ⟨k0, _⟩
    · exact ⟨rfl, rfl, rfl⟩
    all_goals omega
  · rcases h' with ⟨k0, _⟩ | ⟨k0, x', e', hx', rfl, rfl, rfl⟩ | ⟨k0, r', e', _⟩ | ⟨k0, r', e', _⟩
    · omega
    · rw [e] at e'; cases e'; exact ⟨rfl, rfl, rfl⟩
    · rw [e] at e'; cases e'
    · rw [e] at e'; cases e'
  · rcases h' with ⟨k0, _⟩ | ⟨k0, x', e', _⟩ | ⟨k0, r', e', hv', rfl, rfl, rfl⟩ | ⟨k0, r', e', hv', _⟩
    · omega
    · rw [e] at e'; cases e'
    · exact ⟨rfl, rfl, rfl⟩
    · rw [e] at e'; cases e'; exact absurd hv' hv
  · rcases h' with ⟨k0, _⟩ | ⟨k0, x', e', _⟩ | ⟨k0, r', e', hv', _⟩ | ⟨k0, r', e', hv', rfl, rfl, rfl⟩
    · omega
    · rw [e] at e'; cases e'
    · rw [e] at e'; cases e'; exact absurd hv hv'
    · rw [e] at e'; cases e'; exact ⟨rfl, rfl, rfl⟩
end Go.Proofs.Ythcclkeeekppmaa

namespace Go.Proofs.Ythcclkeeekppmaa
open Go.RowKit Go.Deep
set_option linter.unusedVariables false
set_option maxRecDepth 100000

/-- The bytes x stand at p. -/
def AtB (f : Nat → Int) (n p : Nat) (x : List Int) : Prop := p + x.length ≤ n ∧ ∀ j (h : j < x.length), f (p + j) = x[j]
section
variable {f : Nat → Int} {n k p : Nat}
end
end Go.Proofs.Ythcclkeeekppmaa

namespace Go.Proofs.Ythcclkeeekppmaa
open Go.RowKit Go.Deep
set_option linter.unusedVariables false
set_option maxRecDepth 100000

section
variable {T : Nat → Tok} {A : Nat → Nat} {m : Nat}
end
end Go.Proofs.Ythcclkeeekppmaa
