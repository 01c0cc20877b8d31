import Derived.Test.YtakemeccigpbaaaTiP
import Derived.Test.YtakemeccigpbaaaTiN
import Derived.Test.YtakemeccigpbaaaTrF
import Derived.Deep.RegionHeld3
namespace Go.Proofs.Ytakemeccigpbaaa
open Go.RowKit Go.Deep
set_option linter.unusedVariables false
set_option maxRecDepth 100000

theorem list_of_ks {x : Tn} {t : List ByteArray} (h1 : x.kn = t.length) (h2 : ∀ j, j < t.length → x.ks j = gt t j) : t = ksL x := by
  apply List.ext_getElem?
  intro i
  by_cases h : i < t.length
  · unfold ksL
    rw [List.getElem?_eq_getElem h]
    have := h2 i h
    unfold gt at this
    rw [List.getD_eq_getElem?_getD, List.getElem?_eq_getElem h] at this
    simp only [Option.getD_some] at this
    simp [h1, h, this]
  · rw [List.getElem?_eq_none (by omega), List.getElem?_eq_none (by rw [ksL_length]; omega)]

/-- What a good tree at a leaf is. -/
theorem good_leaf {N : Nat → Tn} {n x : Nat} {dep D : Int} {hk : Bool} {lk : ByteArray} {d : Nat} {t : Ro (d + 1)} {D' : Int} {hk' : Bool} {lk' : ByteArray} (hlf : (N x).lf = true) (h : Good N n x dep D hk lk (d + 1) t D' hk' lk') :
    (N x).kn ≤ 4 ∧ (dep = 0 ∨ 2 ≤ (N x).kn) ∧ (N x).dn = 0 ∧ (D = 0 ∨ D = dep) ∧ Chain hk lk (ksL (N x)) hk' lk' ∧ (N x).ct = ((N x).kn : Int) := by
  rcases t with t | l
  · obtain ⟨q1, q2, q3, q4, q5⟩ := h.tl
    obtain ⟨hh, ⟨b1, b2, b3⟩, b4⟩ := h.bal
    have e := list_of_ks q2 q3
    subst b1
    have hd := h.dd
    rw [b4] at hd
    have ha : Chain hk lk t hk' lk' := h.asc
    rw [e] at ha
    refine ⟨by omega, ?_, q4, by simpa using hd, ha, by rw [q5, q2]⟩
    rcases b3 with b3 | b3
    · exact Or.inl (by simpa using b3)
    · exact Or.inr (by omega)
  · have := h.tl.1
    rw [hlf] at this
    cases this

end Go.Proofs.Ytakemeccigpbaaa
