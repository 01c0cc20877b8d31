import Derived.Test.YtakemeccigpbaaaTgNZ
namespace Go.Proofs.Ytakemeccigpbaaa
open Go.RowKit Go.Deep
set_option linter.unusedVariables false
set_option maxRecDepth 100000

section
variable {w w' : World} {B g n : Nat} {N : Nat → Tn} {KA DA : Nat → Option Addr} {KC DC : Nat → Nat}
theorem OwnTn.of (h : OwnTn w B g n N KA DA KC DC) (N1 : Nat → Tn) (hrow : rowIn w' g 88 (n * 4) (tnCell N1 KA DA KC DC)) (he : ∀ i, (N1 i).kn = (N i).kn ∧ (N1 i).dn = (N i).dn) (hk : ∀ i, i < n → OwnS w' B (KA i) (N1 i).kn (N1 i).ks) (hd : ∀ i, i < n → OwnI w' B (DA i) (N1 i).dn (N1 i).kd) : OwnTn w' B g n N1 KA DA KC DC := by
  refine ⟨h.le, hrow, hk, hd, fun i j hi hj hij h1 h2 => h.apartK i j hi hj hij ?_ ?_, fun i j hi hj hij h1 h2 => h.apartD i j hi hj hij ?_ ?_⟩
  · rw [← (he i).1]; exact h1
  · rw [← (he j).1]; exact h2
  · rw [← (he i).2]; exact h1
  · rw [← (he j).2]; exact h2

theorem OwnTn.count (h1 : OwnTn w B g n N KA DA KC DC) (k : Nat) (v : Int) : OwnTn (w.setCell ⟨g, k * 4 + 3, none⟩ (.int .i64 v)) B g n (fun i => if i = k then { N k with ct := v } else N i) KA DA KC DC := by
  refine OwnTn.of h1 (fun i => if i = k then { N k with ct := v } else N i) ((h1.row.set (k * 4 + 3) _).congr (fun c hc => ?_)) (fun i => ?_) (fun i hi => ?_) (fun i hi => ?_)
  · by_cases e1 : c = k * 4 + 3
    · subst e1; rw [if_pos rfl, tnCell_3]; simp
    · rw [if_neg e1]
      unfold tnCell
      by_cases e2 : c / 4 = k
      · have e3 : c % 4 = 0 ∨ c % 4 = 1 ∨ c % 4 = 2 := by omega
        rcases e3 with e3 | e3 | e3 <;> simp [e2, e3]
      · simp [e2]
  · by_cases e1 : i = k
    · subst e1; simp
    · simp [e1]
  · have q : OwnS w B (KA i) ((fun i => if i = k then { N k with ct := v } else N i) i).kn ((fun i => if i = k then { N k with ct := v } else N i) i).ks := by
      by_cases e1 : i = k
      · subst e1; simpa using h1.keys i hi
      · simpa [e1] using h1.keys i hi
    rcases q with q | ⟨b, q1, q2, q3⟩
    · exact .inl q
    · exact .inr ⟨b, q1, q2, q3.of_block (Below.heap_setCell _ _ _ _ (q3.ne h1.row (by decide)))⟩
  · have q : OwnI w B (DA i) ((fun i => if i = k then { N k with ct := v } else N i) i).dn ((fun i => if i = k then { N k with ct := v } else N i) i).kd := by
      by_cases e1 : i = k
      · subst e1; simpa using h1.kids i hi
      · simpa [e1] using h1.kids i hi
    rcases q with q | ⟨b, q1, q2, q3⟩
    · exact .inl q
    · exact .inr ⟨b, q1, q2, q3.of_block (Below.heap_setCell _ _ _ _ (q3.ne h1.row (by decide)))⟩

end
end Go.Proofs.Ytakemeccigpbaaa
