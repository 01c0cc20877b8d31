import Derived.Test.YtakemeccigpbaaaTiIQ
import Derived.Test.YtakemeccigpbaaaTrXQ
namespace Go.Proofs.Ytakemeccigpbaaa
open Go.RowKit Go.Deep
set_option linter.unusedVariables false
set_option maxRecDepth 100000

theorem RetRd.from {N : Nat → Tn} {rb b o n c x : Nat} {dep D : Int} {hk : Bool} {lk : ByteArray} {d : Nat} {w W : World} {e : Ending} {w' : World} (h : RetRd N rb b o n c x dep D hk lk d W e w') (hg : w.grownBy W (some rb)) : RetRd N rb b o n c x dep D hk lk d w e w' := by
  obtain ⟨h1, v, ok, e1, h2⟩ := h
  refine ⟨grown_trans hg h1, v, ok, e1, ?_⟩
  rcases h2 with ⟨q1, t, D', hk', lk', q2, q3, q4⟩ | q
  · exact Or.inl ⟨q1, t, D', hk', lk', q2, q3, q4.mono (Nat.le_refl _) (fun bb hs _ => ⟨by have := hg.size; show w.heap.size ≤ bb; have hs' : W.heap.size ≤ bb := hs; omega, rfl⟩)⟩
  · exact Or.inr q

/-- What readTree leaves: the tree in memory where there is one. -/
def RetTree (w : World) (n : Nat) (N : Nat → Tn) (e : Ending) (w' : World) : Prop :=
  Below w.heap.size w w' ∧ ∃ v ok, e = .returned (.tuple #[v, .bool ok]) ∧
    ((ok = true ∧ ∃ (t : Ro n) (t' : Ro 21) (h : Nat), VTt n N t' ∧ keysR 21 t' = keysR n t ∧ BalR n true t h ∧ Tells N 0 n t 0 ∧ nodesR n t = n ∧ TAt (fun b => w.heap.size ≤ b) w' n t v) ∨ (ok = false ∧ ¬ VT n N))

end Go.Proofs.Ytakemeccigpbaaa
