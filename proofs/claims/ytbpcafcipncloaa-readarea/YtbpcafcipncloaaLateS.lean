import Derived.Test.YtbpcafcipncloaaLate
import Derived.Test.YtbpcafcipncloaaSecS
namespace Go.Proofs.Ytbpcafcipncloaa
open Go
set_option linter.unusedVariables false
set_option maxRecDepth 100000

/-- An operation whose guard keeps it from being done. -/
theorem late_skip {l : List Oper} {P : Program} {Q : Exit → Act → World → Prop} {S : World → Prop} {late : Nat} (i : Nat) {oi : Oper} (hp : Pick i l oi) {fuel : Nat} {listed : Array Bool} {a : Act} {w : World}
    (hs : Region.noSelect l.toArray = true) (hf : Region.free .any l.toArray listed i = true) (hr : (Region.ready .any l.toArray listed).contains i = true) (hwt : waitsB l.toArray listed i late (behind l.toArray i 8) = true)
    (hQ : ∀ c a w, Q (.panic c) (a.put oi.dst undef) w → Q (.panic c) a w) (hw : Region.wanted oi (yielded l.toArray a.tmps) = false) (hS : S w)
    (h : wpLate P .any l.toArray Q S late fuel (listed.setIfInBounds i true) (a.put oi.dst undef) w) : wpLate P .any l.toArray Q S late (fuel + 1) listed a w :=
  wpLate_take 8 hp.get hs hf hr hwt hQ (Or.inr ⟨hw, rfl⟩) hS h

theorem exec_load_sec {act : Act} {o : Oper} {p : Nat} {g : Nat} {f : Nat → Int} {w : World} (ho : o.op = .load 87 (.tmp p)) (hp : act.tmps.getD p undef = .pointer (some ⟨g, 0, none⟩)) (hs : Sec w g f) : (execOp act.eval o).run Try.prog w = .ok (.value (.agg (secA f))) w := by
  have h := hs.load
  simp only [execOp, ho, Act.eval]
  rw [Sem.run_bind, hp, h]
  rfl
end Go.Proofs.Ytbpcafcipncloaa
