import Derived.Test.YtfbhlegkpmcfoaaLate
import Derived.Test.YtfbhlegkpmcfoaaSecS
namespace Go.Proofs.Ytfbhlegkpmcfoaa
open Go
set_option linter.unusedVariables false
set_option maxRecDepth 100000

/-- An operation whose guard keeps it from being done. -/
theorem late_skip {l : List Oper} {P : Program} {Q : Exit → Act → World → Prop} {S : World → Prop} {late : Nat} (i : Nat) {oi : Oper} (hp : Pick i l oi) {fuel : Nat} {listed : Array Bool} {a : Act} {w : World}
    (hs : Region.noSelect l.toArray = true) (hf : Region.free .any l.toArray listed i = true) (hr : (Region.ready .any l.toArray listed).contains i = true) (hwt : waitsB l.toArray listed i late (behind l.toArray i 8) = true)
    (hQ : ∀ c a w, Q (.panic c) (a.put oi.dst undef) w → Q (.panic c) a w) (hw : Region.wanted oi (yielded l.toArray a.tmps) = false) (hS : S w)
    (h : wpLate P .any l.toArray Q S late fuel (listed.setIfInBounds i true) (a.put oi.dst undef) w) : wpLate P .any l.toArray Q S late (fuel + 1) listed a w :=
  wpLate_take 8 hp.get hs hf hr hwt hQ (Or.inr ⟨hw, rfl⟩) hS h

/-- Calls with one argument, as steps. -/
theorem step_validSuper {ops : Array Oper} {o : Oper} {a : Act} {w : World} {K : Act → World → Prop} {Q : Exit → Act → World → Prop} {E : Prop} {t : TypeId} (hw : Region.wanted o (yielded ops a.tmps) = true) (x : Nat)
    (ho : o.op = .call { callee := .value (.func 41), args := #[.tmp x], argTypes := #[t] }) (v : Value) (hx : a.tmps[x]?.getD undef = v)
    (h : Calls Try.prog 41 #[v] w fun e w' => ∃ u, e = .returned u ∧ K (a.put o.dst u) w') :
    if Region.wanted o (yielded ops a.tmps) = true then Oper.wp Try.prog o a w K Q else E := by
  rw [if_pos hw]
  unfold Oper.wp
  simp [execOp, ho, resolve, invoke, hx, go_sem]
  refine h.mono ?_
  rintro e w' ⟨u, rfl, hk⟩
  exact hk

theorem step_superSector {ops : Array Oper} {o : Oper} {a : Act} {w : World} {K : Act → World → Prop} {Q : Exit → Act → World → Prop} {E : Prop} {t : TypeId} (hw : Region.wanted o (yielded ops a.tmps) = true) (x : Nat)
    (ho : o.op = .call { callee := .value (.func 67), args := #[.tmp x], argTypes := #[t] }) (v : Value) (hx : a.tmps[x]?.getD undef = v)
    (h : Calls Try.prog 67 #[v] w fun e w' => ∃ u, e = .returned u ∧ K (a.put o.dst u) w') :
    if Region.wanted o (yielded ops a.tmps) = true then Oper.wp Try.prog o a w K Q else E := by
  rw [if_pos hw]
  unfold Oper.wp
  simp [execOp, ho, resolve, invoke, hx, go_sem]
  refine h.mono ?_
  rintro e w' ⟨u, rfl, hk⟩
  exact hk

theorem exec_load_sec {act : Act} {o : Oper} {p : Nat} {g : Nat} {f : Nat → Int} {w : World} (ho : o.op = .load 92 (.tmp p)) (hp : act.tmps.getD p undef = .pointer (some ⟨g, 0, none⟩)) (hs : Sec w g f) : (execOp act.eval o).run Try.prog w = .ok (.value (.agg (secA f))) w := by
  have h := hs.load
  simp only [execOp, ho, Act.eval]
  rw [Sem.run_bind, hp, h]
  rfl
end Go.Proofs.Ytfbhlegkpmcfoaa
