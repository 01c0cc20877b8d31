import Derived.Test.YtocmbnocdjnfpaaPpD
namespace Go.Proofs.Ytocmbnocdjnfpaa
open Go.RowKit Go.Deep
set_option linter.unusedVariables false
set_option maxRecDepth 100000

theorem getD_set_ne {l : Array Bool} {i j : Nat} {d : Bool} (h : i ≠ j) : (l.setIfInBounds i true).getD j d = l.getD j d := by
  rw [Array.getD_eq_getD_getElem?, Array.getD_eq_getD_getElem?, Array.getElem?_setIfInBounds_ne h]
theorem getD_set_self {l : Array Bool} {i : Nat} {d : Bool} (h : i < l.size) : (l.setIfInBounds i true).getD i d = true := by
  rw [Array.getD_eq_getD_getElem?, Array.getElem?_setIfInBounds_self_of_lt h]
  rfl
/-- A region that draws its order, by what is kept whatever comes up next. -/
theorem wpAny_inv {P : Program} {ops : Array Oper} {Q : Exit → Act → World → Prop} (Inv : Array Bool → Act → World → Prop)
    (hac : ∀ (i : Nat) (o : Oper), ops[i]? = some o → ∀ e ∈ o.after, e.on < i)
    (hst : ∀ (listed : Array Bool) (a : Act) (w : World) (i : Nat) (o : Oper), listed.size = ops.size → ops[i]? = some o → Inv listed a w → listed.getD i true = false → (∀ e ∈ o.after, Region.binds .any e = true → listed.getD e.on false = true) → if Region.wanted o (yielded ops a.tmps) = true then o.wp P a w (Inv (listed.setIfInBounds i true)) Q else Inv (listed.setIfInBounds i true) (a.put o.dst undef) w)
    (hdn : ∀ (listed : Array Bool) (a : Act) (w : World), listed.size = ops.size → Inv listed a w → (∀ i, i < ops.size → listed.getD i true = true) → Q .normal a w) :
    ∀ (fuel : Nat) (U : List Nat) (listed : Array Bool) (a : Act) (w : World), U.length ≤ fuel → (∀ i, i < ops.size → listed.getD i true = false → i ∈ U) → listed.size = ops.size → Inv listed a w → wpAny P .any ops Q fuel listed a w := by
  have hall : ∀ listed : Array Bool, listed.size = ops.size → Region.ready .any ops listed = [] → ∀ n i, i < n → i < ops.size → listed.getD i true = true := by
    intro listed hsz hr n
    induction n with
    | zero => exact fun i h => absurd h (Nat.not_lt_zero _)
    | succ n ih =>
      intro i hi hio
      by_cases e : i < n
      · exact ih i e hio
      · have ein : i = n := by omega
        cases hl : listed.getD i true with
        | true => rfl
        | false =>
          exfalso
          have : i ∈ Region.ready .any ops listed := by
            unfold Region.ready
            refine List.mem_filter.2 ⟨List.mem_range.2 hio, ?_⟩
            rw [hl, Array.getElem?_eq_getElem hio]
            simp only [Bool.not_false, Bool.true_and, Option.map_some, Option.getD_some, Array.all_eq_true_iff_forall_mem]
            intro e he
            have h1 := hac i _ (Array.getElem?_eq_getElem hio) e he
            have h2 := ih e.on (by omega) (by omega)
            have h3 : listed.getD e.on false = true := by
              have hlt : e.on < listed.size := by omega
              rw [Array.getD_eq_getD_getElem?, Array.getElem?_eq_getElem hlt] at h2 ⊢
              exact h2
            simp [h3]
          rw [hr] at this
          cases this
  intro fuel
  induction fuel with
  | zero =>
    intro U listed a w hU hin hsz hI
    have hU0 : U = [] := List.length_eq_zero_iff.1 (by omega)
    have hl : ∀ i, i < ops.size → listed.getD i true = true := fun i hi => by
      cases h : listed.getD i true with
      | true => rfl
      | false => have := hin i hi h; rw [hU0] at this; cases this
    refine ⟨?_, hdn listed a w hsz hI hl⟩
    unfold Region.ready
    rw [List.filter_eq_nil_iff]
    intro i hi
    rw [hl i (List.mem_range.1 hi)]
    simp
  | succ fuel ih =>
    intro U listed a w hU hin hsz hI
    refine ⟨fun hr => hdn listed a w hsz hI (fun i hi => hall listed hsz hr ops.size i hi hi), fun i hi => ?_⟩
    unfold Region.ready at hi
    obtain ⟨h1, h2⟩ := List.mem_filter.1 hi
    have hio := List.mem_range.1 h1
    rw [Array.getElem?_eq_getElem hio] at h2
    simp only [Option.map_some, Option.getD_some, Bool.and_eq_true, Bool.not_eq_true', Array.all_eq_true_iff_forall_mem, Bool.or_eq_true] at h2
    have hstep := hst listed a w i ops[i] hsz (Array.getElem?_eq_getElem hio) hI h2.1 (fun e he hb => by
      rcases h2.2 e he with q | q
      · rw [hb] at q; cases q
      · exact q)
    have hnext : ∀ a' w', Inv (listed.setIfInBounds i true) a' w' → wpAny P .any ops Q fuel (listed.setIfInBounds i true) a' w' := fun a' w' hI' => by
      have hiU := hin i hio h2.1
      refine ih (U.erase i) _ a' w' (by rw [List.length_erase_of_mem hiU]; omega) (fun j hj hl => ?_) (by simpa using hsz) hI'
      by_cases e : i = j
      · subst e
        rw [getD_set_self (by omega)] at hl
        cases hl
      · rw [getD_set_ne e] at hl
        exact (List.mem_erase_of_ne (fun q => e q.symm)).2 (hin j hj hl)
    unfold wpOp
    rw [Array.getElem?_eq_getElem hio]
    dsimp only
    split
    · rename_i hw
      rw [if_pos hw] at hstep
      exact .inl (Oper.wp_mono hnext hstep)
    · rename_i hw
      rw [if_neg hw] at hstep
      exact hnext _ _ hstep
end Go.Proofs.Ytocmbnocdjnfpaa
