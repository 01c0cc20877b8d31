import Derived.Test.YtfcffpgiijnmjaaTreeL
import Derived.Test.YtfcffpgiijnmjaaLate
namespace Go.Proofs.Ytfcffpgiijnmjaa
open Go.RowKit Go.Deep
set_option linter.unusedVariables false
set_option maxRecDepth 100000

theorem infoTr : (Try.prog.info? 42).map (fun i => (i.zero, i.size, i.bytes)) = some (some (.agg #[.slice none 0 0]), 1, 24) := by kernel_rfl
theorem underTrs : Try.prog.underlying 46 = some (.slice 42) := by kernel_rfl
theorem cellOf0 {w : World} {b : Nat} {u : Value} {t : TypeId} (h : w.heap[b]? = some (.cells #[u] t)) : w.cell? ⟨b, 0, none⟩ = some u := by simp [World.cell?, h]

/-- Calls without arguments, as steps. -/
theorem step_new_impl {ops : Array Oper} {o : Oper} {a : Act} {w : World} {K : Act → World → Prop} {Q : Exit → Act → World → Prop} {E : Prop} (hw : Region.wanted o (yielded ops a.tmps) = true)
    (ho : o.op = .call { callee := .value (.func 23), args := #[], argTypes := #[] })
    (h : Calls Try.prog 23 #[] w fun e w' => ∃ u, e = .returned u ∧ K (a.put o.dst u) w') :
    if Region.wanted o (yielded ops a.tmps) = true then Oper.wp Try.prog o a w K Q else E := by
  rw [if_pos hw]
  unfold Oper.wp
  simp [execOp, ho, resolve, invoke, go_sem]
  refine h.mono ?_
  rintro e w' ⟨u, rfl, hk⟩
  exact hk

theorem step_new_spec {ops : Array Oper} {o : Oper} {a : Act} {w : World} {K : Act → World → Prop} {Q : Exit → Act → World → Prop} {E : Prop} (hw : Region.wanted o (yielded ops a.tmps) = true)
    (ho : o.op = .call { callee := .value (.func 22), args := #[], argTypes := #[] })
    (h : Calls Try.prog 22 #[] w fun e w' => ∃ u, e = .returned u ∧ K (a.put o.dst u) w') :
    if Region.wanted o (yielded ops a.tmps) = true then Oper.wp Try.prog o a w K Q else E := by
  rw [if_pos hw]
  unfold Oper.wp
  simp [execOp, ho, resolve, invoke, go_sem]
  refine h.mono ?_
  rintro e w' ⟨u, rfl, hk⟩
  exact hk

theorem ownsRow_form1 {W : World} {B t s n : Nat} {u : Value} {xs : List Value} (h : W.ownsRow B t s u n xs) (hn : n ≠ 0) : ∃ g cap, u = .slice (some ⟨g, 0, none⟩) n cap := by
  rcases h.2 with ⟨_, h0⟩ | ⟨g, cap, cur, hv, _⟩
  · exact absurd h0 hn
  · exact ⟨g, cap, hv⟩

/-- '[]Tree{t}', as a step. -/
theorem step_bslice {ops : Array Oper} {o : Oper} {a : Act} {w : World} {K : Act → World → Prop} {Q : Exit → Act → World → Prop} {E : Prop} {x : Nat} {u : Value} (hw : Region.wanted o (yielded ops a.tmps) = true)
    (ho : o.op = .buildSlice 46 1 #[(0, .tmp x)]) (hx : a.tmps[x]?.getD undef = .agg #[u])
    (h : K (a.put o.dst (.slice (some ⟨w.heap.size, 0, none⟩) 1 1)) (w.alloc (.cells #[u] 42))) :
    if Region.wanted o (yielded ops a.tmps) = true then Oper.wp Try.prog o a w K Q else E := by
  rw [if_pos hw]
  unfold Oper.wp
  simp [execOp, ho, hx, go_sem]
  exact h

/-- 'append' of one tree to a row of the call's own, as a step. -/
theorem step_append_tree {ops : Array Oper} {o : Oper} {a : Act} {w : World} {K : Act → World → Prop} {Q : Exit → Act → World → Prop} {E : Prop} (hgd : o.guard = none) (x y : Operand)
    (ho : o.op = .call { callee := .builtin .append, args := #[x, y], argTypes := #[46, 46] })
    (B k : Nat) (v : Value) (xs : List Value) (hx : a.eval x = v) (hown : w.ownsRow B 42 1 v k xs) (b c : Nat) (u : Value) (hy : a.eval y = .slice (some ⟨b, 0, none⟩) 1 c)
    (hc : w.cell? ⟨b, 0, none⟩ = some u) (h0 : u.oneCell' = true) (hk : k ≤ 1048576) (hB : B ≤ w.heap.size)
    (h : ∀ v' w', w'.ownsRow B 42 1 v' (k + 1) (xs ++ [u]) → w.grownBy w' v.ownBlock → K (a.put o.dst v') w') :
    if Region.wanted o (yielded ops a.tmps) = true then Oper.wp Try.prog o a w K Q else E := by
  have hw : Region.wanted o (yielded ops a.tmps) = true := by simp [Region.wanted, hgd]
  rw [if_pos hw]
  obtain ⟨i0, hi, hz0, hz1, hz2⟩ := info_parts infoTr
  refine wp_append_own w x y 46 ho B 42 i0 _ 1 24 underTrs hi hz0 hz1 hz2 rfl (by decide) v k xs hx hown ⟨b, 0, none⟩ 1 c [u] hy rfl ?_ ?_ (by unfold maxLen; omega) (by omega) hB (fun v' w' q1 q2 _ => h v' w' q1 q2)
  · intro j u' hj
    match j, hj with
    | 0, hj => simp at hj; subst hj; simpa [Addr.add] using hc
    | j + 1, hj => simp at hj
  · intro u' hu
    simp at hu
    subst hu
    exact h0

/-- The index after k trees. -/
structure IxSt (w wr : World) (k : Nat) (v : Value) (G C : Nat → Nat) (A : Nat → Option Addr) : Prop where
  box : wr.heap[w.heap.size + 1]? = some (.cells #[v] 48)
  res : wr.heap[w.heap.size]? = some (.cells #[.slice none 0 0] 48)
  row : wr.ownsRow (w.heap.size + 2) 42 1 v k ((List.range k).map fun i => .slice (some ⟨G i, 0, none⟩) 1 (C i))
  each : ∀ i, i < k → w.heap.size + 2 ≤ G i ∧ rowIn wr (G i) 96 4 (leafCell (A i))
  apart : ∀ i, i < k → ∀ j, j < k → G i = G j → i = j
  below : Below w.heap.size w wr

/-- An index of six empty trees in new memory. -/
structure IxOk (w : World) (B g : Nat) (G C : Nat → Nat) (A : Nat → Option Addr) : Prop where
  le : B ≤ g
  row : rowIn w g 42 6 (fun i => .slice (some ⟨G i, 0, none⟩) 1 (C i))
  each : ∀ i, i < 6 → B ≤ G i ∧ rowIn w (G i) 96 4 (leafCell (A i))
  apart : ∀ i, i < 6 → ∀ j, j < 6 → G i = G j → i = j
def RetIx (w : World) (e : Ending) (w' : World) : Prop := ∃ g cap G C A, e = .returned (.agg #[.slice (some ⟨g, 0, none⟩) 6 cap]) ∧ IxOk w' w.heap.size g G C A ∧ Below w.heap.size w w'

theorem IxSt.start (w : World) : IxSt w ((w.alloc (.cells #[.slice none 0 0] 48)).alloc (.cells #[.slice none 0 0] 48)) 0 (.slice none 0 0) (fun _ => 0) (fun _ => 0) (fun _ => none) := by
  have e1 : (w.alloc (.cells #[.slice none 0 0] 48)).heap.size = w.heap.size + 1 := by simp
  have b0 := blk_alloc_new w (.cells #[.slice none 0 0] 48)
  have b1 := blk_alloc_new (w.alloc (.cells #[.slice none 0 0] 48)) (.cells #[.slice none 0 0] 48)
  rw [e1] at b1
  exact ⟨b1, ((below_alloc _ _).block _ (by omega)).trans b0, World.ownsRow_nil _ _ _ _, fun i hi => absurd hi (Nat.not_lt_zero _), fun i hi => absurd hi (Nat.not_lt_zero _), (below_alloc _ _).alloc (by simp) _⟩

section
variable {w wr : World} {k : Nat} {v : Value} {G C : Nat → Nat} {A : Nat → Option Addr}
theorem IxSt.boxCell (h : IxSt w wr k v G C A) : wr.cell? ⟨w.heap.size + 1, 0, none⟩ = some v := cellOf0 h.box
theorem IxSt.later (h : IxSt w wr k v G C A) {w2 : World} (hb : Below wr.drew.heap.size wr.drew w2) : Below wr.heap.size wr w2 := (Below.refl _ _).drew.trans hb
theorem ownsRow_block {W W' : World} {B t s n : Nat} {u : Value} {xs : List Value} (h : W.ownsRow B t s u n xs) (hb : ∀ g, g < W.heap.size → W'.heap[g]? = W.heap[g]?) : W'.ownsRow B t s u n xs := by
  refine ⟨h.1, ?_⟩
  rcases h.2 with h0 | ⟨g, cap, cur, hv, hg, hh, h1, h2, h3, h4⟩
  · exact Or.inl h0
  · exact Or.inr ⟨g, cap, cur, hv, hg, (hb g (Array.getElem?_eq_some_iff.1 hh).1).trans hh, h1, h2, h3, h4⟩
theorem IxSt.rowLater (h : IxSt w wr k v G C A) {w2 : World} (hb : Below wr.drew.heap.size wr.drew w2) (O : Obj) : (w2.alloc O).ownsRow (w.heap.size + 2) 42 1 v k ((List.range k).map fun i => .slice (some ⟨G i, 0, none⟩) 1 (C i)) := by
  have hb' := h.later hb
  exact ownsRow_block h.row (fun g hg => ((below_alloc w2 O).block g (Nat.lt_of_lt_of_le hg hb'.size)).trans (hb'.block g hg))
/-- The row's own block is a row of trees. -/
theorem IxSt.own (h : IxSt w wr k v G C A) : ∀ g, v.ownBlock = some g → ∃ cur fr, wr.heap[g]? = some (.cells cur 42 fr) := by
  intro g hg
  rcases h.row.2 with ⟨hv, _⟩ | ⟨g', cap, cur, hv, _, hh, _⟩
  · rw [hv] at hg; simp [Value.ownBlock] at hg
  · rw [hv] at hg
    simp [Value.ownBlock] at hg
    subst hg
    exact ⟨cur, _, hh⟩
theorem IxSt.keepBlock (h : IxSt w wr k v G C A) {w2 w4 : World} (hb : Below wr.drew.heap.size wr.drew w2) (O : Obj) (hg : (w2.alloc O).grownBy w4 v.ownBlock) {b : Nat} (hlt : b < wr.heap.size) (hne : ∀ cur fr, wr.heap[b]? ≠ some (.cells cur 42 fr)) : w4.heap[b]? = wr.heap[b]? := by
  have hb' := h.later hb
  refine (hg.block b (by have := hb'.size; simp; omega) (fun e => ?_)).trans (((below_alloc w2 O).block b (Nat.lt_of_lt_of_le hlt hb'.size)).trans (hb'.block b hlt))
  obtain ⟨cur, fr, q⟩ := h.own b e.symm
  exact hne cur fr q
theorem IxSt.boxLater (h : IxSt w wr k v G C A) {w2 w4 : World} (hb : Below wr.drew.heap.size wr.drew w2) (O : Obj) (hg : (w2.alloc O).grownBy w4 v.ownBlock) : w4.cell? ⟨w.heap.size + 1, 0, none⟩ = some v ∧ w4.frozen? ⟨w.heap.size + 1, 0, none⟩ = false := by
  have q := ((h.keepBlock hb O hg (Array.getElem?_eq_some_iff.1 h.box).1 (fun cur fr q => by rw [h.box] at q; injection q with q; injection q with _ q; exact absurd q (by decide))).trans h.box)
  exact ⟨cellOf0 q, by simp [World.frozen?, q]⟩

theorem IxSt.step (h : IxSt w wr k v G C A) {w2 w4 : World} {g2 c2 : Nat} {a2 : Option Addr} {v' : Value} (hb : Below wr.drew.heap.size wr.drew w2) (hg2 : wr.drew.heap.size ≤ g2) (hr2 : rowIn w2 g2 96 4 (leafCell a2))
    (hg : (w2.alloc (.cells #[.slice (some ⟨g2, 0, none⟩) 1 c2] 42)).grownBy w4 v.ownBlock)
    (hown : w4.ownsRow (w.heap.size + 2) 42 1 v' (k + 1) (((List.range k).map fun i => .slice (some ⟨G i, 0, none⟩) 1 (C i)) ++ [.slice (some ⟨g2, 0, none⟩) 1 c2])) :
    IxSt w (w4.setCell ⟨w.heap.size + 1, 0, none⟩ v') (k + 1) v' (fun i => if i = k then g2 else G i) (fun i => if i = k then c2 else C i) (fun i => if i = k then a2 else A i) := by
  have hb' := h.later hb
  have hsz : wr.heap.size ≤ w4.heap.size := by have := hb'.size; have q := hg.size; simp at q; omega
  have hbx := (Array.getElem?_eq_some_iff.1 h.box).1
  have hrs := (Array.getElem?_eq_some_iff.1 h.res).1
  have tne : ∀ {b : Nat} {cs : Array Value} {t : TypeId} {fr : Nat × Nat}, t ≠ 42 → wr.heap[b]? = some (.cells cs t fr) → ∀ cur fr', wr.heap[b]? ≠ some (.cells cur 42 fr') := by
    intro b cs t fr ht hh cur fr' q
    rw [hh] at q
    injection q with q
    injection q with _ q
    exact ht q
  have kb : w4.heap[w.heap.size + 1]? = some (.cells #[v] 48) := (h.keepBlock hb _ hg hbx (tne (by decide) h.box)).trans h.box
  have kr : w4.heap[w.heap.size]? = some (.cells #[.slice none 0 0] 48) := (h.keepBlock hb _ hg hrs (tne (by decide) h.res)).trans h.res
  have g2lt : g2 < w2.heap.size := hr2.lt
  have k2 : rowIn w4 g2 96 4 (leafCell a2) := by
    refine hr2.of_block ?_
    refine (hg.block g2 (by simp; omega) (fun e => ?_)).trans ((below_alloc w2 _).block g2 g2lt)
    obtain ⟨cur, fr, q⟩ := h.own g2 e.symm
    have := (Array.getElem?_eq_some_iff.1 q).1
    have h9 : wr.heap.size ≤ g2 := hg2
    omega
  have kG : ∀ i, i < k → rowIn w4 (G i) 96 4 (leafCell (A i)) := fun i hi => by
    obtain ⟨_, hr⟩ := h.each i hi
    have hlt := hr.lt
    obtain ⟨cur, hh, h1, h2⟩ := hr
    exact rowIn.of_block (w := wr) ⟨cur, hh, h1, h2⟩ (h.keepBlock hb _ hg hlt (tne (by decide) hh))
  have hne1 : ∀ {b : Nat} {F : Nat → Value}, rowIn w4 b 96 4 F → b ≠ w.heap.size + 1 := by
    rintro b F ⟨cur, hh, _, _⟩ rfl
    rw [kb] at hh
    injection hh with hh
    injection hh with _ hh
    exact absurd hh (by decide)
  have other : ∀ {b : Nat}, b ≠ w.heap.size + 1 → (w4.setCell ⟨w.heap.size + 1, 0, none⟩ v').heap[b]? = w4.heap[b]? := fun hb => Below.heap_setCell _ _ _ _ (fun e => hb e)
  refine ⟨?_, (other (by omega)).trans kr, ?_, fun i hi => ?_, fun i hi j hj e => ?_, ?_⟩
  · simp [World.setCell, Array.getElem?_modify, kb]
  · have hrow : (w4.setCell ⟨w.heap.size + 1, 0, none⟩ v').ownsRow (w.heap.size + 2) 42 1 v' (k + 1) (((List.range k).map fun i => .slice (some ⟨G i, 0, none⟩) 1 (C i)) ++ [.slice (some ⟨g2, 0, none⟩) 1 c2]) := by
      refine ⟨hown.1, ?_⟩
      rcases hown.2 with h0 | ⟨g, cap, cur, hv, hgg, hh, h1, h2, h3, h4⟩
      · exact Or.inl h0
      · exact Or.inr ⟨g, cap, cur, hv, hgg, (other (by omega)).trans hh, h1, h2, h3, h4⟩
    have e : ((List.range (k + 1)).map fun i => Value.slice (some ⟨if i = k then g2 else G i, 0, none⟩) 1 (if i = k then c2 else C i)) = ((List.range k).map fun i => .slice (some ⟨G i, 0, none⟩) 1 (C i)) ++ [.slice (some ⟨g2, 0, none⟩) 1 c2] := by
      rw [List.range_succ, List.map_append]
      congr 1
      · refine List.map_congr_left (fun i hi => ?_)
        have := List.mem_range.1 hi
        rw [if_neg (by omega), if_neg (by omega)]
      · simp
    rw [e]
    exact hrow
  · by_cases e : i = k
    · subst e
      simp only [if_true]
      have h9 : wr.heap.size ≤ g2 := hg2
      exact ⟨by omega, k2.of_block (other (hne1 k2))⟩
    · simp only [if_neg e]
      have q := kG i (by omega)
      exact ⟨(h.each i (by omega)).1, q.of_block (other (hne1 q))⟩
  · have h9 : wr.heap.size ≤ g2 := hg2
    by_cases e1 : i = k
    · by_cases e2 : j = k
      · omega
      · simp only [if_pos e1, if_neg e2] at e
        have := (h.each j (by omega)).2.lt
        omega
    · by_cases e2 : j = k
      · simp only [if_neg e1, if_pos e2] at e
        have := (h.each i (by omega)).2.lt
        omega
      · simp only [if_neg e1, if_neg e2] at e
        exact h.apart i (by omega) j (by omega) e
  · refine Below.setCell ?_ (by simp) _
    have q := h.below.trans (hb'.mono h.below.size)
    refine (q.alloc (by have := q.size; omega) _).grown hg (by have := q.size; simp; omega) (fun g e => ?_)
    rcases h.row.2 with ⟨hv, _⟩ | ⟨g', cap, cur, hv, hgg, hh, _⟩
    · rw [hv] at e; simp [Value.ownBlock] at e
    · rw [hv] at e
      simp [Value.ownBlock] at e
      omega

theorem IxSt.done (h : IxSt w wr 6 v G C A) : wr.cell? ⟨w.heap.size + 1, 0, none⟩ = some v ∧ wr.cell? ⟨w.heap.size, 0, none⟩ = some (.slice none 0 0) ∧ (∀ o, wr.frozen? ⟨w.heap.size, o, none⟩ = false) ∧ w.heap.size < wr.heap.size ∧ ∀ u, RetIx w (.returned (.agg #[v])) (wr.setCell ⟨w.heap.size, 0, none⟩ u) := by
  refine ⟨cellOf0 h.box, cellOf0 h.res, fun o => by simp [World.frozen?, h.res], (Array.getElem?_eq_some_iff.1 h.res).1, fun u => ?_⟩
  have other : ∀ {b : Nat}, w.heap.size + 2 ≤ b → (wr.setCell ⟨w.heap.size, 0, none⟩ u).heap[b]? = wr.heap[b]? := fun hb => Below.heap_setCell _ _ _ _ (by simp; omega)
  rcases h.row.2 with ⟨_, h0⟩ | ⟨g, cap, cur, hv, hgg, hh, h1, h2, h3, h4⟩
  · omega
  · subst hv
    refine ⟨g, cap, G, C, A, rfl, ⟨by omega, ⟨cur, (other hgg).trans hh, by omega, fun i hi => ?_⟩, fun i hi => ⟨by have := (h.each i hi).1; omega, (h.each i hi).2.of_block (other (h.each i hi).1)⟩, h.apart⟩, h.below.setCell (by simp) _⟩
    have e : cur[i]? = (cur.toList.take (6 * 1))[i]? := by rw [List.getElem?_take, if_pos (by omega)]; simp
    rw [e, h4, List.getElem?_map, List.getElem?_range hi]
    rfl
end

set_option maxHeartbeats 2000000 in
theorem implIx (w : World) : Calls Try.prog 28 #[] w (RetIx w) := by
  go_enter Try.func28, Try.ntmps28
  go_wp2
  go_loopw [2] (fun i wr => ∃ (k : Nat) (v : Value) (G C : Nat → Nat) (A : Nat → Option Addr), k ≤ 6 ∧ i = .int .i64 k ∧ IxSt w wr k v G C A) (fun i _ => 6 - (intOf i).toNat)
  case atStart => exact ⟨0, _, fun _ => 0, fun _ => 0, fun _ => none, by omega, rfl, IxSt.start w⟩
  case round =>
    obtain ⟨k, v, G, C, A, hk, rfl, hst⟩ := hrel
    by_cases hlt : k < 6
    · have hki : (k : Int) < 6 := by omega
      have HS : Hid (IxSt w wr k v G C A) := hst
      have bc : wr.drew.cell? ⟨w.heap.size + 1, 0, none⟩ = some v := hst.boxCell
      have bc0 : wr.cell? ⟨w.heap.size + 1, 0, none⟩ = some v := hst.boxCell
      have bz : w.heap.size + 1 < wr.drew.heap.size := World.block_lt_of_cell? _ _ bc
      have HZ : Hid (w.heap.size + 2 ≤ wr.heap.size) := by have h9 : w.heap.size + 1 < wr.heap.size := bz; show _ ≤ _; omega
      have HT : Hid (∀ (w2 : World), Below wr.drew.heap.size wr.drew w2 → ∀ O, (w2.alloc O).ownsRow (w.heap.size + 2) 42 1 v k ((List.range k).map fun i => .slice (some ⟨G i, 0, none⟩) 1 (C i))) := fun w2 hb O => hst.rowLater hb O
      have HK : Hid (∀ (w2 w4 : World), Below wr.drew.heap.size wr.drew w2 → ∀ O, (w2.alloc O).grownBy w4 v.ownBlock → w4.cell? ⟨w.heap.size + 1, 0, none⟩ = some v ∧ w4.frozen? ⟨w.heap.size + 1, 0, none⟩ = false) := fun w2 w4 hb O hg => hst.boxLater hb O hg
      clear hst
      go_wp2
      refine wp_region_late (S := (fun w' => w'.cell? ⟨w.heap.size + 1, 0, none⟩ = some v)) 6 (by kernel_rfl) ?_ (fun hHeld => ?_)
      · ((try dsimp only); go_keep)
      refine late_take 0 .zero (v := ?_) (by kernel_rfl) (by kernel_rfl) (by kernel_rfl) (by kernel_rfl) (fun _ _ _ h => h) (by rfl) ?_ (by assumption) ?_
      rotate_left
      · (intro w hSw; (try dsimp only at hSw); go_simp) <;> with_reducible rfl
      simp only [Act.put, List.setIfInBounds_toArray, List.set_cons_zero, List.set_cons_succ]
      refine late_take 1 (.succ .zero) (v := ?_) (by kernel_rfl) (by kernel_rfl) (by kernel_rfl) (by kernel_rfl) (fun _ _ _ h => h) (by rfl) ?_ (by assumption) ?_
      rotate_left
      · (intro w hSw; (try dsimp only at hSw); go_simp) <;> with_reducible rfl
      simp only [Act.put, List.setIfInBounds_toArray, List.set_cons_zero, List.set_cons_succ]
      refine late_one 2 (.succ (.succ .zero)) (by kernel_rfl) (fun K hK => ?_)
      (refine step_new_impl (by rfl) (by rfl) ?_; refine (implTree_new wr.drew).mono ?_; rintro e w2 ⟨⟨u, rfl, hu⟩, hb2⟩; refine ⟨_, rfl, ?_⟩; have yb2 : w2.cell? ⟨w.heap.size + 1, 0, none⟩ = some v := (hb2.cell (p := ⟨w.heap.size + 1, 0, none⟩) bz).trans bc; obtain ⟨g2, a2, c2, rfl, hg2, hr2⟩ := hu)
      refine hK.out _ _ ?_ (fun hHeld2 => ?_)
      · (intro _; (try dsimp only); go_keep)
      clear hK K
      replace hHeld := hHeld2 (by decide)
      clear hHeld2
      try simp only [Act.put, List.setIfInBounds_toArray, List.set_cons_zero, List.set_cons_succ]
      refine late_one 3 (.succ (.succ (.succ .zero))) (by kernel_rfl) (fun K hK => ?_)
      (refine step_bslice (by rfl) (by rfl) (by rfl) ?_; have yb3 : (w2.alloc (.cells #[.slice (some ⟨g2, 0, none⟩) 1 c2] 42)).cell? ⟨w.heap.size + 1, 0, none⟩ = some v := ((below_alloc _ _).cell (p := ⟨w.heap.size + 1, 0, none⟩) (World.block_lt_of_cell? _ _ yb2)).trans yb2)
      refine hK.out _ _ ?_ (fun hHeld2 => ?_)
      · (intro _; (try dsimp only); go_keep)
      clear hK K
      replace hHeld := hHeld2 (by decide)
      clear hHeld2
      try simp only [Act.put, List.setIfInBounds_toArray, List.set_cons_zero, List.set_cons_succ]
      refine late_one 4 (.succ (.succ (.succ (.succ .zero)))) (by kernel_rfl) (fun K hK => ?_)
      (refine step_append_tree (by rfl) (.tmp 5) (.tmp 7) (by rfl) (w.heap.size + 2) k v _ (by rfl) (HT.out w2 hb2 _) w2.heap.size 1 _ (by rfl) (cellOf0 (blk_alloc_new _ _)) rfl (by omega) (by have := hb2.size; have h9 := HZ.out; simp at this ⊢; omega) ?_; intro v' w4 hown4 hgr4; obtain ⟨g4, c4, rfl⟩ := ownsRow_form1 hown4 (by omega); obtain ⟨yb4, yf4⟩ := HK.out w2 w4 hb2 _ hgr4)
      refine hK.out _ _ ?_ (fun hHeld2 => ?_)
      · (intro _; (try dsimp only); go_keep)
      clear hK K
      replace hHeld := hHeld2 (by decide)
      clear hHeld2
      try simp only [Act.put, List.setIfInBounds_toArray, List.set_cons_zero, List.set_cons_succ]
      refine late_one 5 (.succ (.succ (.succ (.succ (.succ .zero))))) (by kernel_rfl) (fun K hK => ?_)
      go_simp
      refine hK.out _ _ ?_ (fun hHeld2 => ?_)
      · (intro _; (try dsimp only); go_keep)
      clear hK K
      replace hHeld := hHeld2 (by decide)
      clear hHeld2
      try simp only [Act.put, List.setIfInBounds_toArray, List.set_cons_zero, List.set_cons_succ]
      refine late_one 6 (.succ (.succ (.succ (.succ (.succ (.succ .zero)))))) (by kernel_rfl) (fun K hK => ?_)
      go_simp
      refine hK.out _ _ ?_ (fun hHeld2 => ?_)
      · (intro hne; exact absurd rfl hne)
      clear hK K hHeld2
      refine wpLate_done (by kernel_rfl) ?_ _
      have HN : Hid (IxSt w (w4.setCell ⟨w.heap.size + 1, 0, none⟩ (.slice (some ⟨g4, 0, none⟩) (k + 1) c4)) (k + 1) (.slice (some ⟨g4, 0, none⟩) (k + 1) c4) (fun i => if i = k then g2 else G i) (fun i => if i = k then c2 else C i) (fun i => if i = k then a2 else A i)) := HS.out.step hb2 hg2 hr2 hgr4 hown4
      clear hr2 hb2 hown4 hgr4 HT HK HS yb2 yb3 yb4 yf4 bc bc0
      go_wp2
      go_roundw
      case rel => exact ⟨k + 1, _, _, _, _, by omega, by go_num, HN.out⟩
      case measure => simp [intOf]; omega
    · have e : k = 6 := by omega
      subst e
      obtain ⟨g6, c6, rfl⟩ := ownsRow_form1 hst.row (by omega)
      obtain ⟨x0, x1, xf, xz, HR⟩ := hst.done
      have HRR : Hid (∀ u, RetIx w (.returned (.agg #[.slice (some ⟨g6, 0, none⟩) 6 c6])) (wr.setCell ⟨w.heap.size, 0, none⟩ u)) := HR
      clear HR hst
      go_wp2
      refine bodyPost_ret (v := .agg #[.slice (some ⟨g6, 0, none⟩) 6 c6]) (by simp [results, Try.results28, go_sem, x1]) rfl (HRR.out _)

set_option maxHeartbeats 2000000 in
theorem specIx (w : World) : Calls Try.prog 27 #[] w (RetIx w) := by
  go_enter Try.func27, Try.ntmps27
  go_wp2
  go_loopw [2] (fun i wr => ∃ (k : Nat) (v : Value) (G C : Nat → Nat) (A : Nat → Option Addr), k ≤ 6 ∧ i = .int .i64 k ∧ IxSt w wr k v G C A) (fun i _ => 6 - (intOf i).toNat)
  case atStart => exact ⟨0, _, fun _ => 0, fun _ => 0, fun _ => none, by omega, rfl, IxSt.start w⟩
  case round =>
    obtain ⟨k, v, G, C, A, hk, rfl, hst⟩ := hrel
    by_cases hlt : k < 6
    · have hki : (k : Int) < 6 := by omega
      have HS : Hid (IxSt w wr k v G C A) := hst
      have bc : wr.drew.cell? ⟨w.heap.size + 1, 0, none⟩ = some v := hst.boxCell
      have bc0 : wr.cell? ⟨w.heap.size + 1, 0, none⟩ = some v := hst.boxCell
      have bz : w.heap.size + 1 < wr.drew.heap.size := World.block_lt_of_cell? _ _ bc
      have HZ : Hid (w.heap.size + 2 ≤ wr.heap.size) := by have h9 : w.heap.size + 1 < wr.heap.size := bz; show _ ≤ _; omega
      have HT : Hid (∀ (w2 : World), Below wr.drew.heap.size wr.drew w2 → ∀ O, (w2.alloc O).ownsRow (w.heap.size + 2) 42 1 v k ((List.range k).map fun i => .slice (some ⟨G i, 0, none⟩) 1 (C i))) := fun w2 hb O => hst.rowLater hb O
      have HK : Hid (∀ (w2 w4 : World), Below wr.drew.heap.size wr.drew w2 → ∀ O, (w2.alloc O).grownBy w4 v.ownBlock → w4.cell? ⟨w.heap.size + 1, 0, none⟩ = some v ∧ w4.frozen? ⟨w.heap.size + 1, 0, none⟩ = false) := fun w2 w4 hb O hg => hst.boxLater hb O hg
      clear hst
      go_wp2
      refine wp_region_late (S := (fun w' => w'.cell? ⟨w.heap.size + 1, 0, none⟩ = some v)) 6 (by kernel_rfl) ?_ (fun hHeld => ?_)
      · ((try dsimp only); go_keep)
      refine late_take 0 .zero (v := ?_) (by kernel_rfl) (by kernel_rfl) (by kernel_rfl) (by kernel_rfl) (fun _ _ _ h => h) (by rfl) ?_ (by assumption) ?_
      rotate_left
      · (intro w hSw; (try dsimp only at hSw); go_simp) <;> with_reducible rfl
      simp only [Act.put, List.setIfInBounds_toArray, List.set_cons_zero, List.set_cons_succ]
      refine late_take 1 (.succ .zero) (v := ?_) (by kernel_rfl) (by kernel_rfl) (by kernel_rfl) (by kernel_rfl) (fun _ _ _ h => h) (by rfl) ?_ (by assumption) ?_
      rotate_left
      · (intro w hSw; (try dsimp only at hSw); go_simp) <;> with_reducible rfl
      simp only [Act.put, List.setIfInBounds_toArray, List.set_cons_zero, List.set_cons_succ]
      refine late_one 2 (.succ (.succ .zero)) (by kernel_rfl) (fun K hK => ?_)
      (refine step_new_spec (by rfl) (by rfl) ?_; refine (specTree_new wr.drew).mono ?_; rintro e w2 ⟨⟨u, rfl, hu⟩, hb2⟩; refine ⟨_, rfl, ?_⟩; have yb2 : w2.cell? ⟨w.heap.size + 1, 0, none⟩ = some v := (hb2.cell (p := ⟨w.heap.size + 1, 0, none⟩) bz).trans bc; obtain ⟨g2, a2, c2, rfl, hg2, hr2⟩ := hu)
      refine hK.out _ _ ?_ (fun hHeld2 => ?_)
      · (intro _; (try dsimp only); go_keep)
      clear hK K
      replace hHeld := hHeld2 (by decide)
      clear hHeld2
      try simp only [Act.put, List.setIfInBounds_toArray, List.set_cons_zero, List.set_cons_succ]
      refine late_one 3 (.succ (.succ (.succ .zero))) (by kernel_rfl) (fun K hK => ?_)
      (refine step_bslice (by rfl) (by rfl) (by rfl) ?_; have yb3 : (w2.alloc (.cells #[.slice (some ⟨g2, 0, none⟩) 1 c2] 42)).cell? ⟨w.heap.size + 1, 0, none⟩ = some v := ((below_alloc _ _).cell (p := ⟨w.heap.size + 1, 0, none⟩) (World.block_lt_of_cell? _ _ yb2)).trans yb2)
      refine hK.out _ _ ?_ (fun hHeld2 => ?_)
      · (intro _; (try dsimp only); go_keep)
      clear hK K
      replace hHeld := hHeld2 (by decide)
      clear hHeld2
      try simp only [Act.put, List.setIfInBounds_toArray, List.set_cons_zero, List.set_cons_succ]
      refine late_one 4 (.succ (.succ (.succ (.succ .zero)))) (by kernel_rfl) (fun K hK => ?_)
      (refine step_append_tree (by rfl) (.tmp 9) (.tmp 11) (by rfl) (w.heap.size + 2) k v _ (by rfl) (HT.out w2 hb2 _) w2.heap.size 1 _ (by rfl) (cellOf0 (blk_alloc_new _ _)) rfl (by omega) (by have := hb2.size; have h9 := HZ.out; simp at this ⊢; omega) ?_; intro v' w4 hown4 hgr4; obtain ⟨g4, c4, rfl⟩ := ownsRow_form1 hown4 (by omega); obtain ⟨yb4, yf4⟩ := HK.out w2 w4 hb2 _ hgr4)
      refine hK.out _ _ ?_ (fun hHeld2 => ?_)
      · (intro _; (try dsimp only); go_keep)
      clear hK K
      replace hHeld := hHeld2 (by decide)
      clear hHeld2
      try simp only [Act.put, List.setIfInBounds_toArray, List.set_cons_zero, List.set_cons_succ]
      refine late_one 5 (.succ (.succ (.succ (.succ (.succ .zero))))) (by kernel_rfl) (fun K hK => ?_)
      go_simp
      refine hK.out _ _ ?_ (fun hHeld2 => ?_)
      · (intro _; (try dsimp only); go_keep)
      clear hK K
      replace hHeld := hHeld2 (by decide)
      clear hHeld2
      try simp only [Act.put, List.setIfInBounds_toArray, List.set_cons_zero, List.set_cons_succ]
      refine late_one 6 (.succ (.succ (.succ (.succ (.succ (.succ .zero)))))) (by kernel_rfl) (fun K hK => ?_)
      go_simp
      refine hK.out _ _ ?_ (fun hHeld2 => ?_)
      · (intro hne; exact absurd rfl hne)
      clear hK K hHeld2
      refine wpLate_done (by kernel_rfl) ?_ _
      have HN : Hid (IxSt w (w4.setCell ⟨w.heap.size + 1, 0, none⟩ (.slice (some ⟨g4, 0, none⟩) (k + 1) c4)) (k + 1) (.slice (some ⟨g4, 0, none⟩) (k + 1) c4) (fun i => if i = k then g2 else G i) (fun i => if i = k then c2 else C i) (fun i => if i = k then a2 else A i)) := HS.out.step hb2 hg2 hr2 hgr4 hown4
      clear hr2 hb2 hown4 hgr4 HT HK HS yb2 yb3 yb4 yf4 bc bc0
      go_wp2
      go_roundw
      case rel => exact ⟨k + 1, _, _, _, _, by omega, by go_num, HN.out⟩
      case measure => simp [intOf]; omega
    · have e : k = 6 := by omega
      subst e
      obtain ⟨g6, c6, rfl⟩ := ownsRow_form1 hst.row (by omega)
      obtain ⟨x0, x1, xf, xz, HR⟩ := hst.done
      have HRR : Hid (∀ u, RetIx w (.returned (.agg #[.slice (some ⟨g6, 0, none⟩) 6 c6])) (wr.setCell ⟨w.heap.size, 0, none⟩ u)) := HR
      clear HR hst
      go_wp2
      refine bodyPost_ret (v := .agg #[.slice (some ⟨g6, 0, none⟩) 6 c6]) (by simp [results, Try.results27, go_sem, x1]) rfl (HRR.out _)
end Go.Proofs.Ytfcffpgiijnmjaa
