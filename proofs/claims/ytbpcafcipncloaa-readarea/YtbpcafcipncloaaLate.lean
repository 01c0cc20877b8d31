import Derived.Deep.RegionHeld3
namespace Go.Proofs.Ytbpcafcipncloaa
open Go

/-! A drawn region whose last operation writes a cell that the region reads: what holds of the world is asked behind every operation but that one. -/
section
variable {P : Program} {ops : Array Oper} {Q : Exit → Act → World → Prop} {md : Region.Mode} {S : World → Prop} {late : Nat}

def wpLate (P : Program) (md : Region.Mode) (ops : Array Oper) (Q : Exit → Act → World → Prop) (S : World → Prop) (late : Nat) : Nat → Array Bool → Act → World → Prop
  | 0, listed, a, w => Region.ready md ops listed = [] ∧ Q .normal a w
  | fuel + 1, listed, a, w => (Region.ready md ops listed = [] → Q .normal a w) ∧
    ∀ i ∈ Region.ready md ops listed, wpOp P ops Q i (fun a' w' => (i ≠ late → S w') ∧ wpLate P md ops Q S late fuel (listed.setIfInBounds i true) a' w') a w

theorem wpAny_of_late : ∀ (fuel : Nat) (listed : Array Bool) (a : Act) (w : World), wpLate P md ops Q S late fuel listed a w → wpAny P md ops Q fuel listed a w
  | 0, _, _, _, h => h
  | fuel + 1, _, _, _, h => ⟨h.1, fun i hi => wpOp_mono (fun a' w' h' => wpAny_of_late fuel _ a' w' h'.2) (h.2 i hi)⟩

/-- Operations that wait for one another down to number i, none of which has come up: as long as i hasn't, none of them can. -/
def Waits (md : Region.Mode) (ops : Array Oper) (i : Nat) (ch : List Nat) : Prop :=
  ∀ c ∈ ch, c = i ∨ ∃ o, ops[c]? = some o ∧ ∃ e ∈ o.after, Region.binds md e = true ∧ e.on ∈ ch

theorem Waits.not_ready {i : Nat} {ch : List Nat} (h : Waits md ops i ch) {listed : Array Bool} (hl : ∀ c ∈ ch, listed.getD c true = false) {j : Nat} (hj : j ∈ Region.ready md ops listed) (hji : j ≠ i) : j ∉ ch := fun hm => by
  rcases h j hm with h | ⟨o, ho, e, he, hb, hc⟩
  · exact hji h
  · obtain ⟨_, oj, hoj, hall⟩ := mem_ready.1 hj
    rw [ho] at hoj
    injection hoj with hoj
    subst hoj
    have h1 := hall e he hb
    have h2 := hl _ hc
    rcases Nat.lt_or_ge e.on listed.size with h' | h'
    · simp [h'] at h1 h2
      rw [h2] at h1
      cases h1
    · simp [Array.getElem?_eq_none h'] at h1

theorem wpLate_first {i : Nat} {oi : Oper} {v : Value} {ch : List Nat} (hi : ops[i]? = some oi) (hsel : ∀ (j : Nat) (o : Oper) cs b, ops[j]? = some o → o.op ≠ .select cs b)
    (hQ : ∀ c a w, Q (.panic c) (a.put oi.dst v) w → Q (.panic c) a w) (hw : Waits md ops i ch) (hlate : late ∈ ch) (hil : i ≠ late) :
    ∀ (fuel : Nat) (listed : Array Bool) (a : Act) (w : World),
      (∀ j oj, ops[j]? = some oj → j ≠ i → listed.getD j true = false → (∀ e ∈ oj.after, Region.binds md e = true → e.on ≠ i) → oi.apart ops oj = true) →
      (∀ c ∈ ch, listed.getD c true = false) →
      i ∈ Region.ready md ops listed → YieldsIf P ops S oi v a → S w →
      wpLate P md ops Q S late fuel (listed.setIfInBounds i true) (a.put oi.dst v) w → wpLate P md ops Q S late (fuel + 1) listed a w := by
  intro fuel
  induction fuel with
  | zero =>
    intro listed a w _ _ hr hy hS H
    refine ⟨fun h => (by rw [h] at hr; cases hr), fun j hj => ?_⟩
    by_cases hji : j = i
    · subst hji; exact hy.wpOp hi hS ⟨fun _ => hS, H⟩
    · have := ready_mono hj hji
      rw [H.1] at this
      cases this
  | succ fuel ih =>
    intro listed a w hfree hch hr hy hS H
    refine ⟨fun h => (by rw [h] at hr; cases hr), fun j hj => ?_⟩
    by_cases hji : j = i
    · subst hji; exact hy.wpOp hi hS ⟨fun _ => hS, H⟩
    · have hjc := hw.not_ready hch hj hji
      have hjl : j ≠ late := fun e => hjc (e ▸ hlate)
      have h1 := H.2 j (ready_mono hj hji)
      obtain ⟨hjun, oj, hoj, hall⟩ := mem_ready.1 hj
      have hnot : ∀ e ∈ oj.after, Region.binds md e = true → e.on ≠ i := fun e he hb heq => by
        have h1 := hall e he hb
        have h0 := (mem_ready.1 hr).1
        rw [heq] at h1
        rcases Nat.lt_or_ge i listed.size with h' | h'
        · simp [h'] at h0 h1; rw [h0] at h1; cases h1
        · simp [Array.getElem?_eq_none h'] at h1
      have h2 := wpOp_putIf hoj (hfree j oj hoj hji hjun hnot) (fun cs b => hsel i oi cs b hi) (fun cs b => hsel j oj cs b hoj) hQ hy h1
      have hfree' : ∀ k ok, ops[k]? = some ok → k ≠ i → (listed.setIfInBounds j true).getD k true = false →
          (∀ e ∈ ok.after, Region.binds md e = true → e.on ≠ i) → oi.apart ops ok = true := fun k ok hk hki hun hno => by
        refine hfree k ok hk hki ?_ hno
        by_cases hjk : j = k
        · subst hjk; exact hjun
        · rw [getD_set_ne true hjk] at hun; exact hun
      have hch' : ∀ c ∈ ch, (listed.setIfInBounds j true).getD c true = false := fun c hc => by
        have hjk : j ≠ c := fun e => hjc (e ▸ hc)
        rw [getD_set_ne true hjk]
        exact hch c hc
      refine wpOp_mono (fun a' w' h3 => ⟨fun _ => h3.2.1 hjl, ih (listed.setIfInBounds j true) a' w' hfree' hch' (ready_mono hr (Ne.symm hji)) h3.1 (h3.2.1 hjl) ?_⟩) h2
      rw [Array.setIfInBounds_comm _ _ hji]
      exact h3.2.2

/-- The operations that wait for number i, down the line. -/
def behind (ops : Array Oper) (i : Nat) : Nat → List Nat
  | 0 => [i]
  | n + 1 => let l := behind ops i n
    l ++ (List.range ops.size).filter fun j => !l.contains j && (match ops[j]? with | some o => o.after.any fun e => Region.binds .any e && l.contains e.on | none => false)
def waitsB (ops : Array Oper) (listed : Array Bool) (i late : Nat) (ch : List Nat) : Bool :=
  ch.contains late && i != late && ch.all fun c => !(listed.getD c true) && (c == i || (match ops[c]? with | some o => o.after.any fun e => Region.binds .any e && ch.contains e.on | none => false))

theorem waitsB_spec {listed : Array Bool} {i : Nat} {ch : List Nat} (h : waitsB ops listed i late ch = true) : late ∈ ch ∧ i ≠ late ∧ Waits .any ops i ch ∧ ∀ c ∈ ch, listed.getD c true = false := by
  unfold waitsB at h
  simp only [Bool.and_eq_true, List.all_eq_true, Bool.not_eq_true', Bool.or_eq_true, bne_iff_ne, ne_eq, List.contains_iff_mem, beq_iff_eq] at h
  obtain ⟨⟨h1, h2⟩, h3⟩ := h
  refine ⟨h1, h2, fun c hc => ?_, fun c hc => (h3 c hc).1⟩
  rcases (h3 c hc).2 with h | h
  · exact Or.inl h
  · cases ho : ops[c]? with
    | none => rw [ho] at h; cases h
    | some o =>
      rw [ho] at h
      simp only [Array.any_eq_true', Bool.and_eq_true, List.contains_iff_mem] at h
      obtain ⟨e, he, hb, hm⟩ := h
      exact Or.inr ⟨o, rfl, e, he, hb, hm⟩

theorem wpLate_take {i : Nat} {oi : Oper} {v : Value} {fuel : Nat} {listed : Array Bool} {a : Act} {w : World} (n : Nat) (hi : ops[i]? = some oi)
    (hs : Region.noSelect ops = true) (hf : Region.free .any ops listed i = true) (hr : (Region.ready .any ops listed).contains i = true) (hwt : waitsB ops listed i late (behind ops i n) = true)
    (hQ : ∀ c a w, Q (.panic c) (a.put oi.dst v) w → Q (.panic c) a w) (hy : YieldsIf P ops S oi v a) (hS : S w)
    (h : wpLate P .any ops Q S late fuel (listed.setIfInBounds i true) (a.put oi.dst v) w) : wpLate P .any ops Q S late (fuel + 1) listed a w := by
  obtain ⟨h1, h2, h3, h4⟩ := waitsB_spec hwt
  exact wpLate_first hi (Region.noSelect_spec hs) hQ h3 h1 h2 fuel listed a w (Region.free_spec hi hf) h4 (by simpa using hr) hy hS h

/-- One alone can come up. -/
theorem wpLate_one {i : Nat} {o : Oper} {fuel : Nat} {listed : Array Bool} {a : Act} {w : World} (hr : Region.ready md ops listed = [i]) (ho : ops[i]? = some o)
    (h : ∀ K' : Act → World → Prop, Shut (∀ a w, (i ≠ late → S w) → ((i ≠ late → S w) → wpLate P md ops Q S late fuel (listed.setIfInBounds i true) a w) → K' a w) → if Region.wanted o (yielded ops a.tmps) = true then Oper.wp P o a w K' Q else K' (a.put o.dst undef) w) :
    wpLate P md ops Q S late (fuel + 1) listed a w :=
  ⟨fun h0 => (by rw [hr] at h0; cases h0), fun j hj => by
    rw [hr] at hj
    have : j = i := by simpa using hj
    subst this
    exact wpOp_step ho (fun K' hK => h K' (fun a w hS hW => hK a w ⟨hS, hW hS⟩))⟩

theorem wpLate_done {listed : Array Bool} {a : Act} {w : World} (hr : Region.ready md ops listed = []) (h : Q .normal a w) : ∀ fuel, wpLate P md ops Q S late fuel listed a w
  | 0 => ⟨hr, h⟩
  | _ + 1 => ⟨fun _ => h, by rw [hr]; simp⟩

theorem wp_region_late {id : Nat} {a : Act} {w : World} (late : Nat) (hm : P.follows .mixedOrders = true) (hS : S w.drew)
    (h : S w.drew → wpLate P .any ops Q S late ops.size (Array.replicate ops.size false) a w.drew) : (Code.region id ops true).wp P Q a w :=
  wp_region_any hm (wpAny_of_late _ _ _ _ (h hS))
end


/-- The operation at a place of a list that is written out. -/
def Pick : Nat → List Oper → Oper → Prop
  | 0, y :: _, x => y = x
  | k + 1, _ :: l, x => Pick k l x
  | _, [], _ => False
theorem Pick.zero {x : Oper} {l : List Oper} : Pick 0 (x :: l) x := rfl
theorem Pick.succ {k : Nat} {x y : Oper} {l : List Oper} (h : Pick k l x) : Pick (k + 1) (y :: l) x := h
theorem Pick.get : ∀ {k : Nat} {l : List Oper} {x : Oper}, Pick k l x → l.toArray[k]? = some x
  | 0, y :: l, x, h => by
    have e : y = x := h
    simp [e]
  | k + 1, y :: l, x, h => by
    have e : Pick k l x := h
    simpa using e.get
  | 0, [], _, h => h.elim
  | k + 1, [], _, h => h.elim

theorem late_take {l : List Oper} {P : Program} {Q : Exit → Act → World → Prop} {S : World → Prop} {late : Nat} (i : Nat) {oi : Oper} (hp : Pick i l oi) {v : Value} {fuel : Nat} {listed : Array Bool} {a : Act} {w : World} 
    (hs : Region.noSelect l.toArray = true) (hf : Region.free .any l.toArray listed i = true) (hr : (Region.ready .any l.toArray listed).contains i = true) (hwt : waitsB l.toArray listed i late (behind l.toArray i 8) = true)
    (hQ : ∀ c a w, Q (.panic c) (a.put oi.dst v) w → Q (.panic c) a w) (hw : Region.wanted oi (yielded l.toArray a.tmps) = true) (hy : ∀ w, S w → (execOp a.eval oi).run P w = .ok (.value v) w) (hS : S w)
    (h : wpLate P .any l.toArray Q S late fuel (listed.setIfInBounds i true) (a.put oi.dst v) w) : wpLate P .any l.toArray Q S late (fuel + 1) listed a w :=
  wpLate_take 8 hp.get hs hf hr hwt hQ (Or.inl ⟨hw, hy⟩) hS h

theorem late_one {l : List Oper} {P : Program} {Q : Exit → Act → World → Prop} {S : World → Prop} {late : Nat} (i : Nat) {o : Oper} (hp : Pick i l o) {fuel : Nat} {listed : Array Bool} {a : Act} {w : World} (hr : Region.ready .any l.toArray listed = [i]) 
    (h : ∀ K' : Act → World → Prop, Shut (∀ a w, (i ≠ late → S w) → ((i ≠ late → S w) → wpLate P .any l.toArray Q S late fuel (listed.setIfInBounds i true) a w) → K' a w) → if Region.wanted o (yielded l.toArray a.tmps) = true then Oper.wp P o a w K' Q else K' (a.put o.dst undef) w) :
    wpLate P .any l.toArray Q S late (fuel + 1) listed a w := wpLate_one hr hp.get h
end Go.Proofs.Ytbpcafcipncloaa
