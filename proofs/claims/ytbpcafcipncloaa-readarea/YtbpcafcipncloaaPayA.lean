import Derived.Test.YtbpcafcipncloaaPayO
namespace Go.Proofs.Ytbpcafcipncloaa
open Go.RowKit Go.Deep
set_option linter.unusedVariables false
set_option maxRecDepth 100000

theorem OwnY.ltB {w : World} {B : Nat} {a : Option Addr} {m : Nat} {L : Nat → Nat} {F : Nat → Nat → Int} {A : Nat → Option Addr} (h : OwnY w B a m L F A) : ∀ i, i < m → LtB w.heap.size (A i) (L i) := by
  rcases h with h | ⟨gC, C, rfl, h⟩
  · subst h; exact fun i hi => absurd hi (Nat.not_lt_zero _)
  · exact fun i hi => (h.each i hi).ltB

theorem Within.ofOnlyY {B T m : Nat} {L : Nat → Nat} {A : Nat → Option Addr} {w w' : World} (h : OnlyY m L A w w') (hA : ∀ i, i < m → L i ≠ 0 → ∀ x, A i = some x → B ≤ x.block ∧ x.block < T) : Within B T w w' :=
  ⟨h.os, h.tape, h.output, by rw [h.size]; exact Nat.le_refl _, fun k _ hx => h.block k (fun i hi hl e => by have := hA i hi hl _ e; simp at this; omega)⟩

theorem markPayS_own (p : Option Addr) (m cap B T : Nat) (L : Nat → Nat) (F : Nat → Nat → Int) (A : Nat → Option Addr) (w : World) (k0 : Int) (h : OwnY w B p m L F A) (hT : ∀ i, i < m → LtB T (A i) (L i)) (hm : m ≤ 1048576) (hL : ∀ i, i < m → L i ≤ 1048576) (h0 : 0 ≤ k0) (h1 : k0 ≤ 1099511627776) :
    Calls Try.prog 63 #[.slice p m cap, .int .i64 k0] w fun e w' => e = .returned (.int .i64 (yoff L k0 m)) ∧
      RdY w' p m L (fun i j => IntKind.u8.wrap (yoff L k0 i + j)) ∧ Within B T w w' := by
  by_cases hz : m = 0
  · subst hz
    go_enter Try.func63, Try.ntmps63
    go_wp2
    go_loop [1, 5] (fun q i => i = .int .i64 0 ∧ q = .int .i64 k0) (fun _ _ => 0)
    case atStart => exact ⟨rfl, rfl⟩
    case round =>
      obtain ⟨rfl, rfl⟩ := hrel
      go_wp2
      go_ret
      exact ⟨by simp [yoff], Or.inl rfl, Within.refl _ _ _⟩
  · rcases h with h | ⟨gC, C, rfl, h⟩
    · exact absurd h hz
    · refine (markPayS_row gC m cap B L F A C w k0 h hm hL h0 h1).mono ?_
      rintro e w' ⟨rfl, h1, h2⟩
      exact ⟨rfl, h1.rd, Within.ofOnlyY h2 (fun i hi hl x hx => ⟨(h.each i hi).ge hl x hx, hT i hi hl x hx⟩)⟩

set_option maxHeartbeats 400000 in
theorem markArea_own (ok : Bool) (p : Option Addr) (m cap B T : Nat) (L : Nat → Nat) (F : Nat → Nat → Int) (A : Nat → Option Addr) (us nx : Int) (w : World) (k0 : Int) (h : OwnY w B p m L F A) (hT : ∀ i, i < m → LtB T (A i) (L i)) (hm : m ≤ 1048576) (hL : ∀ i, i < m → L i ≤ 1048576) (h0 : 0 ≤ k0) (h1 : k0 ≤ 1048576) :
    Calls Try.prog 30 #[.agg #[.bool ok, .slice p m cap, .int .i64 us, .int .i64 nx], .int .i64 k0] w fun e w' => e = .returned (.int .i64 (yoff L k0 m)) ∧
      RdY w' p m L (fun i j => IntKind.u8.wrap (yoff L k0 i + j)) ∧ Within B T w w' := by
  have hbel : ∀ o1, Below w.heap.size w (w.alloc o1) := fun o1 => (Below.refl _ _).alloc (Nat.le_refl _) o1
  have HB : Hid (∀ o1, Below w.heap.size w (w.alloc o1)) := hbel
  have H : Hid (OwnY w B p m L F A) := h
  clear hbel h
  go_enter Try.func30, Try.ntmps30
  go_wp2_with fail
  refine (markPayS_own p m cap B T L F A _ k0 (H.out.below (HB.out _)) hT hm hL h0 (by omega)).mono ?_
  rintro e w2 ⟨rfl, hr, hw⟩
  have HX : Hid (RdY w2 p m L (fun i j => IntKind.u8.wrap (yoff L k0 i + j)) ∧ Within B T w w2) := ⟨hr, (Within.ofBelow (HB.out _)).trans hw⟩
  clear hr hw
  go_wp2
  go_ret
  exact ⟨rfl, HX.out⟩

set_option maxHeartbeats 400000 in
theorem heldArea_yes (ok : Bool) (p : Option Addr) (m cap : Nat) (L : Nat → Nat) (us nx : Int) (w : World) (k0 : Int) (h : RdY w p m L (fun i j => IntKind.u8.wrap (yoff L k0 i + j))) (hm : m ≤ 1048576) (hL : ∀ i, i < m → L i ≤ 1048576) (h0 : 0 ≤ k0) (h1 : k0 ≤ 1048576) :
    Calls Try.prog 31 #[.agg #[.bool ok, .slice p m cap, .int .i64 us, .int .i64 nx], .int .i64 k0] w fun e w' => e = .returned (.int .i64 (yoff L k0 m)) ∧ Below w.heap.size w w' := by
  have hbel : ∀ o1, Below w.heap.size w (w.alloc o1) := fun o1 => (Below.refl _ _).alloc (Nat.le_refl _) o1
  have HB : Hid (∀ o1, Below w.heap.size w (w.alloc o1)) := hbel
  have H : Hid (RdY w p m L (fun i j => IntKind.u8.wrap (yoff L k0 i + j))) := h
  have hk1 := yoff_ge L k0 m
  have hz : ¬ yoff L k0 m < 0 := by omega
  clear hbel h
  go_enter Try.func31, Try.ntmps31
  go_wp2_with fail
  refine (heldPayS_yes p m cap L _ k0 (H.out.below (HB.out _)) hm hL h0 (by omega)).mono ?_
  rintro e w2 ⟨rfl, hw⟩
  subst hw
  go_wp2
  go_ret
  exact ⟨rfl, HB.out _⟩

def payRow (A : Nat → Option Addr) (L C : Nat → Nat) (k : Nat) : List Value := (List.range k).map (payCell A L C)
theorem payRow_succ (A : Nat → Option Addr) (L C : Nat → Nat) (k : Nat) (ad : Option Addr) (cp : Nat) :
    payRow A L C k ++ [.slice ad (L k) cp] = payRow (fun i => if i = k then ad else A i) L (fun i => if i = k then cp else C i) (k + 1) := by
  unfold payRow
  rw [List.range_succ, List.map_append]
  congr 1
  · refine List.map_congr_left (fun j hj => ?_)
    have := List.mem_range.1 hj
    unfold payCell
    dsimp only
    rw [if_neg (by omega), if_neg (by omega)]
  · simp [payCell]

/-- Payloads gathered one by one in the call's own memory. -/
structure GathY (w : World) (B : Nat) (v : Value) (k : Nat) (L : Nat → Nat) (F : Nat → Nat → Int) (A : Nat → Option Addr) (C : Nat → Nat) : Prop where
  row : w.ownsRow B 75 1 v k (payRow A L C k)
  each : ∀ i, i < k → OwnB w B (A i) (L i) (F i)
  apart : ∀ i j, i < k → j < k → i ≠ j → L i ≠ 0 → L j ≠ 0 → A i ≠ A j

theorem GathY.ownY {w : World} {B : Nat} {v : Value} {k : Nat} {L : Nat → Nat} {F : Nat → Nat → Int} {A : Nat → Option Addr} {C : Nat → Nat} (h : GathY w B v k L F A C) : ∃ p q, v = .slice p k q ∧ OwnY w B p k L F A := by
  rcases h.row.2 with ⟨hv, hk⟩ | ⟨g, cap, cur, hv, hg, hh, h1, h2, h3, h4⟩
  · subst hk; exact ⟨none, 0, hv, Or.inl rfl⟩
  · refine ⟨_, cap, hv, Or.inr ⟨g, C, rfl, hg, ⟨cur, hh, by omega, fun i hi => ?_⟩, h.each, h.apart⟩⟩
    have e : cur[i]? = (cur.toList.take (k * 1))[i]? := by rw [List.getElem?_take, if_pos (by omega)]; simp
    rw [e, h4]
    unfold payRow
    rw [List.getElem?_map, List.getElem?_range hi]
    rfl

theorem GathY.start (w : World) (B : Nat) (L : Nat → Nat) (F : Nat → Nat → Int) : GathY w B (.slice none 0 0) 0 L F (fun _ => none) (fun _ => 0) :=
  ⟨World.ownsRow_nil _ _ _ _, fun i hi => absurd hi (Nat.not_lt_zero _), fun i j hi => absurd hi (Nat.not_lt_zero _)⟩
theorem GathY.below {w w' : World} {B : Nat} {v : Value} {k : Nat} {L : Nat → Nat} {F : Nat → Nat → Int} {A : Nat → Option Addr} {C : Nat → Nat} (h : GathY w B v k L F A C) (hb : Below w.heap.size w w') : GathY w' B v k L F A C :=
  ⟨owns_below h.row hb, fun i hi => (h.each i hi).below hb, h.apart⟩
theorem GathY.setOther {w : World} {B : Nat} {v : Value} {k : Nat} {L : Nat → Nat} {F : Nat → Nat → Int} {A : Nat → Option Addr} {C : Nat → Nat} (h : GathY w B v k L F A C) {x : Addr} (hx : x.block < B) (u : Value) : GathY (w.setCell x u) B v k L F A C :=
  ⟨ownsRow_setCell_below h.row hx u, fun i hi => (h.each i hi).setOther hx u, h.apart⟩
theorem GathY.mono {w : World} {B B' : Nat} {v : Value} {k : Nat} {L : Nat → Nat} {F : Nat → Nat → Int} {A : Nat → Option Addr} {C : Nat → Nat} (h : GathY w B v k L F A C) (hB : B' ≤ B) : GathY w B' v k L F A C := by
  refine ⟨⟨h.row.1, ?_⟩, fun i hi => (h.each i hi).mono hB, h.apart⟩
  rcases h.row.2 with h2 | ⟨g, cap, cur, hv, hg, r⟩
  · exact Or.inl h2
  · exact Or.inr ⟨g, cap, cur, hv, by omega, r⟩

/-- One payload more: its bytes were made between w and w1, then the row was grown to w2. -/
theorem GathY.more {w w1 w2 : World} {B : Nat} {v v' : Value} {k : Nat} {L : Nat → Nat} {F : Nat → Nat → Int} {A : Nat → Option Addr} {C : Nat → Nat} (h : GathY w B v k L F A C) (hB : B ≤ w.heap.size) (hb : Below w.heap.size w w1) (ad : Option Addr) (cp : Nat) (hn : OwnB w1 w.heap.size ad (L k) (F k))
    (hr : w2.ownsRow B 75 1 v' (k + 1) (payRow A L C k ++ [.slice ad (L k) cp])) (hg : w1.grownBy w2 v.ownBlock) :
    GathY w2 B v' (k + 1) L F (fun i => if i = k then ad else A i) (fun i => if i = k then cp else C i) := by
  have keep : ∀ {a : Option Addr} {n : Nat} {f : Nat → Int} {B' : Nat}, OwnB w1 B' a n f → OwnB w2 B' a n f := by
    intro a n f B' ho
    rcases ho with h0 | ⟨g, rfl, hg', hr'⟩
    · exact Or.inl h0
    · refine Or.inr ⟨g, rfl, hg', hr'.of_block (hg.block g hr'.lt (fun e => ?_))⟩
      rcases h.row.2 with ⟨hv, _⟩ | ⟨g2, cap, cur, hv, _, hh, _⟩
      · rw [hv] at e; simp [Value.ownBlock] at e
      · rw [hv] at e
        simp [Value.ownBlock] at e
        subst e
        have hh1 : w1.heap[g]? = some (.cells cur 75 (0, 0)) := (hb.block g (Array.getElem?_eq_some_iff.1 hh).1).trans hh
        obtain ⟨c', hc', _⟩ := hr'
        rw [hh1] at hc'
        injection hc' with e1
        injection e1 with _ e2 _
        revert e2
        decide
  refine ⟨by rw [← payRow_succ]; exact hr, fun i hi => ?_, fun i j hi hj hij hl1 hl2 => ?_⟩
  · by_cases e : i = k
    · subst e; simp only [if_true]; exact keep (hn.mono hB)
    · simp only [if_neg e]; exact keep ((h.each i (by omega)).below hb)
  · have key : ∀ j, j < k → L j ≠ 0 → L k ≠ 0 → A j ≠ ad := by
      intro j hj hl hlk e
      rcases h.each j hj with h0 | ⟨g', hA, hg', hr'⟩
      · exact hl h0
      · rcases hn with h0 | ⟨g2, hA2, hg2, _⟩
        · exact hlk h0
        · rw [hA, hA2] at e
          injection e with e
          injection e with e
          have := hr'.lt
          omega
    by_cases e1 : i = k
    · by_cases e2 : j = k
      · omega
      · subst e1
        simp only [if_true, if_neg e2]
        exact fun e => key j (by omega) hl2 hl1 e.symm
    · by_cases e2 : j = k
      · subst e2
        simp only [if_neg e1, if_true]
        exact key i (by omega) hl1 hl2
      · simp only [if_neg e1, if_neg e2]
        exact h.apart i j (by omega) (by omega) hij hl1 hl2

theorem infoPay : (Try.prog.info? 75).map (fun i => (i.zero, i.size, i.bytes)) = some (some (.agg #[.slice none 0 0]), 1, 24) := by kernel_rfl

/-- 'append' of one payload to a row of the call's own, as a step of a region that draws its order. -/
theorem step_append_pay {ops : Array Oper} {o : Oper} {a : Act} {w : World} {K : Act → World → Prop} {Q : Exit → Act → World → Prop} {E : Prop} (hgd : o.guard = none) (x y : Operand)
    (ho : o.op = .call { callee := .builtin .append, args := #[x, y], argTypes := #[49, 49] })
    (B k : Nat) (v : Value) (xs : List Value) (hx : a.eval x = v) (hown : w.ownsRow B 75 1 v k xs) (b c : Nat) (u0 : Value) (hy : a.eval y = .slice (some ⟨b, 0, none⟩) 1 c)
    (hc0 : w.cell? ⟨b, 0, none⟩ = some u0) (h0 : u0.oneCell' = true) (hk : k ≤ 1048576) (hB : B ≤ w.heap.size)
    (h : ∀ v' w', w'.ownsRow B 75 1 v' (k + 1) (xs ++ [u0]) → w.grownBy w' v.ownBlock → K (a.put o.dst v') w') :
    if Region.wanted o (yielded ops a.tmps) = true then Oper.wp Try.prog o a w K Q else E := by
  have hw : Region.wanted o (yielded ops a.tmps) = true := by simp [Region.wanted, hgd]
  rw [if_pos hw]
  obtain ⟨i0, hi, hz0, hz1, hz2⟩ := info_parts infoPay
  refine wp_append_own w x y 49 ho B 75 i0 _ 1 24 Try.underlying49 hi hz0 hz1 hz2 rfl (by decide) v k xs hx hown ⟨b, 0, none⟩ 1 c [u0] hy rfl ?_ ?_ (by unfold maxLen; omega) (by omega) hB (fun v' w' q1 q2 _ => h v' w' q1 q2)
  · intro j u hj
    match j, hj with
    | 0, hj => simp at hj; subst hj; simpa [Addr.add] using hc0
    | j + 1, hj => simp at hj
  · intro u hu
    simp at hu
    subst hu
    exact h0
end Go.Proofs.Ytbpcafcipncloaa
