import Derived.Test.YtbpcafcipncloaaAppRd
import Derived.Test.YtbpcafcipncloaaToDisk
import Derived.Test.YtbpcafcipncloaaBox
import Derived.Deep.RegionHeld3
namespace Go.Proofs.Ytbpcafcipncloaa
open Go.RowKit Go.Deep
set_option linter.unusedVariables false
set_option maxRecDepth 100000

/-- The cells of a row of pending writes. -/
def pendRow (S : Nat → Int) (A : Nat → Option Addr) (L C : Nat → Nat) (k : Nat) : List Value := (List.range (k * 2)).map (pendCell S A L C)
theorem pendRow_length (S : Nat → Int) (A : Nat → Option Addr) (L C : Nat → Nat) (k : Nat) : (pendRow S A L C k).length = k * 2 := by simp [pendRow]
theorem pendRow_get (S : Nat → Int) (A : Nat → Option Addr) (L C : Nat → Nat) (k i : Nat) (h : i < k * 2) : (pendRow S A L C k)[i]? = some (pendCell S A L C i) := by simp [pendRow, h]
theorem pendRow_succ (S : Nat → Int) (A : Nat → Option Addr) (L C : Nat → Nat) (k : Nat) (ad : Option Addr) (cp : Nat) :
    pendRow S A L C k ++ [.int .i64 (S k), .slice ad (L k) cp] = pendRow S (fun i => if i = k then ad else A i) L (fun i => if i = k then cp else C i) (k + 1) := by
  apply List.ext_getElem?
  intro i
  by_cases h1 : i < k * 2
  · rw [List.getElem?_append_left (by rw [pendRow_length]; exact h1), pendRow_get _ _ _ _ _ _ h1, pendRow_get _ _ _ _ _ _ (by omega)]
    unfold pendCell
    have : ¬ i / 2 = k := by omega
    simp [this]
  · rw [List.getElem?_append_right (by rw [pendRow_length]; omega), pendRow_length]
    by_cases h2 : i = k * 2
    · subst h2
      rw [pendRow_get _ _ _ _ _ _ (by omega), pendCell_even]
      simp
    · by_cases h3 : i = k * 2 + 1
      · subst h3
        rw [pendRow_get _ _ _ _ _ _ (by omega), pendCell_odd]
        have : k * 2 + 1 - k * 2 = 1 := by omega
        simp [this]
      · rw [List.getElem?_eq_none (by simp; omega), List.getElem?_eq_none (by rw [pendRow_length]; omega)]

/-- Writes gathered one by one in the call's own memory. -/
structure Gath (w : World) (B : Nat) (v : Value) (k : Nat) (S : Nat → Int) (L : Nat → Nat) (F : Nat → Nat → Int) (A : Nat → Option Addr) (C : Nat → Nat) : Prop where
  row : w.ownsRow B 81 2 v k (pendRow S A L C k)
  each : ∀ i, i < k → OwnB w B (A i) (L i) (F i)
  apart : ∀ i j, i < k → j < k → i ≠ j → L i ≠ 0 → L j ≠ 0 → A i ≠ A j

theorem Gath.ownP {w : World} {B : Nat} {v : Value} {k : Nat} {S : Nat → Int} {L : Nat → Nat} {F : Nat → Nat → Int} {A : Nat → Option Addr} {C : Nat → Nat} (h : Gath w B v k S L F A C) : ∃ p q, v = .slice p k q ∧ OwnP w B p k S L F A := by
  rcases h.row.2 with ⟨hv, hk⟩ | ⟨g, cap, cur, hv, hg, hh, h1, h2, h3, h4⟩
  · subst hk; exact ⟨none, 0, hv, Or.inl rfl⟩
  · refine ⟨_, cap, hv, Or.inr ⟨g, C, rfl, hg, ⟨cur, hh, by omega, fun i hi => ?_⟩, h.each, h.apart⟩⟩
    rw [← pendRow_get S A L C k i hi, ← h4, List.getElem?_take, if_pos hi]
    simp

theorem Gath.start (w : World) (B : Nat) (S : Nat → Int) (L : Nat → Nat) (F : Nat → Nat → Int) : Gath w B (.slice none 0 0) 0 S L F (fun _ => none) (fun _ => 0) :=
  ⟨World.ownsRow_nil _ _ _ _, fun i hi => absurd hi (Nat.not_lt_zero _), fun i j hi => absurd hi (Nat.not_lt_zero _)⟩

theorem owns_below {w w' : World} {B : Nat} {e : TypeId} {size : Nat} {v : Value} {n : Nat} {xs : List Value} (h : w.ownsRow B e size v n xs) (hb : Below w.heap.size w w') : w'.ownsRow B e size v n xs := by
  obtain ⟨h1, h2⟩ := h
  refine ⟨h1, ?_⟩
  rcases h2 with h2 | ⟨g, cap, cur, hv, hg, hh, r⟩
  · exact Or.inl h2
  · exact Or.inr ⟨g, cap, cur, hv, hg, (hb.block g (Array.getElem?_eq_some_iff.1 hh).1).trans hh, r⟩

theorem Gath.below {w w' : World} {B : Nat} {v : Value} {k : Nat} {S : Nat → Int} {L : Nat → Nat} {F : Nat → Nat → Int} {A : Nat → Option Addr} {C : Nat → Nat} (h : Gath w B v k S L F A C) (hb : Below w.heap.size w w') : Gath w' B v k S L F A C :=
  ⟨owns_below h.row hb, fun i hi => (h.each i hi).below hb, h.apart⟩

theorem Gath.setOther {w : World} {B : Nat} {v : Value} {k : Nat} {S : Nat → Int} {L : Nat → Nat} {F : Nat → Nat → Int} {A : Nat → Option Addr} {C : Nat → Nat} (h : Gath w B v k S L F A C) {x : Addr} (hx : x.block < B) (u : Value) : Gath (w.setCell x u) B v k S L F A C :=
  ⟨ownsRow_setCell_below h.row hx u, fun i hi => (h.each i hi).setOther hx u, h.apart⟩

theorem Gath.mono {w : World} {B B' : Nat} {v : Value} {k : Nat} {S : Nat → Int} {L : Nat → Nat} {F : Nat → Nat → Int} {A : Nat → Option Addr} {C : Nat → Nat} (h : Gath w B v k S L F A C) (hB : B' ≤ B) : Gath w B' v k S L F A C := by
  refine ⟨⟨h.row.1, ?_⟩, fun i hi => (h.each i hi).mono hB, h.apart⟩
  rcases h.row.2 with h2 | ⟨g, cap, cur, hv, hg, r⟩
  · exact Or.inl h2
  · exact Or.inr ⟨g, cap, cur, hv, by omega, r⟩

theorem Gath.congr {w : World} {B : Nat} {v : Value} {k : Nat} {S S' : Nat → Int} {L L' : Nat → Nat} {F F' : Nat → Nat → Int} {A : Nat → Option Addr} {C : Nat → Nat} (h : Gath w B v k S L F A C) (hS : ∀ i, i < k → S i = S' i) (hL : ∀ i, i < k → L i = L' i) (hF : ∀ i, i < k → F i = F' i) : Gath w B v k S' L' F' A C := by
  have e : pendRow S A L C k = pendRow S' A L' C k := by
    unfold pendRow
    refine List.map_congr_left (fun c hc => ?_)
    have hc' : c / 2 < k := by have := List.mem_range.1 hc; omega
    unfold pendCell
    rw [hS _ hc', hL _ hc']
  refine ⟨by rw [← e]; exact h.row, fun i hi => ?_, fun i j hi hj hij h1 h2 => h.apart i j hi hj hij (by rw [hL i hi]; exact h1) (by rw [hL j hj]; exact h2)⟩
  rw [← hL i hi, ← hF i hi]
  exact h.each i hi

/-- One write more: its bytes have been made in w1, then the row was grown to w2. -/
theorem Gath.more {w w1 w2 : World} {B : Nat} {v v' : Value} {k : Nat} {S : Nat → Int} {L : Nat → Nat} {F : Nat → Nat → Int} {A : Nat → Option Addr} {C : Nat → Nat} (h : Gath w B v k S L F A C) (hB : B ≤ w.heap.size) (hb : Below w.heap.size w w1) (ad : Option Addr) (cp : Nat) (hn : OwnB w1 w.heap.size ad (L k) (F k))
    (hr : w2.ownsRow B 81 2 v' (k + 1) (pendRow S A L C k ++ [.int .i64 (S k), .slice ad (L k) cp])) (hg : w1.grownBy w2 v.ownBlock) :
    Gath w2 B v' (k + 1) S L F (fun i => if i = k then ad else A i) (fun i => if i = k then cp else C i) := by
  have keep : ∀ {a : Option Addr} {n : Nat} {f : Nat → Int} {B' : Nat}, OwnB w1 B' a n f → OwnB w2 B' a n f := by
    intro a n f B' ho
    rcases ho with h0 | ⟨g, rfl, hg', hr'⟩
    · exact Or.inl h0
    · refine Or.inr ⟨g, rfl, hg', hr'.of_block (hg.block g hr'.lt (fun e => ?_))⟩
      rcases h.row.2 with ⟨hv, _⟩ | ⟨g2, cap, cur, hv, _, hh, _⟩
      · rw [hv] at e; simp [Value.ownBlock] at e
      · rw [hv] at e
        simp [Value.ownBlock] at e
        subst e
        have hh1 : w1.heap[g]? = some (.cells cur 81 (0, 0)) := (hb.block g (Array.getElem?_eq_some_iff.1 hh).1).trans hh
        obtain ⟨c', hc', _⟩ := hr'
        rw [hh1] at hc'
        injection hc' with e1
        injection e1 with _ e2 _
        revert e2
        decide
  refine ⟨by rw [← pendRow_succ]; exact hr, fun i hi => ?_, fun i j hi hj hij hl1 hl2 => ?_⟩
  · by_cases e : i = k
    · subst e; simp only [if_true]; exact keep (hn.mono hB)
    · simp only [if_neg e]; exact keep ((h.each i (by omega)).below hb)
  · have key : ∀ j, j < k → L j ≠ 0 → L k ≠ 0 → A j ≠ ad := by
      intro j hj hl hlk e
      rcases h.each j hj with h0 | ⟨g', hA, hg', hr'⟩
      · exact hl h0
      · rcases hn with h0 | ⟨g2, hA2, hg2, _⟩
        · exact hlk h0
        · rw [hA, hA2] at e
          injection e with e
          injection e with e
          have := hr'.lt
          omega
    by_cases e1 : i = k
    · by_cases e2 : j = k
      · omega
      · subst e1
        simp only [if_true, if_neg e2]
        exact fun e => key j (by omega) hl2 hl1 e.symm
    · by_cases e2 : j = k
      · subst e2
        simp only [if_neg e1, if_true]
        exact key i (by omega) hl1 hl2
      · simp only [if_neg e1, if_neg e2]
        exact h.apart i j (by omega) (by omega) hij hl1 hl2

/-- 'append' of one write to a row of the call's own, as a step of a region that draws its order. -/
theorem step_append_pend {ops : Array Oper} {o : Oper} {a : Act} {w : World} {K : Act → World → Prop} {Q : Exit → Act → World → Prop} {E : Prop} (hgd : o.guard = none) (x y : Operand)
    (ho : o.op = .call { callee := .builtin .append, args := #[x, y], argTypes := #[37, 37] })
    (B k : Nat) (v : Value) (xs : List Value) (hx : a.eval x = v) (hown : w.ownsRow B 81 2 v k xs) (b c : Nat) (u0 u1 : Value) (hy : a.eval y = .slice (some ⟨b, 0, none⟩) 1 c)
    (hc0 : w.cell? ⟨b, 0, none⟩ = some u0) (hc1 : w.cell? ⟨b, 1, none⟩ = some u1) (h0 : u0.oneCell' = true) (h1 : u1.oneCell' = true) (hk : k ≤ 1048576) (hB : B ≤ w.heap.size)
    (h : ∀ v' w', w'.ownsRow B 81 2 v' (k + 1) (xs ++ [u0, u1]) → w.grownBy w' v.ownBlock → K (a.put o.dst v') w') :
    if Region.wanted o (yielded ops a.tmps) = true then Oper.wp Try.prog o a w K Q else E := by
  have hw : Region.wanted o (yielded ops a.tmps) = true := by simp [Region.wanted, hgd]
  rw [if_pos hw]
  obtain ⟨i0, hi, hz0, hz1, hz2⟩ := info_parts Try.info81
  refine wp_append_own w x y 37 ho B 81 i0 _ 2 32 Try.underlying37 hi hz0 hz1 hz2 rfl (by decide) v k xs hx hown ⟨b, 0, none⟩ 1 c [u0, u1] hy rfl ?_ ?_ (by unfold maxLen; omega) (by omega) hB (fun v' w' q1 q2 _ => h v' w' q1 q2)
  · intro j u hj
    match j, hj with
    | 0, hj => simp at hj; subst hj; simpa [Addr.add] using hc0
    | 1, hj => simp at hj; subst hj; simpa [Addr.add] using hc1
    | j + 2, hj => simp at hj
  · intro u hu
    simp at hu
    rcases hu with rfl | rfl
    · exact h0
    · exact h1
end Go.Proofs.Ytbpcafcipncloaa
