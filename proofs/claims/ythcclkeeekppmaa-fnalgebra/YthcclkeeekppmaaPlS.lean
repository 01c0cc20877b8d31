import Derived.Test.YthcclkeeekppmaaPlA
namespace Go.Proofs.Ythcclkeeekppmaa
open Go.RowKit Go.Deep
set_option linter.unusedVariables false
set_option maxRecDepth 100000

/-- A path's places. -/
def plF (I : Nat → Int) (X R : Nat → ByteArray) (AA : Nat → Option Addr) (CC : Nat → Nat) (Bd : Nat → Bool) (Lb : Nat → ByteArray) (H : Nat → Int) (i : Nat) : Plc := ⟨I i, X i, R i, Bd i, Lb i, AA i, arOf (I i), CC i, H i⟩
def arI (I : Nat → Int) (i : Nat) : Nat := arOf (I i)
theorem arI_le (I : Nat → Int) (i : Nat) : arI I i ≤ 2 := arOf_le _

theorem plS_keep {W W' : World} {B : Nat} {t : TypeId} {s : Nat} {v : Value} {n : Nat} {xs : List Value} (h : W.ownsRow B t s v n xs) (hk : ∀ g, v.ownBlock = some g → W'.heap[g]? = W.heap[g]?) : W'.ownsRow B t s v n xs := by
  refine ⟨h.1, ?_⟩
  rcases h.2 with h2 | ⟨g, cap, cur, rfl, hg, hh, r⟩
  · exact Or.inl h2
  · exact Or.inr ⟨g, cap, cur, rfl, hg, (hk g rfl).trans hh, r⟩
theorem plS_below {W W' : World} {B : Nat} {t : TypeId} {s : Nat} {v : Value} {n : Nat} {xs : List Value} (h : W.ownsRow B t s v n xs) (hb : Below W.heap.size W W') : W'.ownsRow B t s v n xs :=
  plS_keep h (fun g e => hb.block g (h.lt g e).2)
/-- What a row's block is typed by. -/
theorem plS_ty {W : World} {B : Nat} {t : TypeId} {s : Nat} {v : Value} {n : Nat} {xs : List Value} (h : W.ownsRow B t s v n xs) {g : Nat} (e : v.ownBlock = some g) : ∃ cur, W.heap[g]? = some (.cells cur t (0, 0)) := by
  rcases h.2 with ⟨rfl, _⟩ | ⟨g', cap, cur, rfl, hg, hh, r⟩
  · simp [Value.ownBlock] at e
  · simp [Value.ownBlock] at e
    subst e
    exact ⟨cur, hh⟩
theorem plS_ne {W : World} {g : Nat} {c c' : Array Value} {t t' : TypeId} (h : W.heap[g]? = some (.cells c t (0, 0))) (h' : W.heap[g]? = some (.cells c' t' (0, 0))) (ht : t ≠ t') : False := by
  rw [h] at h'
  injection h' with e
  injection e with _ e2 _
  exact ht e2

/-- readPath under way: kt places made, ks nodes put on the stack. -/
structure PlSt (W : World) (B : Nat) (I : Nat → Int) (X R : Nat → ByteArray) (kt ks : Nat) (v4 v5 : Value) (d : Nat) (AA : Nat → Option Addr) (CC : Nat → Nat) (S : Nat → Nat) : Prop where
  row : W.ownsRow B 65 7 v4 kt (plRow (plF I X R AA CC (fun _ => false) (fun _ => { data := #[] }) (fun _ => 0)) kt)
  ops : ∀ i, i < kt → OwnI W B (AA i) (arOf (I i)) (fun j => (opf (arI I) i j : Int))
  caps : ∀ i, i < kt → arOf (I i) ≤ CC i ∧ CC i ≤ 9223372036854775807
  stk : W.ownsRow B 3 1 v5 d (intRow (fun j => (S j : Int)) d)
  apart : ∀ i, i < kt → arOf (I i) ≠ 0 → ∀ x, AA i = some x → v5.ownBlock ≠ some x.block
  st : ∀ j, j < d → StackAt (arI I) ks (j + 1) (S j)
  dd : dep (arI I) ks = d
  ok : StackOk (arI I) ks

section
variable {W W1 W2 : World} {B : Nat} {I : Nat → Int} {X R : Nat → ByteArray} {k kt ks d : Nat} {v4 v5 : Value} {AA : Nat → Option Addr} {CC : Nat → Nat} {S : Nat → Nat}

theorem PlSt.start (W : World) (B : Nat) (I : Nat → Int) (X R : Nat → ByteArray) : PlSt W B I X R 0 0 (.slice none 0 0) (.slice none 0 0) 0 (fun _ => none) (fun _ => 0) (fun _ => 0) :=
  ⟨World.ownsRow_nil _ _ _ _, fun i hi => absurd hi (Nat.not_lt_zero _), fun i hi => absurd hi (Nat.not_lt_zero _), World.ownsRow_nil _ _ _ _, fun i hi => absurd hi (Nat.not_lt_zero _), fun i hi => absurd hi (Nat.not_lt_zero _), rfl, fun i hi => absurd hi (Nat.not_lt_zero _)⟩

theorem PlSt.below (h : PlSt W B I X R kt ks v4 v5 d AA CC S) (hb : Below W.heap.size W W1) : PlSt W1 B I X R kt ks v4 v5 d AA CC S :=
  ⟨plS_below h.row hb, fun i hi => (h.ops i hi).below hb, h.caps, plS_below h.stk hb, h.apart, h.st, h.dd, h.ok⟩

/-- The operands that the stack holds are those of node k. -/
theorem PlSt.opnd (h : PlSt W B I X R k k v4 v5 d AA CC S) (hd : arOf (I k) ≤ d) {j : Nat} (hj : j < arOf (I k)) : S (d - arOf (I k) + j) = opf (arI I) k j := by
  have h1 := h.st (d - arOf (I k) + j) (by omega)
  have hok : StackOk (arI I) (k + 1) := by
    intro i hi
    by_cases e : i = k
    · subst e
      rw [h.dd]
      show ((arOf (I i) : Nat) : Int) ≤ _
      omega
    · exact h.ok i (by omega)
  exact h1.uniq (opf_stack hok (by omega) (arI_le I k) hj h.dd)

/-- The place of node k put to the others. -/
theorem PlSt.push (h : PlSt W B I X R k ks v4 v5 d AA CC S) (hB : B ≤ W.heap.size) (hb : Below W.heap.size W W1) {ad : Option Addr} {c : Nat} (hn : OwnI W1 W.heap.size ad (arOf (I k)) (fun j => (opf (arI I) k j : Int))) (hc : arOf (I k) ≤ c) (hcm : c ≤ 9223372036854775807) {v' : Value}
    (hr : W2.ownsRow B 65 7 v' (k + 1) (plRow (plF I X R AA CC (fun _ => false) (fun _ => { data := #[] }) (fun _ => 0)) k ++ (Plc.mk (I k) (X k) (R k) false { data := #[] } ad (arOf (I k)) c 0).cells)) (hg : W1.grownBy W2 v4.ownBlock) :
    PlSt W2 B I X R (k + 1) ks v' v5 d (fun i => if i = k then ad else AA i) (fun i => if i = k then c else CC i) S := by
  have keep : ∀ {g : Nat} {cur : Array Value}, W1.heap[g]? = some (.cells cur 3 (0, 0)) → W2.heap[g]? = W1.heap[g]? := by
    intro g cur hh
    refine hg.block g (Array.getElem?_eq_some_iff.1 hh).1 (fun e => ?_)
    obtain ⟨cur', hh'⟩ := plS_ty (plS_below h.row hb) e.symm
    exact plS_ne hh' hh (by decide)
  have keepI : ∀ {B' : Nat} {a : Option Addr} {n : Nat} {f : Nat → Int}, OwnI W1 B' a n f → OwnI W2 B' a n f := by
    intro B' a n f ho
    rcases ho with h0 | ⟨g, rfl, hg', hr'⟩
    · exact Or.inl h0
    · obtain ⟨cur, hh, q1, q2⟩ := hr'
      exact Or.inr ⟨g, rfl, hg', cur, (keep hh).trans hh, q1, q2⟩
  refine ⟨?_, fun i hi => ?_, fun i hi => ?_, ?_, fun i hi hl x hx => ?_, h.st, h.dd, h.ok⟩
  · rw [plRow_succ]
    have e1 : plRow (plF I X R (fun i => if i = k then ad else AA i) (fun i => if i = k then c else CC i) (fun _ => false) (fun _ => { data := #[] }) (fun _ => 0)) k = plRow (plF I X R AA CC (fun _ => false) (fun _ => { data := #[] }) (fun _ => 0)) k :=
      plRow_congr (fun i hi => by unfold plF; simp only [if_neg (show i ≠ k by omega)])
    rw [e1]
    have e2 : plF I X R (fun i => if i = k then ad else AA i) (fun i => if i = k then c else CC i) (fun _ => false) (fun _ => { data := #[] }) (fun _ => 0) k = Plc.mk (I k) (X k) (R k) false { data := #[] } ad (arOf (I k)) c 0 := by
      unfold plF; simp only [if_true]
    rw [e2]
    exact hr
  · by_cases e : i = k
    · subst e; simp only [if_true]; exact keepI (hn.mono hB)
    · simp only [if_neg e]; exact keepI ((h.ops i (by omega)).below hb)
  · by_cases e : i = k
    · subst e; simp only [if_true]; exact ⟨hc, hcm⟩
    · simp only [if_neg e]; exact h.caps i (by omega)
  · refine plS_keep (plS_below h.stk hb) (fun g e => ?_)
    obtain ⟨cur, hh⟩ := plS_ty (plS_below h.stk hb) e
    exact keep hh
  · by_cases e : i = k
    · subst e
      simp only [if_true] at hx
      rcases hn with h0 | ⟨g, rfl, hg', _⟩
      · exact absurd h0 hl
      · injection hx with hx
        subst hx
        intro e2
        have h3 : g < W.heap.size := (h.stk.lt _ e2).2
        omega
    · simp only [if_neg e] at hx
      exact h.apart i (by omega) hl x hx

/-- Node k put on the stack in its operands' stead. -/
theorem PlSt.put (h : PlSt W B I X R (k + 1) k v4 v5 d AA CC S) (hb : Below W.heap.size W W1) (hd : arOf (I k) ≤ d) {v' : Value}
    (hr : W2.ownsRow B 3 1 v' (d - arOf (I k) + 1) (intRow (fun j => (S j : Int)) (d - arOf (I k)) ++ [.int .i64 (k : Int)])) (hg : W1.grownBy W2 v5.ownBlock) (hat : v'.ownBlock = v5.ownBlock ∨ v'.ownBlock = some W1.heap.size) :
    PlSt W2 B I X R (k + 1) (k + 1) v4 v' (d - arOf (I k) + 1) AA CC (fun j => if j = d - arOf (I k) then k else S j) := by
  have e0 : (arI I k : Int) = (arOf (I k) : Nat) := rfl
  refine ⟨?_, fun i hi => ?_, h.caps, ?_, fun i hi hl x hx => ?_, fun j hj => ?_, ?_, fun i hi => ?_⟩
  · refine plS_keep (plS_below h.row hb) (fun g e => hg.block g ((plS_below h.row hb).lt _ e).2 (fun e2 => ?_))
    obtain ⟨cur, hh⟩ := plS_ty (plS_below h.row hb) e
    obtain ⟨cur', hh'⟩ := plS_ty (plS_below h.stk hb) e2.symm
    exact plS_ne hh hh' (by decide)
  · rcases (h.ops i hi).below hb with h0 | ⟨g, e, hg', hr'⟩
    · exact Or.inl h0
    · by_cases h0 : arOf (I i) = 0
      · exact Or.inl h0
      · refine Or.inr ⟨g, e, hg', hr'.of_block (hg.block g hr'.lt (fun e2 => ?_))⟩
        exact h.apart i hi h0 _ e e2.symm
  · rw [intRow_more] at hr
    refine (congrArg (W2.ownsRow B 3 1 v' (d - arOf (I k) + 1)) ?_).mp hr
    unfold intRow
    refine List.map_congr_left (fun j hj => ?_)
    by_cases e : j = d - arOf (I k)
    · simp only [if_pos e]
    · simp only [if_neg e]
  · rcases hat with e | e
    · rw [e]; exact h.apart i hi hl x hx
    · rw [e]
      intro e2
      injection e2 with e2
      rcases (h.ops i hi).below hb with h0 | ⟨g, e3, hg', hr'⟩
      · exact hl h0
      · rw [hx] at e3
        injection e3 with e3
        subst e3
        have h3 := hr'.lt
        have e4 : W1.heap.size = g := e2
        omega
  · by_cases e : j = d - arOf (I k)
    · simp only [if_pos e]
      subst e
      refine stackAt_top ?_
      rw [dep_succ, h.dd]
      omega
    · simp only [if_neg e]
      refine (h.st j (by omega)).stay ?_
      rw [h.dd]
      omega
  · rw [dep_succ, h.dd]
    omega
  · by_cases e : i = k
    · subst e
      rw [h.dd]
      omega
    · exact h.ok i (by omega)
end
end Go.Proofs.Ythcclkeeekppmaa
