import Derived.Test.YthcclkeeekppmaaNp2
import Derived.ArgAppend
import Derived.Lib.SmallJoins
import Derived.Test.YthcclkeeekppmaaPlS
namespace Go.Proofs.Ythcclkeeekppmaa
open Go.RowKit Go.Deep
set_option linter.unusedVariables false
set_option maxRecDepth 100000

/-- A string's bytes. -/
def bl (x : ByteArray) : List Int := x.data.toList.map (fun b => (b.toNat : Int))
theorem bl_length (x : ByteArray) : (bl x).length = x.size := by unfold bl; rw [List.length_map]; rfl
def hexC (n : Nat) : Int := if n < 10 then 48 + n else 87 + n
def qB (b : Int) : List Int := if b = 34 ∨ b = 92 then [92, b] else if 32 ≤ b ∧ b ≤ 126 then [b] else [92, 120, hexC (b.toNat / 16), hexC (b.toNat % 16)]
/-- A string between quotes. -/
def qL (l : List Int) : List Int := 34 :: (l.flatMap qB ++ [34])
theorem qB_length (b : Int) : (qB b).length ≤ 4 := by unfold qB; split <;> (try split) <;> simp
theorem qM_length (l : List Int) : (l.flatMap qB).length ≤ 4 * l.length := by
  induction l with
  | nil => simp
  | cons a l ih =>
    have := qB_length a
    simp only [List.flatMap_cons, List.length_append, List.length_cons]
    omega
theorem new_cells (w : World) (cs : List Value) (t : TypeId) : ∀ j u, cs[j]? = some u → (w.alloc (.cells cs.toArray t)).cell? (Addr.add ⟨w.heap.size, 0, none⟩ j) = some u := by
  intro j u h
  have e : (Addr.add ⟨w.heap.size, 0, none⟩ j) = ⟨w.heap.size, j, none⟩ := by
    unfold Addr.add
    by_cases h : j = 0
    · subst h; simp
    · simp [h]
  rw [e]
  have hh : (w.alloc (.cells cs.toArray t)).heap[w.heap.size]? = some (.cells cs.toArray t) := Array.getElem?_push_size
  unfold World.cell?
  rw [hh]
  show cs.toArray[j]? = some u
  rw [List.getElem?_toArray]
  exact h
/-- A text to which can be appended: a row of the call's own, or a constant's, which is full. -/
def TxA (w : World) (B : Nat) (v : Value) (n : Nat) (l : List Int) : Prop :=
  n = l.length ∧ (w.ownsRow B 5 1 v n (bv l) ∨ ∃ g, v = .slice (some ⟨g, 0, none⟩) n n ∧ B ≤ g ∧ g < w.heap.size ∧ ∀ j u, (bv l)[j]? = some u → w.cell? (Addr.add ⟨g, 0, none⟩ j) = some u)
theorem bv_one (l : List Int) : ∀ u ∈ bv l, u.oneCell' = true := by
  intro u hu
  unfold bv at hu
  obtain ⟨b, _, rfl⟩ := List.mem_map.1 hu
  rfl
theorem TxA.below {w w' : World} {B n : Nat} {v : Value} {l : List Int} (h : TxA w B v n l) (hb : Below w.heap.size w w') : TxA w' B v n l := by
  obtain ⟨h0, h | ⟨g, e, h1, h2, h3⟩⟩ := h
  · exact ⟨h0, .inl (h.kept (w' := w') (row := none) ⟨hb.os, hb.tape, hb.output, hb.size, fun k hk _ => hb.block k hk⟩ (by cases hv : v.ownBlock <;> simp))⟩
  · refine ⟨h0, .inr ⟨g, e, h1, Nat.lt_of_lt_of_le h2 hb.size, fun j u hj => (hb.cell ?_).trans (h3 j u hj)⟩⟩
    show (Addr.add ⟨g, 0, none⟩ j).block < _
    unfold Addr.add
    split <;> exact h2
theorem TxA.rd {w : World} {B n : Nat} {v : Value} {l : List Int} (h : TxA w B v n l) : ∃ a c, v = .slice a n c ∧ RdL w a l ∧ (0 < l.length → ∀ p, a = some p → B ≤ p.block) := by
  obtain ⟨h0, h | ⟨g, e, h1, h2, h3⟩⟩ := h
  · obtain ⟨a, c, e, h1, _⟩ := own_bv h0 h
    subst h0
    refine ⟨a, c, e, h1.rd, fun h0 p hp => ?_⟩
    rcases h1 with h1 | ⟨g, e, h1, _⟩
    · omega
    · rw [hp] at e
      injection e with e
      rw [e]
      exact h1
  · refine ⟨_, _, e, .inr ⟨g, 0, rfl, fun i hi => ?_⟩, fun _ p hp => by injection hp with hp; rw [← hp]; exact h1⟩
    have := h3 i (.int .u8 (lf l i)) (by unfold bv lf; rw [List.getElem?_map, List.getElem?_eq_getElem hi, List.getD_eq_getElem?_getD, List.getElem?_eq_getElem hi]; rfl)
    rw [← this, Nat.zero_add]
    congr 1
    unfold Addr.add
    by_cases h : i = 0
    · subst h; simp
    · simp [h]
theorem app_run {w : World} {B n m c : Nat} {v : Value} {l y : List Int} {a : Addr} (ty : TypeId) (h : TxA w B v n l) (hm : m = y.length) (hm0 : 0 < m) (hrd : ∀ j u, (bv y)[j]? = some u → w.cell? (Addr.add a j) = some u) (hnm : n + m ≤ 1099511627776) (hB : B ≤ w.heap.size) :
    ∃ v' w', (Builtin.append_ #[22, 22] ty #[v, .slice (some a) m c]).run Try.prog w = .ok v' w' ∧ TxA w' B v' (n + m) (l ++ y) ∧ Below B w w' := by
  obtain ⟨i0, hi, hz0, hz1, hz2⟩ := info_parts infoB
  have hlen : n + m = (l ++ y).length := by rw [List.length_append, h.1, hm]
  obtain ⟨h0, h | ⟨g, e, h1, h2, h3⟩⟩ := h
  · obtain ⟨v', w', q1, q2, q3, _⟩ := run_append_own (P := Try.prog) w B 22 ty 5 i0 (.int .u8 0) 1 1 Try.underlying22 hi hz0 hz1 hz2 rfl (by decide) v n (bv l) h a m c (bv y) (by rw [bv_length]; omega) hrd (bv_one y) (by unfold maxLen; omega) (by omega) hB
    exact ⟨v', w', q1, ⟨hlen, .inl (by rw [bv_app]; exact q2)⟩, (Below.refl _ _).grown q3 hB (fun b e => (h.lt b e).1)⟩
  · subst e
    obtain ⟨v', w', q1, q2, q3⟩ := run_append_arg_grows (P := Try.prog) w 22 ty 5 i0 (.int .u8 0) 1 1 Try.underlying22 hi hz0 hz1 hz2 rfl (by decide) ⟨g, 0, none⟩ n n (bv l) (by rw [bv_length]; omega) h3 a m c (bv y) (by rw [bv_length]; omega) hrd (by omega) (by unfold maxLen; omega) (by omega)
    exact ⟨v', w', q1, ⟨hlen, .inl (by rw [bv_app]; exact Go.Joins.ownsRow_le q2 hB)⟩, (Below.refl _ _).grown q3 hB (fun b e => by cases e)⟩
theorem app_b {w : World} {ops : Array Oper} {rest : List Oper} {o : Oper} {act : Act} {Q : Exit → Act → World → Prop} (hgd : o.guard = none) (s x : Operand)
    (ho : o.op = .call { callee := .builtin .append, args := #[s, x], argTypes := #[22, 22] })
    (B : Nat) (v : Value) (n : Nat) (l : List Int) (hs : act.eval s = v) (hown : TxA w B v n l)
    (a : Addr) (m c : Nat) (y : List Int) (hx : act.eval x = .slice (some a) m c) (hm : m = y.length) (hm0 : 0 < m) (hrd : ∀ j u, (bv y)[j]? = some u → w.cell? (Addr.add a j) = some u) (hnm : n + m ≤ 1099511627776) (hB : B ≤ w.heap.size)
    (h : ∀ v' w', TxA w' B v' (n + m) (l ++ y) → Below B w w' → wpList Try.prog ops Q rest (act.put o.dst v') w') : wpList Try.prog ops Q (o :: rest) act w := by
  refine wpList_plain hgd fun K hK => ?_
  obtain ⟨v', w', hrun, r1, r2⟩ := app_run (c := c) o.type hown hm hm0 hrd hnm hB
  unfold Oper.wp
  simp [execOp, ho, resolve, invoke, builtin, hs, hx, hrun, Result.andThen]
  exact hK _ _ (h v' w' r1 r2)

end Go.Proofs.Ythcclkeeekppmaa

namespace Go.Proofs.Ythcclkeeekppmaa
open Go.RowKit Go.Deep
set_option linter.unusedVariables false
set_option maxRecDepth 100000

/-- How strongly a node binds. -/
def sB (k : Int) : Int := if k = 6 then 2 else if k = 7 ∨ k = 8 then 1 else 0
/-- Whether an operand stands in parentheses. -/
def wrB (op : Int) (right : Bool) (s : Int) : Bool := if s = 0 ∨ op = 9 then false else if op = 3 ∨ op = 4 ∨ op = 5 then true else if op = 6 then (decide (s = 1) || right) else (decide (s = 1) && right)
def wrT (k : Int) (r : Bool) (kk : Int) (a : List Int) : List Int := if wrB k r (sB kk) = true then [[40], a, [41]].flatten else a
theorem wrT_length (k : Int) (r : Bool) (kk : Int) (a : List Int) : (wrT k r kk a).length ≤ a.length + 2 := by
  unfold wrT
  split <;> simp
theorem qL_length1 (x : ByteArray) (h : x.size ≤ 31) : (qL (bl x)).length ≤ 126 := by
  have := qM_length (bl x)
  rw [bl_length] at this
  unfold qL
  simp only [List.length_cons, List.length_append, List.length_nil]
  omega
/-- A node's parts. -/
def nodeP (k : Int) (s t : ByteArray) (a0 : List Int) (k0 : Int) (a1 : List Int) (k1 : Int) : List (List Int) :=
  if k = 1 then [[97, 108, 108]]
  else if k = 2 then [[118, 40], qL (bl s), [41]]
  else if k = 3 then [wrT k false k0 a0, [46, 111, 117, 116, 40], qL (bl s), [41]]
  else if k = 4 then [wrT k false k0 a0, [46, 105, 110, 40], qL (bl s), [41]]
  else if k = 5 then [wrT k false k0 a0, [46, 104, 97, 115, 40], qL (bl s), [44, 32], qL (bl t), [41]]
  else if k = 6 then [wrT k false k0 a0, [32, 38, 32], wrT k true k1 a1]
  else if k = 7 then [wrT k false k0 a0, [32, 124, 32], wrT k true k1 a1]
  else if k = 8 then [wrT k false k0 a0, [32, 45, 32], wrT k true k1 a1]
  else [[103, 114, 97, 112, 104, 32], qL (bl s), [32, 40], wrT k false k0 a0, [41]]
def nodeT (k : Int) (s t : ByteArray) (a0 : List Int) (k0 : Int) (a1 : List Int) (k1 : Int) : List Int := (nodeP k s t a0 k0 a1 k1).flatten
/-- A node's text, f being large enough. -/
def TF (I : Nat → Int) (X R : Nat → ByteArray) : Nat → Nat → List Int
  | 0, _ => []
  | f + 1, i => nodeT (I i) (X i) (R i) (if opf (arI I) i 0 < i then TF I X R f (opf (arI I) i 0) else []) (I (opf (arI I) i 0)) (if opf (arI I) i 1 < i then TF I X R f (opf (arI I) i 1) else []) (I (opf (arI I) i 1))
theorem TF_any (I : Nat → Int) (X R : Nat → ByteArray) : ∀ (f g i : Nat), i < f → i < g → TF I X R f i = TF I X R g i
  | 0, _, _, h, _ => absurd h (Nat.not_lt_zero _)
  | _ + 1, 0, _, _, h => absurd h (Nat.not_lt_zero _)
  | f + 1, g + 1, i, h1, h2 => by
    have e : ∀ j, j < i → TF I X R f j = TF I X R g j := fun j hj => TF_any I X R f g j (by omega) (by omega)
    have e0 : (if opf (arI I) i 0 < i then TF I X R f (opf (arI I) i 0) else []) = (if opf (arI I) i 0 < i then TF I X R g (opf (arI I) i 0) else []) := by
      split
      · exact e _ (by assumption)
      · rfl
    have e1 : (if opf (arI I) i 1 < i then TF I X R f (opf (arI I) i 1) else []) = (if opf (arI I) i 1 < i then TF I X R g (opf (arI I) i 1) else []) := by
      split
      · exact e _ (by assumption)
      · rfl
    show nodeT _ _ _ _ _ _ _ = nodeT _ _ _ _ _ _ _
    rw [e0, e1]
/-- A node's text. -/
def T (I : Nat → Int) (X R : Nat → ByteArray) (i : Nat) : List Int := TF I X R (i + 1) i
theorem T_eq (I : Nat → Int) (X R : Nat → ByteArray) (i : Nat) : T I X R i = nodeT (I i) (X i) (R i) (if h : opf (arI I) i 0 < i then T I X R (opf (arI I) i 0) else []) (I (opf (arI I) i 0)) (if h : opf (arI I) i 1 < i then T I X R (opf (arI I) i 1) else []) (I (opf (arI I) i 1)) := by
  have e : ∀ j, (if opf (arI I) i j < i then TF I X R i (opf (arI I) i j) else []) = (if h : opf (arI I) i j < i then T I X R (opf (arI I) i j) else []) := fun j => by
    by_cases h : opf (arI I) i j < i
    · rw [if_pos h, dif_pos h]
      exact TF_any I X R _ _ _ h (by omega)
    · rw [if_neg h, dif_neg h]
  show nodeT _ _ _ _ _ _ _ = nodeT _ _ _ _ _ _ _
  rw [e 0, e 1]
theorem nodeT_length (k : Int) (s t : ByteArray) (a0 : List Int) (k0 : Int) (a1 : List Int) (k1 : Int) (hs : s.size ≤ 31) (ht : t.size ≤ 31) (hk : 1 ≤ k ∧ k ≤ 9) : (nodeT k s t a0 k0 a1 k1).length ≤ (if 1 ≤ arOf k then a0.length else 0) + (if arOf k = 2 then a1.length else 0) + 300 := by
  have h1 := qL_length1 s hs
  have h2 := qL_length1 t ht
  have h3 := wrT_length k false k0 a0
  have h4 := wrT_length k true k1 a1
  have h9 : k = 1 ∨ k = 2 ∨ k = 3 ∨ k = 4 ∨ k = 5 ∨ k = 6 ∨ k = 7 ∨ k = 8 ∨ k = 9 := by omega
  rcases h9 with rfl | rfl | rfl | rfl | rfl | rfl | rfl | rfl | rfl
  all_goals
    simp [nodeT, nodeP, arOf] at h3 h4 ⊢
    try omega
theorem Begins.lift {A : Nat → Nat} {base e s : Nat} (h : Begins (fun i => A (base + i)) e s) : Begins A (base + e) (base + s) := by
  obtain ⟨h1, h2, h3⟩ := h
  unfold need at h2 h3
  refine ⟨by omega, ?_, fun j h4 h5 => ?_⟩
  · unfold need
    rw [dep_shift, dep_shift] at h2
    omega
  · unfold need
    have := h3 (j - base) (by omega) (by omega)
    rw [dep_shift, dep_shift, show base + (j - base) = j by omega] at this
    omega
/-- What the walk is told of the root's operands: each is a row of its own, whose root is told by opf. -/
theorem kids_text {b o c base m r : Nat} {ks : List Value} {I : Nat → Int} {X R : Nat → ByteArray} {w : World} (h : KidsOf (fun i => arOf (I (base + i))) b o c (m + 1) (arOf (I (base + m))) r ks) (hR : RdN w (some ⟨b, o, none⟩) (m + 1) (fun i => I (base + i)) (fun i => X (base + i)) (fun i => R (base + i))) (hc : m + 1 ≤ c) (hb : Begins (fun i => arOf (I (base + i))) (m + 1) 0) :
    ∀ i, i < arOf (I (base + m)) → ∃ o' n' c' base', ks[i]? = some (.slice (some ⟨b, o', none⟩) (n' + 1) c') ∧ RdN w (some ⟨b, o', none⟩) (n' + 1) (fun i => I (base' + i)) (fun i => X (base' + i)) (fun i => R (base' + i)) ∧ Begins (fun i => arOf (I (base' + i))) (n' + 1) 0 ∧ n' + 1 ≤ m ∧ n' + 1 ≤ c' ∧ c' ≤ c ∧ base' + n' = opf (arI I) (base + m) i ∧ base' + n' < base + m := by
  intro i hi
  rcases h with ⟨h0, _, _⟩ | ⟨h1, h2, h3⟩ | ⟨h1, _, s, h2, h3, h4⟩
  · omega
  · rw [Nat.add_sub_cancel] at h2 h3
    have hr0 : r = 0 := by
      rcases kids_math (by omega) hb (by exact arOf_le _) with ⟨e, _⟩ | ⟨_, e⟩ | ⟨e, _⟩
      · rw [Nat.add_sub_cancel] at e; omega
      · rw [Nat.add_sub_cancel] at e; exact h2.uniq e
      · rw [Nat.add_sub_cancel] at e; omega
    subst hr0
    have hi0 : i = 0 := by omega
    subst hi0
    have hm := h2.1
    refine ⟨o, m - 1, c, base, ?_, hR.take (by omega), ?_, by omega, by omega, Nat.le_refl _, ?_, by omega⟩
    · rw [h3, show m - 1 + 1 = m by omega]; simp
    · rw [show m - 1 + 1 = m by omega]; exact h2
    · unfold opf arI
      rw [if_neg (by omega)]
      omega
  · rw [Nat.add_sub_cancel] at h2 h4
    have hs := h2.1
    have hs0 := h3.1
    have hi2 : i = 0 ∨ i = 1 := by omega
    rcases hi2 with rfl | rfl
    · refine ⟨o, s - 1, c, base, ?_, hR.take (by omega), ?_, by omega, by omega, Nat.le_refl _, ?_, by omega⟩
      · rw [h4, show s - 1 + 1 = s by omega]; rfl
      · rw [show s - 1 + 1 = s by omega]; exact h3
      · have e := bgF_of (Begins.lift (A := arI I) h2)
        unfold opf
        rw [if_pos ⟨h1, rfl⟩, e]
        omega
    · refine ⟨o + s * 3, m - s - 1, c - s, base + s, ?_, ?_, ?_, by omega, by omega, by omega, ?_, by omega⟩
      · rw [h4, show m - s - 1 + 1 = m - s by omega]; rfl
      · rw [show m - s - 1 + 1 = m - s by omega]
        have := (hR.shift s).take (show m - s ≤ m + 1 - s by omega)
        simpa only [Nat.add_assoc] using this
      · rw [show m - s - 1 + 1 = m - s by omega]
        have := h2.shift
        simpa only [Nat.add_assoc] using this
      · unfold opf
        rw [if_neg (by omega)]
        omega
end Go.Proofs.Ythcclkeeekppmaa

namespace Go.Proofs.Ythcclkeeekppmaa
open Go.RowKit Go.Deep
set_option linter.unusedVariables false
set_option maxRecDepth 100000

/-- What a node means over the facts that count, A and B being its operands' meanings. -/
def nodeM (k : Int) (s t : ByteArray) (F : List Fc) (A B : ByteArray → Prop) (x : ByteArray) : Prop :=
  if k = 1 then ∃ f, f ∈ F ∧ (x = f.s ∨ x = f.o)
  else if k = 2 then ∃ f, f ∈ F ∧ (f.s = s ∨ f.o = s) ∧ x = s
  else if k = 3 then ∃ f, f ∈ F ∧ f.p = s ∧ A f.s ∧ x = f.o
  else if k = 4 then ∃ f, f ∈ F ∧ f.p = s ∧ A f.o ∧ x = f.s
  else if k = 5 then ∃ f, f ∈ F ∧ f.p = s ∧ f.o = t ∧ A f.s ∧ x = f.s
  else if k = 6 then A x ∧ B x
  else if k = 7 then A x ∨ B x
  else if k = 8 then A x ∧ ¬ B x
  else A x
theorem nodeM_congr {k : Int} {s t : ByteArray} {F : List Fc} {A A' B B' : ByteArray → Prop} (hk : 1 ≤ k ∧ k ≤ 9) (hA : 1 ≤ arOf k → ∀ x, A x ↔ A' x) (hB : arOf k = 2 → ∀ x, B x ↔ B' x) (x : ByteArray) : nodeM k s t F A B x ↔ nodeM k s t F A' B' x := by
  have h9 : k = 1 ∨ k = 2 ∨ k = 3 ∨ k = 4 ∨ k = 5 ∨ k = 6 ∨ k = 7 ∨ k = 8 ∨ k = 9 := by omega
  rcases h9 with rfl | rfl | rfl | rfl | rfl | rfl | rfl | rfl | rfl
  all_goals
    simp [nodeM, arOf] at hA hB ⊢
    try simp [hA]
    try simp [hB]
/-- The context of a node's operands. -/
def dnB (k : Int) (bd : Bool) : Bool := if k = 9 then true else bd
def dnG (k : Int) (s g : ByteArray) : ByteArray := if k = 9 then s else g
/-- What a node means, f being large enough. -/
def MSF (I : Nat → Int) (X R : Nat → ByteArray) (fs : List Fc) : Nat → Nat → Bool → ByteArray → ByteArray → Prop
  | 0, _, _, _, _ => False
  | f + 1, i, bd, g, x => nodeM (I i) (X i) (R i) (fs.filter (cntB bd g)) (fun y => opf (arI I) i 0 < i ∧ MSF I X R fs f (opf (arI I) i 0) (dnB (I i) bd) (dnG (I i) (X i) g) y) (fun y => opf (arI I) i 1 < i ∧ MSF I X R fs f (opf (arI I) i 1) (dnB (I i) bd) (dnG (I i) (X i) g) y) x
theorem nodeM_imp {k : Int} {s t : ByteArray} {F : List Fc} {A A' B B' : ByteArray → Prop} (hA : A = A') (hB : B = B') (x : ByteArray) : nodeM k s t F A B x ↔ nodeM k s t F A' B' x := by rw [hA, hB]
theorem MSF_any (I : Nat → Int) (X R : Nat → ByteArray) (fs : List Fc) : ∀ (f h i : Nat), i < f → i < h → ∀ bd g x, MSF I X R fs f i bd g x ↔ MSF I X R fs h i bd g x
  | 0, _, _, q, _, _, _, _ => absurd q (Nat.not_lt_zero _)
  | _ + 1, 0, _, _, q, _, _, _ => absurd q (Nat.not_lt_zero _)
  | f + 1, h + 1, i, h1, h2, bd, g, x => by
    have e : ∀ j, (fun y => opf (arI I) i j < i ∧ MSF I X R fs f (opf (arI I) i j) (dnB (I i) bd) (dnG (I i) (X i) g) y) = (fun y => opf (arI I) i j < i ∧ MSF I X R fs h (opf (arI I) i j) (dnB (I i) bd) (dnG (I i) (X i) g) y) := fun j => by
      funext y
      apply propext
      constructor
      · rintro ⟨q1, q2⟩
        exact ⟨q1, (MSF_any I X R fs f h _ (by omega) (by omega) _ _ _).1 q2⟩
      · rintro ⟨q1, q2⟩
        exact ⟨q1, (MSF_any I X R fs f h _ (by omega) (by omega) _ _ _).2 q2⟩
    exact nodeM_imp (e 0) (e 1) x
/-- What a node means in a context. -/
def MS (I : Nat → Int) (X R : Nat → ByteArray) (fs : List Fc) (i : Nat) (bd : Bool) (g x : ByteArray) : Prop := MSF I X R fs (i + 1) i bd g x
theorem MS_eq {I : Nat → Int} {X R : Nat → ByteArray} {fs : List Fc} {i : Nat} (hk : 1 ≤ I i ∧ I i ≤ 9) (h0 : 1 ≤ arOf (I i) → opf (arI I) i 0 < i) (h1 : arOf (I i) = 2 → opf (arI I) i 1 < i) (bd : Bool) (g x : ByteArray) :
    MS I X R fs i bd g x ↔ nodeM (I i) (X i) (R i) (fs.filter (cntB bd g)) (MS I X R fs (opf (arI I) i 0) (dnB (I i) bd) (dnG (I i) (X i) g)) (MS I X R fs (opf (arI I) i 1) (dnB (I i) bd) (dnG (I i) (X i) g)) x := by
  show nodeM (I i) (X i) (R i) (fs.filter (cntB bd g)) (fun y => opf (arI I) i 0 < i ∧ MSF I X R fs i (opf (arI I) i 0) (dnB (I i) bd) (dnG (I i) (X i) g) y) (fun y => opf (arI I) i 1 < i ∧ MSF I X R fs i (opf (arI I) i 1) (dnB (I i) bd) (dnG (I i) (X i) g) y) x ↔ _
  refine nodeM_congr hk (fun ha y => ?_) (fun ha y => ?_) x
  · have := h0 ha
    constructor
    · rintro ⟨_, q⟩
      exact (MSF_any I X R fs _ _ _ this (by omega) _ _ _).1 q
    · intro q
      exact ⟨this, (MSF_any I X R fs _ _ _ (by omega) this _ _ _).1 q⟩
  · have := h1 ha
    constructor
    · rintro ⟨_, q⟩
      exact (MSF_any I X R fs _ _ _ this (by omega) _ _ _).1 q
    · intro q
      exact ⟨this, (MSF_any I X R fs _ _ _ (by omega) this _ _ _).1 q⟩

/-- A value that is a list of strings: it ascends, and these are its members. -/
def LstA (W : World) (v : Value) (N : Nat) (P : ByteArray → Prop) : Prop := ∃ (a : Option Addr) (c : Nat) (L : List ByteArray), v = .slice a L.length c ∧ RdG W a L ∧ Asc L ∧ (∀ x, x ∈ L ↔ P x) ∧ L.length ≤ N ∧ L.length ≤ c ∧ c ≤ 9223372036854775807
theorem LstA.below {W W' : World} {v : Value} {N : Nat} {P : ByteArray → Prop} (h : LstA W v N P) (hb : Below W.heap.size W W') : LstA W' v N P := by
  obtain ⟨a, c, L, h1, h2, r⟩ := h
  exact ⟨a, c, L, h1, h2.below hb, r⟩
theorem LstA.congr {W : World} {v : Value} {N N' : Nat} {P P' : ByteArray → Prop} (h : LstA W v N P) (e : ∀ x, P x ↔ P' x) (hN : N ≤ N') : LstA W v N' P' := by
  obtain ⟨a, c, L, h1, h2, h3, h4, h5, r⟩ := h
  exact ⟨a, c, L, h1, h2, h3, fun x => (h4 x).trans (e x), Nat.le_trans h5 hN, r⟩
theorem RetM.lst {w w' : World} {m : Nat} {P : ByteArray → Prop} {e : Ending} (h : RetM w m P e w') : ∃ v, e = .returned v ∧ LstA w' v m P ∧ Below w.heap.size w w' := by
  obtain ⟨a, c, L, h1, h2, h3, h4, h5, h6, h7, h8⟩ := h
  exact ⟨_, h1, ⟨a, c, L, rfl, h2, h3, h4, h5, h6, h7⟩, h8⟩
theorem LstA.ret {w w' : World} {v : Value} {m : Nat} {P : ByteArray → Prop} (h : LstA w' v m P) (hb : Below w.heap.size w w') : RetM w m P (.returned v) w' := by
  obtain ⟨a, c, L, rfl, h2, h3, h4, h5, h6, h7⟩ := h
  exact ⟨a, c, L, rfl, h2, h3, h4, h5, h6, h7, hb⟩
/-- The empty list, newly built. -/
theorem LstA.nil (w : World) (P : ByteArray → Prop) (h : ∀ x, ¬ P x) : LstA (w.alloc (.cells #[] 9)) (.slice (some ⟨w.heap.size, 0, none⟩) 0 0) 0 P :=
  ⟨some ⟨w.heap.size, 0, none⟩, 0, [], rfl, .inl rfl, List.Pairwise.nil, fun x => ⟨(fun q => by cases q), fun q => absurd q (h x)⟩, Nat.le_refl _, Nat.le_refl _, by omega⟩
theorem l6Add_v (v : Value) (N : Nat) (P : ByteArray → Prop) (t : ByteArray) (w : World) (h : LstA w v N P) (hN : N ≤ 1048576) :
    Calls Try.prog 73 #[v, .string t] w fun e w' => ∃ v', e = .returned v' ∧ LstA w' v' (N + 1) (fun x => P x ∨ x = t) ∧ Below w.heap.size w w' := by
  obtain ⟨a, c, L, rfl, h2, h3, h4, h5, h6, h7⟩ := h
  refine (l6Add_any a c L t w h2 h3 (by omega) h6 h7).mono ?_
  intro e w' hr
  obtain ⟨v', e1, e2, e3⟩ := hr.lst
  exact ⟨v', e1, e2.congr (fun x => by rw [h4]) (by omega), e3⟩
theorem l6In_v (v : Value) (N : Nat) (P : ByteArray → Prop) (t : ByteArray) (w : World) (h : LstA w v N P) (hN : N ≤ 1048576) :
    Calls Try.prog 72 #[v, .string t] w fun e w' => ∃ b : Bool, e = .returned (.bool b) ∧ (b = true ↔ P t) ∧ w' = w := by
  obtain ⟨a, c, L, rfl, h2, h3, h4, h5, h6, h7⟩ := h
  refine (l6In_any a c L t w h2 (by omega)).mono ?_
  rintro e w' ⟨b, rfl, hb, hw⟩
  exact ⟨b, rfl, hb.trans (h4 t), hw⟩
/-- One fact more. -/
def stepM (k : Int) (s t : ByteArray) (A : ByteArray → Prop) (f : Fc) (x : ByteArray) : Prop :=
  if k = 1 then x = f.s ∨ x = f.o
  else if k = 2 then (f.s = s ∨ f.o = s) ∧ x = s
  else if k = 3 then f.p = s ∧ A f.s ∧ x = f.o
  else if k = 4 then f.p = s ∧ A f.o ∧ x = f.s
  else f.p = s ∧ f.o = t ∧ A f.s ∧ x = f.s
theorem nodeM_nil {k : Int} (hk : 1 ≤ k ∧ k ≤ 5) (s t : ByteArray) (A B : ByteArray → Prop) (x : ByteArray) : ¬ nodeM k s t [] A B x := by
  have h5 : k = 1 ∨ k = 2 ∨ k = 3 ∨ k = 4 ∨ k = 5 := by omega
  rcases h5 with rfl | rfl | rfl | rfl | rfl <;> simp [nodeM]
theorem nodeM_app {k : Int} (hk : 1 ≤ k ∧ k ≤ 5) (s t : ByteArray) (F : List Fc) (f : Fc) (A B : ByteArray → Prop) (x : ByteArray) : nodeM k s t (F ++ [f]) A B x ↔ nodeM k s t F A B x ∨ stepM k s t A f x := by
  have h5 : k = 1 ∨ k = 2 ∨ k = 3 ∨ k = 4 ∨ k = 5 := by omega
  have key : ∀ (Q : Fc → Prop), (∃ y, y ∈ F ++ [f] ∧ Q y) ↔ (∃ y, y ∈ F ∧ Q y) ∨ Q f := fun Q => by
    constructor
    · rintro ⟨y, hy, hq⟩
      rw [List.mem_append, List.mem_singleton] at hy
      rcases hy with hy | rfl
      · exact .inl ⟨y, hy, hq⟩
      · exact .inr hq
    · rintro (⟨y, hy, hq⟩ | hq)
      · exact ⟨y, List.mem_append_left _ hy, hq⟩
      · exact ⟨f, List.mem_append_right _ (List.mem_singleton.2 rfl), hq⟩
  rcases h5 with rfl | rfl | rfl | rfl | rfl
  · exact key (fun y => x = y.s ∨ x = y.o)
  · exact key (fun y => (y.s = s ∨ y.o = s) ∧ x = s)
  · exact key (fun y => y.p = s ∧ A y.s ∧ x = y.o)
  · exact key (fun y => y.p = s ∧ A y.o ∧ x = y.s)
  · exact key (fun y => y.p = s ∧ y.o = t ∧ A y.s ∧ x = y.s)
end Go.Proofs.Ythcclkeeekppmaa
