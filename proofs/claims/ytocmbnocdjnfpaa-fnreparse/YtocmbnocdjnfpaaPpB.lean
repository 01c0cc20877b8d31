import Derived.Test.YtocmbnocdjnfpaaPpA
import Derived.Test.YtocmbnocdjnfpaaLate
import Derived.ArgAppend
import Derived.Lib.SmallJoins
namespace Go.Proofs.Ytocmbnocdjnfpaa
open Go.RowKit Go.Deep
set_option linter.unusedVariables false
set_option maxRecDepth 100000

/-- A string's bytes. -/
def bl (x : ByteArray) : List Int := x.data.toList.map (fun b => (b.toNat : Int))
theorem bl_length (x : ByteArray) : (bl x).length = x.size := by unfold bl; rw [List.length_map]; rfl
theorem bl_get {x : ByteArray} {i : Nat} (h : i < x.size) : ∃ b : UInt8, x[i]? = some b ∧ (bl x)[i]? = some (b.toNat : Int) := by
  refine ⟨x[i], getElem?_pos x i h, ?_⟩
  unfold bl
  rw [List.getElem?_map]
  have : x.data.toList[i]? = some x[i] := by
    rw [Array.getElem?_toList]
    exact Array.getElem?_eq_getElem h
  rw [this]
  rfl
def hexC (n : Nat) : Int := if n < 10 then 48 + n else 87 + n
def qB (b : Int) : List Int := if b = 34 ∨ b = 92 then [92, b] else if 32 ≤ b ∧ b ≤ 126 then [b] else [92, 120, hexC (b.toNat / 16), hexC (b.toNat % 16)]
/-- A string between quotes. -/
def qL (l : List Int) : List Int := 34 :: (l.flatMap qB ++ [34])
theorem qB_length (b : Int) : (qB b).length ≤ 4 := by unfold qB; split <;> (try split) <;> simp
theorem qM_length (l : List Int) : (l.flatMap qB).length ≤ 4 * l.length := by
  induction l with
  | nil => simp
  | cons a l ih =>
    have := qB_length a
    simp only [List.flatMap_cons, List.length_append, List.length_cons]
    omega
theorem qM_take (l : List Int) (k : Nat) {b : Int} (h : l[k]? = some b) : (l.take (k + 1)).flatMap qB = (l.take k).flatMap qB ++ qB b := by
  rw [List.take_add_one, h]
  simp
theorem hex_get (n : Nat) (h : n < 16) : ∃ c : UInt8, ({ data := #[48, 49, 50, 51, 52, 53, 54, 55, 56, 57, 97, 98, 99, 100, 101, 102] } : ByteArray)[n]? = some c ∧ (c.toNat : Int) = hexC n := by
  match n, h with
  | 0, _ => exact ⟨48, rfl, rfl⟩
  | 1, _ => exact ⟨49, rfl, rfl⟩
  | 2, _ => exact ⟨50, rfl, rfl⟩
  | 3, _ => exact ⟨51, rfl, rfl⟩
  | 4, _ => exact ⟨52, rfl, rfl⟩
  | 5, _ => exact ⟨53, rfl, rfl⟩
  | 6, _ => exact ⟨54, rfl, rfl⟩
  | 7, _ => exact ⟨55, rfl, rfl⟩
  | 8, _ => exact ⟨56, rfl, rfl⟩
  | 9, _ => exact ⟨57, rfl, rfl⟩
  | 10, _ => exact ⟨97, rfl, rfl⟩
  | 11, _ => exact ⟨98, rfl, rfl⟩
  | 12, _ => exact ⟨99, rfl, rfl⟩
  | 13, _ => exact ⟨100, rfl, rfl⟩
  | 14, _ => exact ⟨101, rfl, rfl⟩
  | 15, _ => exact ⟨102, rfl, rfl⟩
  | n + 16, h => omega
theorem new_cells (w : World) (cs : List Value) (t : TypeId) : ∀ j u, cs[j]? = some u → (w.alloc (.cells cs.toArray t)).cell? (Addr.add ⟨w.heap.size, 0, none⟩ j) = some u := by
  intro j u h
  have e : (Addr.add ⟨w.heap.size, 0, none⟩ j) = ⟨w.heap.size, j, none⟩ := by
    unfold Addr.add
    by_cases h : j = 0
    · subst h; simp
    · simp [h]
  rw [e]
  have hh : (w.alloc (.cells cs.toArray t)).heap[w.heap.size]? = some (.cells cs.toArray t) := Array.getElem?_push_size
  unfold World.cell?
  rw [hh]
  show cs.toArray[j]? = some u
  rw [List.getElem?_toArray]
  exact h
/-- A text to which can be appended: a row of the call's own, or a constant's, which is full. -/
def TxA (w : World) (B : Nat) (v : Value) (n : Nat) (l : List Int) : Prop :=
  n = l.length ∧ (w.ownsRow B 5 1 v n (bv l) ∨ ∃ g, v = .slice (some ⟨g, 0, none⟩) n n ∧ B ≤ g ∧ g < w.heap.size ∧ ∀ j u, (bv l)[j]? = some u → w.cell? (Addr.add ⟨g, 0, none⟩ j) = some u)
theorem conv_bb (w : World) (C : Array Value) (n c : Nat) : (convert 33 33 (.slice (some ⟨w.heap.size, 0, none⟩) n c)).run Try.prog (w.alloc (.cells C 5)) = .ok (.slice (some ⟨w.heap.size, 0, none⟩) n c) (w.alloc (.cells C 5 (C.size, C.size + 1))) := Lib.run_convert_bytes_const w _ _ C n c (by kernel_rfl) (by kernel_rfl)
/-- A constant's bytes. -/
theorem TxA.lit (w : World) (l : List Int) (C : Array Value) (hC : C = (bv l).toArray) (n : Nat) (hn : n = l.length) (fr : Nat × Nat) : TxA (w.alloc (.cells C 5 fr)) w.heap.size (.slice (some ⟨w.heap.size, 0, none⟩) n n) n l := by
  refine ⟨hn, .inr ⟨w.heap.size, rfl, Nat.le_refl _, by simp, fun j u hj => ?_⟩⟩
  have e : (Addr.add ⟨w.heap.size, 0, none⟩ j) = ⟨w.heap.size, j, none⟩ := by
    unfold Addr.add
    by_cases h : j = 0
    · subst h; simp
    · simp [h]
  rw [e, World.cell?_alloc_mark w C _ fr j, hC, List.getElem?_toArray]
  exact hj
theorem bv_one (l : List Int) : ∀ u ∈ bv l, u.oneCell' = true := by
  intro u hu
  unfold bv at hu
  obtain ⟨b, _, rfl⟩ := List.mem_map.1 hu
  rfl
theorem TxA.below {w w' : World} {B n : Nat} {v : Value} {l : List Int} (h : TxA w B v n l) (hb : Below w.heap.size w w') : TxA w' B v n l := by
  obtain ⟨h0, h | ⟨g, e, h1, h2, h3⟩⟩ := h
  · exact ⟨h0, .inl (h.kept (w' := w') (row := none) ⟨hb.os, hb.tape, hb.output, hb.size, fun k hk _ => hb.block k hk⟩ (by cases hv : v.ownBlock <;> simp))⟩
  · refine ⟨h0, .inr ⟨g, e, h1, Nat.lt_of_lt_of_le h2 hb.size, fun j u hj => (hb.cell ?_).trans (h3 j u hj)⟩⟩
    show (Addr.add ⟨g, 0, none⟩ j).block < _
    unfold Addr.add
    split <;> exact h2
theorem TxA.rd {w : World} {B n : Nat} {v : Value} {l : List Int} (h : TxA w B v n l) : ∃ a c, v = .slice a n c ∧ RdL w a l ∧ (0 < l.length → ∀ p, a = some p → B ≤ p.block) := by
  obtain ⟨h0, h | ⟨g, e, h1, h2, h3⟩⟩ := h
  · obtain ⟨a, c, e, h1, _⟩ := own_bv h0 h
    subst h0
    refine ⟨a, c, e, h1.rd, fun h0 p hp => ?_⟩
    rcases h1 with h1 | ⟨g, e, h1, _⟩
    · omega
    · rw [hp] at e
      injection e with e
      rw [e]
      exact h1
  · refine ⟨_, _, e, .inr ⟨g, 0, rfl, fun i hi => ?_⟩, fun _ p hp => by injection hp with hp; rw [← hp]; exact h1⟩
    have := h3 i (.int .u8 (lf l i)) (by unfold bv lf; rw [List.getElem?_map, List.getElem?_eq_getElem hi, List.getD_eq_getElem?_getD, List.getElem?_eq_getElem hi]; rfl)
    rw [← this, Nat.zero_add]
    congr 1
    unfold Addr.add
    by_cases h : i = 0
    · subst h; simp
    · simp [h]
theorem TxA.rdc {w : World} {B n : Nat} {v : Value} {l : List Int} (h : TxA w B v n l) (hn : n ≤ 9223372036854775807) : ∃ a c, v = .slice a n c ∧ RdL w a l ∧ (0 < l.length → ∀ p, a = some p → B ≤ p.block) ∧ n ≤ c ∧ c ≤ 9223372036854775807 := by
  obtain ⟨a, c, e, h1, h2⟩ := h.rd
  refine ⟨a, c, e, h1, h2, ?_⟩
  obtain ⟨h0, h | ⟨g, e', _⟩⟩ := h
  · obtain ⟨a', c', e', _, h3, h4⟩ := own_bv h0 h
    rw [e] at e'
    injection e' with _ _ e'
    rw [e']
    exact ⟨h3, h4⟩
  · rw [e] at e'
    injection e' with _ _ e'
    rw [e']
    exact ⟨Nat.le_refl _, hn⟩
theorem app_run {w : World} {B n m c : Nat} {v : Value} {l y : List Int} {a : Addr} (ty : TypeId) (h : TxA w B v n l) (hm : m = y.length) (hm0 : 0 < m) (hrd : ∀ j u, (bv y)[j]? = some u → w.cell? (Addr.add a j) = some u) (hnm : n + m ≤ 1099511627776) (hB : B ≤ w.heap.size) :
    ∃ v' w', (Builtin.append_ #[33, 33] ty #[v, .slice (some a) m c]).run Try.prog w = .ok v' w' ∧ TxA w' B v' (n + m) (l ++ y) ∧ Below B w w' := by
  obtain ⟨i0, hi, hz0, hz1, hz2⟩ := info_parts infoB
  have hlen : n + m = (l ++ y).length := by rw [List.length_append, h.1, hm]
  obtain ⟨h0, h | ⟨g, e, h1, h2, h3⟩⟩ := h
  · obtain ⟨v', w', q1, q2, q3, _⟩ := run_append_own (P := Try.prog) w B 33 ty 5 i0 (.int .u8 0) 1 1 Try.underlying33 hi hz0 hz1 hz2 rfl (by decide) v n (bv l) h a m c (bv y) (by rw [bv_length]; omega) hrd (bv_one y) (by unfold maxLen; omega) (by omega) hB
    exact ⟨v', w', q1, ⟨hlen, .inl (by rw [bv_app]; exact q2)⟩, (Below.refl _ _).grown q3 hB (fun b e => (h.lt b e).1)⟩
  · subst e
    obtain ⟨v', w', q1, q2, q3⟩ := run_append_arg_grows (P := Try.prog) w 33 ty 5 i0 (.int .u8 0) 1 1 Try.underlying33 hi hz0 hz1 hz2 rfl (by decide) ⟨g, 0, none⟩ n n (bv l) (by rw [bv_length]; omega) h3 a m c (bv y) (by rw [bv_length]; omega) hrd (by omega) (by unfold maxLen; omega) (by omega)
    exact ⟨v', w', q1, ⟨hlen, .inl (by rw [bv_app]; exact Go.Joins.ownsRow_le q2 hB)⟩, (Below.refl _ _).grown q3 hB (fun b e => by cases e)⟩
theorem step_app_b {w : World} {ops : Array Oper} {o : Oper} {act : Act} {K : Act → World → Prop} {Q : Exit → Act → World → Prop} {E : Prop} (hgd : o.guard = none) (s x : Operand)
    (ho : o.op = .call { callee := .builtin .append, args := #[s, x], argTypes := #[33, 33] })
    (B : Nat) (v : Value) (n : Nat) (l : List Int) (hs : act.eval s = v) (hown : TxA w B v n l)
    (a : Addr) (m c : Nat) (y : List Int) (hx : act.eval x = .slice (some a) m c) (hm : m = y.length) (hm0 : 0 < m) (hrd : ∀ j u, (bv y)[j]? = some u → w.cell? (Addr.add a j) = some u) (hnm : n + m ≤ 1099511627776) (hB : B ≤ w.heap.size)
    (h : ∀ v' w', TxA w' B v' (n + m) (l ++ y) → Below B w w' → K (act.put o.dst v') w') :
    if Region.wanted o (yielded ops act.tmps) = true then Oper.wp Try.prog o act w K Q else E := by
  have hw : Region.wanted o (yielded ops act.tmps) = true := by simp [Region.wanted, hgd]
  rw [if_pos hw]
  obtain ⟨v', w', hrun, r1, r2⟩ := app_run (c := c) o.type hown hm hm0 hrd hnm hB
  unfold Oper.wp
  simp [execOp, ho, resolve, invoke, builtin, hs, hx, hrun, Result.andThen]
  exact h v' w' r1 r2
theorem app_b {w : World} {ops : Array Oper} {rest : List Oper} {o : Oper} {act : Act} {Q : Exit → Act → World → Prop} (hgd : o.guard = none) (s x : Operand)
    (ho : o.op = .call { callee := .builtin .append, args := #[s, x], argTypes := #[33, 33] })
    (B : Nat) (v : Value) (n : Nat) (l : List Int) (hs : act.eval s = v) (hown : TxA w B v n l)
    (a : Addr) (m c : Nat) (y : List Int) (hx : act.eval x = .slice (some a) m c) (hm : m = y.length) (hm0 : 0 < m) (hrd : ∀ j u, (bv y)[j]? = some u → w.cell? (Addr.add a j) = some u) (hnm : n + m ≤ 1099511627776) (hB : B ≤ w.heap.size)
    (h : ∀ v' w', TxA w' B v' (n + m) (l ++ y) → Below B w w' → wpList Try.prog ops Q rest (act.put o.dst v') w') : wpList Try.prog ops Q (o :: rest) act w := by
  refine wpList_plain hgd fun K hK => ?_
  obtain ⟨v', w', hrun, r1, r2⟩ := app_run (c := c) o.type hown hm hm0 hrd hnm hB
  unfold Oper.wp
  simp [execOp, ho, resolve, invoke, builtin, hs, hx, hrun, Result.andThen]
  exact hK _ _ (h v' w' r1 r2)

set_option maxHeartbeats 2000000 in
theorem l6Quote_any (x : ByteArray) (w : World) (hx : x.size ≤ 1000) : Calls Try.prog 89 #[.string x] w (RetL w (qL (bl x))) := by
  have cv := conv_bb
  go_enter Try.func89, Try.ntmps89
  go_wp2
  go_loopw [3, 4, 5, 6] (fun u i _ _ wr => ∃ (k n : Nat) (l : List Int), k ≤ x.size ∧ i = .int .i64 k ∧ n = l.length ∧ l = 34 :: ((bl x).take k).flatMap qB ∧ TxA wr w.heap.size u n l ∧ Below w.heap.size w wr) (fun _ i _ _ _ => x.size - (intOf i).toNat)
  case atStart => exact ⟨0, 1, [34], Nat.zero_le _, rfl, rfl, by simp, TxA.lit w [34] _ rfl 1 rfl _, below_alloc _ _⟩
  case round =>
    obtain ⟨k, n, l, hk, rfl, hn, hl, hown, hbel⟩ := hrel
    have hsz := hbel.size
    have HB : Hid (Below w.heap.size w wr) := hbel
    have HO : Hid (TxA wr w.heap.size u3 n l ∧ n = l.length ∧ l = 34 :: ((bl x).take k).flatMap qB) := ⟨hown, hn, hl⟩
    have hn1 : n ≤ 4001 := by
      have h1 := qM_length ((bl x).take k)
      have h2 : ((bl x).take k).length ≤ k := List.length_take_le _ _
      rw [hn, hl, List.length_cons]
      omega
    clear hbel hown hn hl
    by_cases hlt : k < x.size
    · obtain ⟨b, hb1, hb2⟩ := bl_get hlt
      have hbb : b.toNat < 256 := b.toNat_lt
      obtain ⟨bn, hbn⟩ : ∃ bn, bn = b.toNat := ⟨_, rfl⟩
      rw [← hbn] at hb2 hbb
      have hix : ∀ W : World, (Instr.index 9 (.string x) (.int .i64 (k : Int))).run Try.prog W = .ok (.int .u8 (bn : Int)) W := fun W => by
        simp [Instr.index, go_sem, hb1, hbn]
      clear hb1 hbn
      by_cases h1 : bn = 34
      · subst h1
        have HG : Hid ((bl x)[k]? = some 34 ∧ qB 34 = [92, 34]) := ⟨hb2, rfl⟩
        clear hb2
        go_wp2_with (at_builtin; refine app_b rfl _ _ rfl w.heap.size _ n l rfl (HO.out.1.below (below_alloc _ _)) ⟨wr.heap.size, 0, none⟩ 2 2 [92, 34] rfl rfl (by omega) (new_cells _ [.int .u8 92, .int .u8 34] _) (by omega) (by simp; omega) ?_)
        intro v' w1 hown' hgrow
        have HX : Hid ((∃ l', n + 2 = l'.length ∧ l' = 34 :: ((bl x).take (k + 1)).flatMap qB ∧ TxA w1 w.heap.size v' (n + 2) l') ∧ Below w.heap.size w w1) := by
          refine ⟨⟨l ++ [92, 34], by rw [List.length_append, HO.out.2.1]; rfl, ?_, hown'⟩, (HB.out.alloc hsz _).trans hgrow⟩
          rw [qM_take (bl x) k HG.out.1, HO.out.2.2, HG.out.2]
          rfl
        clear hown' hgrow HO HB
        go_wp2
        go_roundw
        case rel =>
          obtain ⟨⟨l', e1, e2, e3⟩, e4⟩ := HX.out
          exact ⟨k + 1, n + 2, l', by omega, by go_num, e1, e2, e3, e4⟩
        case measure => simp [intOf]; omega
      have n1 : ¬ (bn : Int) = 34 := by omega
      have d1 : ((bn : Int) == 34) = false := by simp [n1]
      by_cases h2 : bn = 92
      · subst h2
        have HG : Hid ((bl x)[k]? = some 92 ∧ qB 92 = [92, 92]) := ⟨hb2, rfl⟩
        clear hb2
        go_wp2_with (at_builtin; refine app_b rfl _ _ rfl w.heap.size _ n l rfl (HO.out.1.below (below_alloc _ _)) ⟨wr.heap.size, 0, none⟩ 2 2 [92, 92] rfl rfl (by omega) (new_cells _ [.int .u8 92, .int .u8 92] _) (by omega) (by simp; omega) ?_)
        intro v' w1 hown' hgrow
        have HX : Hid ((∃ l', n + 2 = l'.length ∧ l' = 34 :: ((bl x).take (k + 1)).flatMap qB ∧ TxA w1 w.heap.size v' (n + 2) l') ∧ Below w.heap.size w w1) := by
          refine ⟨⟨l ++ [92, 92], by rw [List.length_append, HO.out.2.1]; rfl, ?_, hown'⟩, (HB.out.alloc hsz _).trans hgrow⟩
          rw [qM_take (bl x) k HG.out.1, HO.out.2.2, HG.out.2]
          rfl
        clear hown' hgrow HO HB
        go_wp2
        go_roundw
        case rel =>
          obtain ⟨⟨l', e1, e2, e3⟩, e4⟩ := HX.out
          exact ⟨k + 1, n + 2, l', by omega, by go_num, e1, e2, e3, e4⟩
        case measure => simp [intOf]; omega
      have n2 : ¬ (bn : Int) = 92 := by omega
      have d2 : ((bn : Int) == 92) = false := by simp [n2]
      by_cases h3 : 32 ≤ bn ∧ bn ≤ 126
      · have m1 : (32 : Int) ≤ (bn : Int) := by omega
        have m2 : (bn : Int) ≤ 126 := by omega
        have HG : Hid ((bl x)[k]? = some (bn : Int) ∧ qB bn = [(bn : Int)]) := ⟨hb2, by unfold qB; rw [if_neg (by omega), if_pos (by omega)]⟩
        clear hb2
        go_wp2_with (at_builtin; refine app_b rfl _ _ rfl w.heap.size _ n l rfl (HO.out.1.below (below_alloc _ _)) ⟨wr.heap.size, 0, none⟩ 1 1 [(bn : Int)] rfl rfl (by omega) (new_cells _ [.int .u8 (bn : Int)] _) (by omega) (by simp; omega) ?_)
        intro v' w1 hown' hgrow
        have HX : Hid ((∃ l', n + 1 = l'.length ∧ l' = 34 :: ((bl x).take (k + 1)).flatMap qB ∧ TxA w1 w.heap.size v' (n + 1) l') ∧ Below w.heap.size w w1) := by
          refine ⟨⟨l ++ [(bn : Int)], by rw [List.length_append, HO.out.2.1]; rfl, ?_, hown'⟩, (HB.out.alloc hsz _).trans hgrow⟩
          rw [qM_take (bl x) k HG.out.1, HO.out.2.2, HG.out.2]
          rfl
        clear hown' hgrow HO HB
        go_wp2
        go_roundw
        case rel =>
          obtain ⟨⟨l', e1, e2, e3⟩, e4⟩ := HX.out
          exact ⟨k + 1, n + 1, l', by omega, by go_num, e1, e2, e3, e4⟩
        case measure => simp [intOf]; omega
      · have HG : Hid ((bl x)[k]? = some (bn : Int) ∧ qB bn = [92, 120, hexC (bn / 16), hexC (bn % 16)]) := ⟨hb2, by unfold qB; rw [if_neg (by omega), if_neg (by omega)]; rfl⟩
        clear hb2
        obtain ⟨p1, hp1⟩ : ∃ p1, p1 = bn / 16 := ⟨_, rfl⟩
        obtain ⟨p2, hp2⟩ : ∃ p2, p2 = bn % 16 := ⟨_, rfl⟩
        have t1 : (bn : Int).tdiv 16 = (p1 : Int) := by rw [Int.tdiv_eq_ediv_of_nonneg (by omega), hp1]; omega
        have t2 : (bn : Int).tmod 16 = (p2 : Int) := by rw [Int.tmod_eq_emod_of_nonneg (by omega), hp2]; omega
        have q1 : p1 < 16 := by omega
        have q2 : p2 < 16 := by omega
        rw [← hp1, ← hp2] at HG
        obtain ⟨c1, g1, g2⟩ := hex_get p1 q1
        obtain ⟨c2, g3, g4⟩ := hex_get p2 q2
        have hi1 : ∀ W : World, (Instr.index 9 (.string { data := #[48, 49, 50, 51, 52, 53, 54, 55, 56, 57, 97, 98, 99, 100, 101, 102] }) (.int .u8 (p1 : Int))).run Try.prog W = .ok (.int .u8 (hexC p1)) W := fun W => by simp [Instr.index, go_sem, g1, g2]
        have hi2 : ∀ W : World, (Instr.index 9 (.string { data := #[48, 49, 50, 51, 52, 53, 54, 55, 56, 57, 97, 98, 99, 100, 101, 102] }) (.int .u8 (p2 : Int))).run Try.prog W = .ok (.int .u8 (hexC p2)) W := fun W => by simp [Instr.index, go_sem, g3, g4]
        have hw1 : IntKind.u8.wrap (p1 : Int) = (p1 : Int) := by simp [IntKind.wrap, IntKind.bits, IntKind.signed]; omega
        have hw2 : IntKind.u8.wrap (p2 : Int) = (p2 : Int) := by simp [IntKind.wrap, IntKind.bits, IntKind.signed]; omega
        clear g1 g2 g3 g4 hp1 hp2
        generalize hexC p1 = x1 at *
        generalize hexC p2 = x2 at *
        by_cases h4 : 32 ≤ bn
        · have m1 : (32 : Int) ≤ (bn : Int) := by omega
          have m2 : ¬ (bn : Int) ≤ 126 := by omega
          have m3 : decide ((bn : Int) ≤ 126) = false := decide_eq_false m2
          go_wp2
          refine wp_region_late (S := (fun _ => True)) 11 (by kernel_rfl) ?_ (fun hHeld => ?_)
          · ((try dsimp only); (try trivial))
          refine tk 0 .zero (v := ?_) ?_ ?_
          rotate_left
          · (intro w h; (try dsimp only at h); go_simp) <;> with_reducible rfl
          simp only [tkp]
          refine tk 1 (.succ .zero) (v := ?_) ?_ ?_
          rotate_left
          · (intro w h; (try dsimp only at h); go_simp) <;> with_reducible rfl
          simp only [tkp]
          refine tk 2 (.succ (.succ .zero)) (v := ?_) ?_ ?_
          rotate_left
          · (intro w h; (try dsimp only at h); go_simp) <;> with_reducible rfl
          simp only [tkp]
          refine tk 3 (.succ (.succ (.succ .zero))) (v := ?_) ?_ ?_
          rotate_left
          · (intro w h; (try dsimp only at h); go_simp) <;> with_reducible rfl
          simp only [tkp]
          refine tk 4 (.succ (.succ (.succ (.succ .zero)))) (v := ?_) ?_ ?_
          rotate_left
          · (intro w h; (try dsimp only at h); go_simp) <;> with_reducible rfl
          simp only [tkp]
          refine tk 5 (.s5 .zero) (v := ?_) ?_ ?_
          rotate_left
          · (intro w h; (try dsimp only at h); go_simp) <;> with_reducible rfl
          simp only [tkp]
          refine tk 6 (.s5 (.succ .zero)) (v := ?_) ?_ ?_
          rotate_left
          · (intro w h; (try dsimp only at h); go_simp) <;> with_reducible rfl
          simp only [tkp]
          refine tk 7 (.s5 (.succ (.succ .zero))) (v := ?_) ?_ ?_
          rotate_left
          · (intro w h; (try dsimp only at h); go_simp) <;> with_reducible rfl
          simp only [tkp]
          refine tk 8 (.s5 (.succ (.succ (.succ .zero)))) (v := ?_) ?_ ?_
          rotate_left
          · (intro w h; (try dsimp only at h); go_simp) <;> with_reducible rfl
          simp only [tkp]
          refine tk1 9 (.s5 (.succ (.succ (.succ (.succ .zero))))) (fun K hK => ?_)
          go_simp
          refine hK.out _ _ ?_ (fun hG => ?_)
          · (intro _; (try dsimp only); (try trivial))
          clear hK K
          replace hHeld := hG (by decide)
          clear hG
          try simp only [tkp]
          refine tk1 10 (.s5 (.s5 .zero)) (fun K hK => ?_)
          (refine step_app_b (by rfl) (.tmp 38) (.tmp 47) (by rfl) w.heap.size u3 n l (by rfl) ((HO.out.1.below (Below.refl _ _).drew).below (below_alloc _ _)) ⟨wr.heap.size, 0, none⟩ 4 4 [92, 120, x1, x2] (by rfl) rfl (by omega) (new_cells _ [.int .u8 92, .int .u8 120, .int .u8 x1, .int .u8 x2] _) (by omega) (by simp; omega) ?_; intro v' w1 hown' hgrow)
          refine hK.out _ _ ?_ (fun hG => ?_)
          · (intro _; (try dsimp only); (try trivial))
          clear hK K
          replace hHeld := hG (by decide)
          clear hG
          try simp only [tkp]
          refine tk1 11 (.s5 (.s5 (.succ .zero))) (fun K hK => ?_)
          go_simp
          refine hK.out _ _ ?_ (fun hG => ?_)
          · (intro hne; exact absurd rfl hne)
          clear hK K hG
          refine wpLate_done (by kernel_rfl) ?_ _
          have HX : Hid ((∃ l', n + 4 = l'.length ∧ l' = 34 :: ((bl x).take (k + 1)).flatMap qB ∧ TxA w1 w.heap.size v' (n + 4) l') ∧ Below w.heap.size w w1) := by
            refine ⟨⟨l ++ [92, 120, x1, x2], by rw [List.length_append, HO.out.2.1]; rfl, ?_, hown'⟩, ((HB.out.drew).alloc (by exact hsz) _).trans hgrow⟩
            rw [qM_take (bl x) k HG.out.1, HO.out.2.2, HG.out.2]
            rfl
          clear hown' hgrow HO HB
          go_wp2
          go_roundw
          case rel =>
            obtain ⟨⟨l', e1, e2, e3⟩, e4⟩ := HX.out
            exact ⟨k + 1, n + 4, l', by omega, by go_num, e1, e2, e3, e4⟩
          case measure => simp [intOf]; omega
        · have m1 : ¬ (32 : Int) ≤ (bn : Int) := by omega
          have m3 : decide ((32 : Int) ≤ (bn : Int)) = false := decide_eq_false m1
          go_wp2
          refine wp_region_late (S := (fun _ => True)) 11 (by kernel_rfl) ?_ (fun hHeld => ?_)
          · ((try dsimp only); (try trivial))
          refine tk 0 .zero (v := ?_) ?_ ?_
          rotate_left
          · (intro w h; (try dsimp only at h); go_simp) <;> with_reducible rfl
          simp only [tkp]
          refine tk 1 (.succ .zero) (v := ?_) ?_ ?_
          rotate_left
          · (intro w h; (try dsimp only at h); go_simp) <;> with_reducible rfl
          simp only [tkp]
          refine tk 2 (.succ (.succ .zero)) (v := ?_) ?_ ?_
          rotate_left
          · (intro w h; (try dsimp only at h); go_simp) <;> with_reducible rfl
          simp only [tkp]
          refine tk 3 (.succ (.succ (.succ .zero))) (v := ?_) ?_ ?_
          rotate_left
          · (intro w h; (try dsimp only at h); go_simp) <;> with_reducible rfl
          simp only [tkp]
          refine tk 4 (.succ (.succ (.succ (.succ .zero)))) (v := ?_) ?_ ?_
          rotate_left
          · (intro w h; (try dsimp only at h); go_simp) <;> with_reducible rfl
          simp only [tkp]
          refine tk 5 (.s5 .zero) (v := ?_) ?_ ?_
          rotate_left
          · (intro w h; (try dsimp only at h); go_simp) <;> with_reducible rfl
          simp only [tkp]
          refine tk 6 (.s5 (.succ .zero)) (v := ?_) ?_ ?_
          rotate_left
          · (intro w h; (try dsimp only at h); go_simp) <;> with_reducible rfl
          simp only [tkp]
          refine tk 7 (.s5 (.succ (.succ .zero))) (v := ?_) ?_ ?_
          rotate_left
          · (intro w h; (try dsimp only at h); go_simp) <;> with_reducible rfl
          simp only [tkp]
          refine tk 8 (.s5 (.succ (.succ (.succ .zero)))) (v := ?_) ?_ ?_
          rotate_left
          · (intro w h; (try dsimp only at h); go_simp) <;> with_reducible rfl
          simp only [tkp]
          refine tk1 9 (.s5 (.succ (.succ (.succ (.succ .zero))))) (fun K hK => ?_)
          go_simp
          refine hK.out _ _ ?_ (fun hG => ?_)
          · (intro _; (try dsimp only); (try trivial))
          clear hK K
          replace hHeld := hG (by decide)
          clear hG
          try simp only [tkp]
          refine tk1 10 (.s5 (.s5 .zero)) (fun K hK => ?_)
          (refine step_app_b (by rfl) (.tmp 38) (.tmp 47) (by rfl) w.heap.size u3 n l (by rfl) ((HO.out.1.below (Below.refl _ _).drew).below (below_alloc _ _)) ⟨wr.heap.size, 0, none⟩ 4 4 [92, 120, x1, x2] (by rfl) rfl (by omega) (new_cells _ [.int .u8 92, .int .u8 120, .int .u8 x1, .int .u8 x2] _) (by omega) (by simp; omega) ?_; intro v' w1 hown' hgrow)
          refine hK.out _ _ ?_ (fun hG => ?_)
          · (intro _; (try dsimp only); (try trivial))
          clear hK K
          replace hHeld := hG (by decide)
          clear hG
          try simp only [tkp]
          refine tk1 11 (.s5 (.s5 (.succ .zero))) (fun K hK => ?_)
          go_simp
          refine hK.out _ _ ?_ (fun hG => ?_)
          · (intro hne; exact absurd rfl hne)
          clear hK K hG
          refine wpLate_done (by kernel_rfl) ?_ _
          have HX : Hid ((∃ l', n + 4 = l'.length ∧ l' = 34 :: ((bl x).take (k + 1)).flatMap qB ∧ TxA w1 w.heap.size v' (n + 4) l') ∧ Below w.heap.size w w1) := by
            refine ⟨⟨l ++ [92, 120, x1, x2], by rw [List.length_append, HO.out.2.1]; rfl, ?_, hown'⟩, ((HB.out.drew).alloc (by exact hsz) _).trans hgrow⟩
            rw [qM_take (bl x) k HG.out.1, HO.out.2.2, HG.out.2]
            rfl
          clear hown' hgrow HO HB
          go_wp2
          go_roundw
          case rel =>
            obtain ⟨⟨l', e1, e2, e3⟩, e4⟩ := HX.out
            exact ⟨k + 1, n + 4, l', by omega, by go_num, e1, e2, e3, e4⟩
          case measure => simp [intOf]; omega
    · have e : k = x.size := by omega
      subst e
      have l1 : ¬ (x.size : Int) < (x.size : Int) := by omega
      go_wp2_with (at_builtin; refine app_b rfl _ _ rfl w.heap.size _ n l rfl (HO.out.1.below (below_alloc _ _)) ⟨wr.heap.size, 0, none⟩ 1 1 [34] rfl rfl (by omega) (new_cells _ [.int .u8 34] _) (by omega) (by simp; omega) ?_)
      intro v' w1 hown' hgrow
      have HE0 : Hid (Below w.heap.size w w1 ∧ l ++ [34] = qL (bl x)) := ⟨(HB.out.alloc hsz _).trans hgrow, by rw [HO.out.2.2, ← bl_length, List.take_length]; rfl⟩
      obtain ⟨a, c, hvv, h1, h2, h3, h4⟩ := hown'.rdc (by omega)
      subst hvv
      have HE : Hid (RetL w (qL (bl x)) (.returned (.slice a (n + 1) c)) w1) := by
        have e2 := HE0.out.2
        have e3 : n + 1 = (qL (bl x)).length := by rw [← e2, List.length_append, HO.out.2.1]; rfl
        rw [e2] at h1 h2
        rw [e3]
        exact ⟨a, c, rfl, h1, HE0.out.1, h2, by omega, h4⟩
      clear h1 h2 h3 h4 HO hown' hgrow
      go_wp2
      go_ret
      exact HE.out
end Go.Proofs.Ytocmbnocdjnfpaa
