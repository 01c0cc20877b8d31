import Derived.Test.YtfbhlegkpmcfoaaSpS
import Derived.Test.YtfbhlegkpmcfoaaMakers
import Derived.Lib.SlBytesConst
namespace Go.Proofs.Ytfbhlegkpmcfoaa
open Go.RowKit Go.Deep
set_option linter.unusedVariables false
set_option maxRecDepth 100000

/-- A world that has grown; a literal's letters may have been marked. -/
def ExtM (B : Nat) (w w' : World) : Prop := Below B w w' ∧ ∀ (k : Nat) (c : Array Value) (t : TypeId) (fr : Nat × Nat), w.heap[k]? = some (.cells c t fr) → ∃ fr', w'.heap[k]? = some (.cells c t fr') ∧ (fr' = fr ∨ c.size ≤ 2)

theorem ExtM.refl (B : Nat) (w : World) : ExtM B w w := ⟨Below.refl _ _, fun k c t fr h => ⟨fr, h, Or.inl rfl⟩⟩
theorem ExtM.trans {B : Nat} {u v w : World} (h : ExtM B u v) (k : ExtM B v w) : ExtM B u w := ⟨h.1.trans k.1, fun i c t fr hc => by
  obtain ⟨f1, h1, e1⟩ := h.2 i c t fr hc
  obtain ⟨f2, h2, e2⟩ := k.2 i c t f1 h1
  refine ⟨f2, h2, ?_⟩
  rcases e2 with e2 | e2
  · rcases e1 with e1 | e1
    · exact Or.inl (e2.trans e1)
    · exact Or.inr e1
  · exact Or.inr e2⟩
theorem ExtM.ofBelow {B : Nat} {w w' : World} (hB : B ≤ w.heap.size) (h : Below w.heap.size w w') : ExtM B w w' :=
  ⟨h.mono hB, fun k c t fr hc => ⟨fr, (h.block k (Array.getElem?_eq_some_iff.1 hc).1).trans hc, Or.inl rfl⟩⟩
theorem ExtM.cell {B : Nat} {w w' : World} (h : ExtM B w w') {p : Addr} {v : Value} (hc : w.cell? p = some v) : w'.cell? p = some v := by
  cases hb : w.heap[p.block]? with
  | none => simp [World.cell?, hb] at hc
  | some o =>
    cases o with
    | cells c t fr =>
      obtain ⟨fr', h', _⟩ := h.2 _ _ _ _ hb
      simp [World.cell?, hb] at hc
      simp [World.cell?, h', hc]
    | _ => simp [World.cell?, hb] at hc
theorem ExtM.rd {B : Nat} {w w' : World} (h : ExtM B w w') {a : Option Addr} {n : Nat} {f : Nat → Int} (hr : Rd .u8 w a n f) : Rd .u8 w' a n f := by
  rcases hr with h0 | ⟨b, o, rfl, hc⟩
  · exact Or.inl h0
  · exact Or.inr ⟨b, o, rfl, fun i hi => h.cell (hc i hi)⟩
theorem ExtM.rdS {B : Nat} {w w' : World} (h : ExtM B w w') {b o m : Nat} {L : Nat → Nat} {F : Nat → Nat → Int} (hr : RdS w b o m L F) : RdS w' b o m L F := fun i hi => by
  obtain ⟨ad, cp, h1, h2⟩ := hr i hi
  exact ⟨ad, cp, h.cell h1, h.rd h2⟩
theorem ExtM.own {B B' : Nat} {w w' : World} (h : ExtM B w w') {a : Option Addr} {n : Nat} {f : Nat → Int} (hn : 3 ≤ n) (hr : OwnB w B' a n f) : OwnB w' B' a n f := by
  rcases hr with h0 | ⟨g, rfl, hg, cur, hh, hs, hc⟩
  · exact Or.inl h0
  · obtain ⟨fr', h', e⟩ := h.2 _ _ _ _ hh
    rcases e with e | e
    · subst e; exact Or.inr ⟨g, rfl, hg, cur, h', hs, hc⟩
    · omega

/-- What each operation of l2SuperBytes' list leaves. -/
def supPhi (gen ar fi : Int) (B q : Nat) : Nat → Value → World → Prop
  | 0, v, _ => v = .pointer (some ⟨q, 0, none⟩)
  | 1, v, _ => v = .int .i64 gen
  | 2, v, w => ∃ a c, v = .slice a 4 c ∧ Rd .u8 w a 4 (byteAt gen)
  | 3, v, w => ∃ g, v = .slice (some ⟨g, 0, none⟩) 2 2 ∧ B ≤ g ∧ ∃ fr, w.heap[g]? = some (.cells #[.int .u8 81, .int .u8 49] 5 fr)
  | 4, v, w => ∃ a c, v = .slice a 2 c ∧ Rd .u8 w a 2 (two 81 49)
  | 5, v, _ => v = .pointer (some ⟨q, 1, none⟩)
  | 6, v, _ => v = .int .i64 ar
  | 7, v, _ => v = .int .u8 ar
  | 8, v, w => ∃ a c, v = .slice a 2 c ∧ Rd .u8 w a 2 (two ar 0)
  | 9, v, _ => v = .pointer (some ⟨q, 2, none⟩)
  | 10, v, _ => v = .int .i64 fi
  | 11, v, w => ∃ a c, v = .slice a 4 c ∧ Rd .u8 w a 4 (byteAt fi)
  | 12, v, w => ∃ a c, v = .slice a 48 c ∧ Rd .u8 w a 48 (fun _ => 0)
  | 13, v, w => ∃ g, v = .slice (some ⟨g, 0, none⟩) 5 5 ∧ RdS w g 0 5 (five 4 2 2 4 48) (five (byteAt gen) (two 81 49) (two ar 0) (byteAt fi) (fun _ => 0))
  | 14, v, w => ∃ a c, v = .slice a 60 c ∧ Rd .u8 w a 60 (superH gen ar fi)
  | _, v, w => ∃ a c, v = .slice a 64 c ∧ OwnB w B a 64 (superF gen ar fi) ∧ 64 ≤ c ∧ c ≤ 9223372036854775807

theorem supPhi_st {gen ar fi : Int} {B q : Nat} : ∀ i v w w', supPhi gen ar fi B q i v w → ExtM B w w' → supPhi gen ar fi B q i v w' := by
  intro i v w w' h he
  match i, h with
  | 0, h => exact h
  | 1, h => exact h
  | 2, ⟨a, c, e, h⟩ => exact ⟨a, c, e, he.rd h⟩
  | 3, ⟨g, e, hg, fr, h⟩ => obtain ⟨fr', h', _⟩ := he.2 _ _ _ _ h; exact ⟨g, e, hg, fr', h'⟩
  | 4, ⟨a, c, e, h⟩ => exact ⟨a, c, e, he.rd h⟩
  | 5, h => exact h
  | 6, h => exact h
  | 7, h => exact h
  | 8, ⟨a, c, e, h⟩ => exact ⟨a, c, e, he.rd h⟩
  | 9, h => exact h
  | 10, h => exact h
  | 11, ⟨a, c, e, h⟩ => exact ⟨a, c, e, he.rd h⟩
  | 12, ⟨a, c, e, h⟩ => exact ⟨a, c, e, he.rd h⟩
  | 13, ⟨g, e, h⟩ => exact ⟨g, e, he.rdS h⟩
  | 14, ⟨a, c, e, h⟩ => exact ⟨a, c, e, he.rd h⟩
  | n + 15, ⟨a, c, e, h, h1, h2⟩ => exact ⟨a, c, e, he.own (by omega) h, h1, h2⟩

theorem mk_value {ops : Array Oper} {o : Oper} {a : Act} {w : World} {K : Act → World → Prop} {Q : Exit → Act → World → Prop} {E : Prop} {v : Value} (hg : o.guard = none) (hrun : (execOp a.eval o).run Try.prog w = .ok (.value v) w) (h : K (a.put o.dst v) w) :
    if Region.wanted o (yielded ops a.tmps) = true then Oper.wp Try.prog o a w K Q else E := by
  rw [if_pos (by simp [Region.wanted, hg])]
  unfold Oper.wp
  rw [hrun]
  exact h
theorem mk_value' {ops : Array Oper} {o : Oper} {a : Act} {w w' : World} {K : Act → World → Prop} {Q : Exit → Act → World → Prop} {E : Prop} {v : Value} (hg : o.guard = none) (hrun : (execOp a.eval o).run Try.prog w = .ok (.value v) w') (h : K (a.put o.dst v) w') :
    if Region.wanted o (yielded ops a.tmps) = true then Oper.wp Try.prog o a w K Q else E := by
  rw [if_pos (by simp [Region.wanted, hg])]
  unfold Oper.wp
  rw [hrun]
  exact h

theorem rdPair {W : World} {g : Nat} (hg : g = W.heap.size) (x y : Int) : Rd .u8 (W.alloc (.cells #[.int .u8 x, .int .u8 y] 5)) (some ⟨g, 0, none⟩) 2 (two x y) := by
  subst hg
  refine Or.inr ⟨_, 0, rfl, fun i hi => ?_⟩
  match i, hi with
  | 0, _ => simp [two]
  | 1, _ => simp [two]
theorem rdMark {w : World} {g : Nat} {fr : Nat × Nat} (h : w.heap[g]? = some (.cells #[.int .u8 81, .int .u8 49] 5 fr)) : Rd .u8 w (some ⟨g, 0, none⟩) 2 (two 81 49) := by
  refine Or.inr ⟨_, 0, rfl, fun i hi => ?_⟩
  match i, hi with
  | 0, _ => simp [two, World.cell?, h]
  | 1, _ => simp [two, World.cell?, h]

/-- A literal's letters taken as bytes: the block is marked. -/
theorem convMark {B : Nat} (w : World) (g : Nat) (fr : Nat × Nat) (hg : B ≤ g) (h : w.heap[g]? = some (.cells #[.int .u8 81, .int .u8 49] 5 fr)) :
    ∃ w', (convert 28 28 (.slice (some ⟨g, 0, none⟩) 2 2)).run Try.prog w = .ok (.slice (some ⟨g, 0, none⟩) 2 2) w' ∧ ExtM B w w' := by
  have hsh : w.shape? g = some (5, 2) := by unfold World.shape?; rw [h]; rfl
  refine ⟨w.freeze ⟨g, 2, none⟩ 1, ?_, ⟨rfl, rfl, rfl, by simp [World.freeze], fun k hk => ?_⟩, fun k c t f hc => ?_⟩
  · simp [convert, run_underlying underBytes, run_underlying (show Try.prog.underlying 5 = some (.int .u8) by kernel_rfl), markStringish, hsh]
  · unfold World.freeze
    rw [if_neg (by decide)]
    show (w.heap.modify g _)[k]? = _
    rw [Array.getElem?_modify, if_neg (by omega)]
  · unfold World.freeze
    rw [if_neg (by decide)]
    show ∃ fr', (w.heap.modify g _)[k]? = _ ∧ _
    rw [Array.getElem?_modify]
    by_cases e : g = k
    · subst e
      rw [h] at hc
      injection hc with hc
      injection hc with e1 e2 e3
      subst e1 e2 e3
      rw [if_pos rfl, h]
      exact ⟨_, rfl, Or.inr (Nat.le_refl _)⟩
    · rw [if_neg e]
      exact ⟨f, hc, Or.inl rfl⟩

set_option maxHeartbeats 4000000 in
theorem l2SuperBytes_any (gen ar fi : Int) (w : World) (g0 : 0 ≤ gen) (g1 : gen ≤ 9223372036854775807) (a0 : 0 ≤ ar) (a1 : ar < 2) (f0 : 0 ≤ fi) (f1 : fi ≤ 9223372036854775807) :
    Calls Try.prog 40 #[.agg #[.int .i64 gen, .int .i64 ar, .int .i64 fi]] w fun e w' => RetOwn w e w' 64 (superF gen ar fi) := by
  obtain ⟨W0, hW⟩ : ∃ W, W = w.alloc (.cells #[.int .i64 gen, .int .i64 ar, .int .i64 fi] 34) := ⟨_, rfl⟩
  have HC : Hid (W0.cell? ⟨w.heap.size, 0, none⟩ = some (.int .i64 gen) ∧ W0.cell? ⟨w.heap.size, 1, none⟩ = some (.int .i64 ar) ∧ W0.cell? ⟨w.heap.size, 2, none⟩ = some (.int .i64 fi) ∧ Below w.heap.size w W0 ∧ w.heap.size + 1 = W0.heap.size) := by
    rw [hW]
    exact ⟨by simp, by simp, by simp, below_alloc _ _, by simp⟩
  have HW : Hid (W0 = w.alloc (.cells #[.int .i64 gen, .int .i64 ar, .int .i64 fi] 34)) := hW
  clear hW
  go_enter Try.func40, Try.ntmps40
  go_wp2
  rw [← HW.out]
  refine wp_region_makers (by kernel_rfl) (ExtM W0.heap.size) (supPhi gen ar fi W0.heap.size w.heap.size) (fun _ _ _ h k => h.trans k) (ExtM.refl _ _) supPhi_st (by kernel_rfl) ?_ ?_
  · intro i o ho a w1 hp he hdep K' hK
    have hB : W0.heap.size ≤ w1.heap.size := he.1.size
    have ht1' : a.tmps.getD 1 undef = .pointer (some ⟨w.heap.size, 0, none⟩) := hp.other 1 (fun j p hj => by
      have hjl : j < 17 := (Array.getElem?_eq_some_iff.1 hj).1
      match j, hj, hjl with
      | 0, hj, _ => have := Option.some.inj hj; subst this; simp
      | 1, hj, _ => have := Option.some.inj hj; subst this; simp
      | 2, hj, _ => have := Option.some.inj hj; subst this; simp
      | 3, hj, _ => have := Option.some.inj hj; subst this; simp
      | 4, hj, _ => have := Option.some.inj hj; subst this; simp
      | 5, hj, _ => have := Option.some.inj hj; subst this; simp
      | 6, hj, _ => have := Option.some.inj hj; subst this; simp
      | 7, hj, _ => have := Option.some.inj hj; subst this; simp
      | 8, hj, _ => have := Option.some.inj hj; subst this; simp
      | 9, hj, _ => have := Option.some.inj hj; subst this; simp
      | 10, hj, _ => have := Option.some.inj hj; subst this; simp
      | 11, hj, _ => have := Option.some.inj hj; subst this; simp
      | 12, hj, _ => have := Option.some.inj hj; subst this; simp
      | 13, hj, _ => have := Option.some.inj hj; subst this; simp
      | 14, hj, _ => have := Option.some.inj hj; subst this; simp
      | 15, hj, _ => have := Option.some.inj hj; subst this; simp
      | 16, hj, _ => have := Option.some.inj hj; subst this; simp
      )
    have ht1 : a.tmps[1]?.getD undef = .pointer (some ⟨w.heap.size, 0, none⟩) := by simpa using ht1'
    have hil : i < 17 := (Array.getElem?_eq_some_iff.1 ho).1
    match i, ho, hil, hK with
    | 0, ho, _, hK =>
      have ho' := Option.some.inj ho
      subst ho'
      refine mk_value rfl (v := .pointer (some ⟨w.heap.size, 0, none⟩)) (by simp [execOp, ht1, go_sem]) (hK _ _ (ExtM.refl _ _) rfl)
    | 1, ho, _, hK =>
      have ho' := Option.some.inj ho
      subst ho'
      have d0' : a.tmps.getD 3 undef = .pointer (some ⟨w.heap.size, 0, none⟩) := hdep ⟨0, .data⟩ (by simp) rfl
      have d0 : a.tmps[3]?.getD undef = .pointer (some ⟨w.heap.size, 0, none⟩) := by simpa using d0'
      have hc : w1.cell? ⟨w.heap.size, 0, none⟩ = some (.int .i64 gen) := he.cell HC.out.1
      refine mk_value rfl (v := .int .i64 gen) (by simp [execOp, d0, hc, go_sem]) (hK _ _ (ExtM.refl _ _) rfl)
    | 2, ho, _, hK =>
      have ho' := Option.some.inj ho
      subst ho'
      have d1' : a.tmps.getD 4 undef = .int .i64 gen := hdep ⟨1, .data⟩ (by simp) rfl
      have d1 : a.tmps[4]?.getD undef = .int .i64 gen := by simpa using d1'
      rw [if_pos (by simp [Region.wanted])]
      unfold Oper.wp
      simp [execOp, resolve, invoke, d1, go_sem]
      refine (l2Put_any gen 4 w1 g0 g1 (by omega)).mono ?_
      rintro e w2 ⟨b, c, rfl, ho2, hb2, -, -⟩
      exact hK _ _ (ExtM.ofBelow hB hb2) ⟨b, c, rfl, ho2.rd⟩
    | 3, ho, _, hK =>
      have ho' := Option.some.inj ho
      subst ho'
      refine mk_value' rfl (v := .slice (some ⟨w1.heap.size, 0, none⟩) 2 2) (w' := w1.alloc (.cells #[.int .u8 81, .int .u8 49] 5)) (by simp [execOp, go_sem]) (hK _ _ (ExtM.ofBelow hB (below_alloc _ _)) ⟨_, rfl, hB, _, blk_alloc_new _ _⟩)
    | 4, ho, _, hK =>
      have ho' := Option.some.inj ho
      subst ho'
      have dd : supPhi gen ar fi W0.heap.size w.heap.size 3 (a.tmps.getD 6 undef) w1 := hdep ⟨3, .data⟩ (by simp) rfl
      obtain ⟨g, e3, hg, fr, hh⟩ := dd
      have d3 : a.tmps[6]?.getD undef = .slice (some ⟨g, 0, none⟩) 2 2 := by simpa using e3
      obtain ⟨w2, hrun, hx2⟩ := convMark (B := W0.heap.size) w1 g fr hg hh
      refine mk_value' rfl (v := .slice (some ⟨g, 0, none⟩) 2 2) (w' := w2) (by simp [execOp, Act.eval, d3, hrun, Result.andThen]) (hK _ _ hx2 ⟨_, _, rfl, hx2.rd (rdMark hh)⟩)
    | 5, ho, _, hK =>
      have ho' := Option.some.inj ho
      subst ho'
      refine mk_value rfl (v := .pointer (some ⟨w.heap.size, 1, none⟩)) (by simp [execOp, ht1, go_sem]) (hK _ _ (ExtM.refl _ _) rfl)
    | 6, ho, _, hK =>
      have ho' := Option.some.inj ho
      subst ho'
      have d5' : a.tmps.getD 8 undef = .pointer (some ⟨w.heap.size, 1, none⟩) := hdep ⟨5, .data⟩ (by simp) rfl
      have d5 : a.tmps[8]?.getD undef = .pointer (some ⟨w.heap.size, 1, none⟩) := by simpa using d5'
      have hc : w1.cell? ⟨w.heap.size, 1, none⟩ = some (.int .i64 ar) := he.cell HC.out.2.1
      refine mk_value rfl (v := .int .i64 ar) (by simp [execOp, d5, hc, go_sem]) (hK _ _ (ExtM.refl _ _) rfl)
    | 7, ho, _, hK =>
      have ho' := Option.some.inj ho
      subst ho'
      have d6' : a.tmps.getD 9 undef = .int .i64 ar := hdep ⟨6, .data⟩ (by simp) rfl
      have d6 : a.tmps[9]?.getD undef = .int .i64 ar := by simpa using d6'
      have hwr : IntKind.u8.wrap ar = ar := by rw [IntKind.wrap_u8]; omega
      refine mk_value rfl (v := .int .u8 ar) (by simp [execOp, d6, go_sem, hwr]) (hK _ _ (ExtM.refl _ _) rfl)
    | 8, ho, _, hK =>
      have ho' := Option.some.inj ho
      subst ho'
      have d7' : a.tmps.getD 10 undef = .int .u8 ar := hdep ⟨7, .data⟩ (by simp) rfl
      have d7 : a.tmps[10]?.getD undef = .int .u8 ar := by simpa using d7'
      refine mk_value' rfl (v := .slice (some ⟨w1.heap.size, 0, none⟩) 2 2) (w' := w1.alloc (.cells #[.int .u8 ar, .int .u8 0] 5)) (by simp [execOp, d7, go_sem]) (hK _ _ (ExtM.ofBelow hB (below_alloc _ _)) ⟨_, _, rfl, rdPair rfl _ _⟩)
    | 9, ho, _, hK =>
      have ho' := Option.some.inj ho
      subst ho'
      refine mk_value rfl (v := .pointer (some ⟨w.heap.size, 2, none⟩)) (by simp [execOp, ht1, go_sem]) (hK _ _ (ExtM.refl _ _) rfl)
    | 10, ho, _, hK =>
      have ho' := Option.some.inj ho
      subst ho'
      have d9' : a.tmps.getD 12 undef = .pointer (some ⟨w.heap.size, 2, none⟩) := hdep ⟨9, .data⟩ (by simp) rfl
      have d9 : a.tmps[12]?.getD undef = .pointer (some ⟨w.heap.size, 2, none⟩) := by simpa using d9'
      have hc : w1.cell? ⟨w.heap.size, 2, none⟩ = some (.int .i64 fi) := he.cell HC.out.2.2.1
      refine mk_value rfl (v := .int .i64 fi) (by simp [execOp, d9, hc, go_sem]) (hK _ _ (ExtM.refl _ _) rfl)
    | 11, ho, _, hK =>
      have ho' := Option.some.inj ho
      subst ho'
      have d10' : a.tmps.getD 13 undef = .int .i64 fi := hdep ⟨10, .data⟩ (by simp) rfl
      have d10 : a.tmps[13]?.getD undef = .int .i64 fi := by simpa using d10'
      rw [if_pos (by simp [Region.wanted])]
      unfold Oper.wp
      simp [execOp, resolve, invoke, d10, go_sem]
      refine (l2Put_any fi 4 w1 f0 f1 (by omega)).mono ?_
      rintro e w2 ⟨b, c, rfl, ho2, hb2, -, -⟩
      exact hK _ _ (ExtM.ofBelow hB hb2) ⟨b, c, rfl, ho2.rd⟩
    | 12, ho, _, hK =>
      have ho' := Option.some.inj ho
      subst ho'
      rw [if_pos (by simp [Region.wanted])]
      unfold Oper.wp
      simp [execOp, resolve, invoke, go_sem]
      refine (zeros_any 48 w1 (by omega)).mono ?_
      rintro e w2 ⟨b, c, rfl, ho2, hb2⟩
      exact hK _ _ (ExtM.ofBelow hB hb2) ⟨b, c, rfl, ho2.rd⟩
    | 13, ho, _, hK =>
      have ho' := Option.some.inj ho
      subst ho'
      have dd : supPhi gen ar fi W0.heap.size w.heap.size 2 (a.tmps.getD 5 undef) w1 := hdep ⟨2, .data⟩ (by simp) rfl
      obtain ⟨b0, c0, e0, r0⟩ := dd
      have dd : supPhi gen ar fi W0.heap.size w.heap.size 4 (a.tmps.getD 7 undef) w1 := hdep ⟨4, .data⟩ (by simp) rfl
      obtain ⟨b1, c1, e1, r1⟩ := dd
      have dd : supPhi gen ar fi W0.heap.size w.heap.size 8 (a.tmps.getD 11 undef) w1 := hdep ⟨8, .data⟩ (by simp) rfl
      obtain ⟨b2, c2, e2, r2⟩ := dd
      have dd : supPhi gen ar fi W0.heap.size w.heap.size 11 (a.tmps.getD 14 undef) w1 := hdep ⟨11, .data⟩ (by simp) rfl
      obtain ⟨b3, c3, e3, r3⟩ := dd
      have dd : supPhi gen ar fi W0.heap.size w.heap.size 12 (a.tmps.getD 15 undef) w1 := hdep ⟨12, .data⟩ (by simp) rfl
      obtain ⟨b4, c4, e4, r4⟩ := dd
      have d0 : a.tmps[5]?.getD undef = .slice b0 4 c0 := by simpa using e0
      have d1 : a.tmps[7]?.getD undef = .slice b1 2 c1 := by simpa using e1
      have d2 : a.tmps[11]?.getD undef = .slice b2 2 c2 := by simpa using e2
      have d3 : a.tmps[14]?.getD undef = .slice b3 4 c3 := by simpa using e3
      have d4 : a.tmps[15]?.getD undef = .slice b4 48 c4 := by simpa using e4
      refine mk_value' rfl (v := .slice (some ⟨w1.heap.size, 0, none⟩) 5 5) (w' := w1.alloc (.cells #[.slice b0 4 c0, .slice b1 2 c1, .slice b2 2 c2, .slice b3 4 c3, .slice b4 48 c4] 28)) (by simp [execOp, d0, d1, d2, d3, d4, go_sem]) (hK _ _ (ExtM.ofBelow hB (below_alloc _ _)) ⟨_, rfl, rdS_five r0 r1 r2 r3 r4⟩)
    | 14, ho, _, hK =>
      have ho' := Option.some.inj ho
      subst ho'
      have dd : supPhi gen ar fi W0.heap.size w.heap.size 13 (a.tmps.getD 16 undef) w1 := hdep ⟨13, .data⟩ (by simp) rfl
      obtain ⟨g, e, rs⟩ := dd
      have d : a.tmps[16]?.getD undef = .slice (some ⟨g, 0, none⟩) 5 5 := by simpa using e
      rw [if_pos (by simp [Region.wanted])]
      unfold Oper.wp
      simp [execOp, resolve, invoke, d, go_sem]
      refine (l2Cat_any g 0 5 5 _ _ w1 rs (by omega) catL_five (fun k hk => by unfold five; (repeat' split) <;> omega)).mono ?_
      rintro e w2 ⟨b, c, rfl, ho2, hb2, -, -⟩
      exact hK _ _ (ExtM.ofBelow hB hb2) ⟨b, c, rfl, ho2.rd.congr (fun j hj => super_cat gen ar fi a0 a1 _ _ rfl rfl rfl rfl j hj)⟩
    | 15, ho, _, hK =>
      have ho' := Option.some.inj ho
      subst ho'
      have dd : supPhi gen ar fi W0.heap.size w.heap.size 14 (a.tmps.getD 17 undef) w1 := hdep ⟨14, .data⟩ (by simp) rfl
      obtain ⟨b, c, e, r⟩ := dd
      have d : a.tmps[17]?.getD undef = .slice b 60 c := by simpa using e
      rw [if_pos (by simp [Region.wanted])]
      unfold Oper.wp
      simp [execOp, resolve, invoke, d, go_sem]
      refine (l2Seal_any b c (superH gen ar fi) w1 r (fun i hi => superH_range gen ar fi i (by omega))).mono ?_
      rintro e w2 ⟨b2, c2, rfl, ho2, hb2, hl2, hm2⟩
      exact hK _ _ (ExtM.ofBelow hB hb2) ⟨b2, c2, rfl, ho2.mono hB, hl2, hm2⟩
    | 16, ho, _, hK =>
      have ho' := Option.some.inj ho
      subst ho'
      have dd : supPhi gen ar fi W0.heap.size w.heap.size 15 (a.tmps.getD 18 undef) w1 := hdep ⟨15, .data⟩ (by simp) rfl
      obtain ⟨b, c, e, r, r1, r2⟩ := dd
      have d : a.tmps[18]?.getD undef = .slice b 64 c := by simpa using e
      refine mk_value rfl (v := .slice b 64 c) (by simp [execOp, d, go_sem]) (hK _ _ (ExtM.refl _ _) ⟨b, c, rfl, r, r1, r2⟩)
  · intro a w1 hp he hall
    have dd : supPhi gen ar fi W0.heap.size w.heap.size 16 (a.tmps.getD 2 undef) w1 := hall 16 (by decide)
    obtain ⟨b, c, e, r, r1, r2⟩ := dd
    have hd : a.defers = [] := hp.defers
    have HX : Hid (RetOwn w (.returned (.slice b 64 c)) w1 64 (superF gen ar fi)) := ⟨b, c, rfl, r.mono (by have := HC.out.2.2.2.2; omega), HC.out.2.2.2.1.drew.trans (he.1.mono (by have := HC.out.2.2.2.2; omega)), r1, r2⟩
    clear r r1 r2 he hall hp
    go_wp2
    refine bodyPost_ret (results_tmp rfl _ _ _) hd ?_
    rw [e]
    exact HX.out
end Go.Proofs.Ytfbhlegkpmcfoaa
