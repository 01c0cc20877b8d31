import Derived.Test.YtbpcafcipncloaaSpS
import Derived.Test.YtbpcafcipncloaaMakers
import Derived.Lib.SlBytesConst
namespace Go.Proofs.Ytbpcafcipncloaa
open Go.RowKit Go.Deep
set_option linter.unusedVariables false
set_option maxRecDepth 100000

/-- A world that has grown; a literal's letters may have been marked. -/
def ExtM (B : Nat) (w w' : World) : Prop := Below B w w' ∧ ∀ (k : Nat) (c : Array Value) (t : TypeId) (fr : Nat × Nat), w.heap[k]? = some (.cells c t fr) → ∃ fr', w'.heap[k]? = some (.cells c t fr') ∧ (fr' = fr ∨ c.size = 2)

theorem ExtM.refl (B : Nat) (w : World) : ExtM B w w := ⟨Below.refl _ _, fun k c t fr h => ⟨fr, h, Or.inl rfl⟩⟩
theorem ExtM.trans {B : Nat} {u v w : World} (h : ExtM B u v) (k : ExtM B v w) : ExtM B u w := ⟨h.1.trans k.1, fun i c t fr hc => by
  obtain ⟨f1, h1, e1⟩ := h.2 i c t fr hc
  obtain ⟨f2, h2, e2⟩ := k.2 i c t f1 h1
  refine ⟨f2, h2, ?_⟩
  rcases e2 with e2 | e2
  · rcases e1 with e1 | e1
    · exact Or.inl (e2.trans e1)
    · exact Or.inr e1
  · exact Or.inr e2⟩
theorem ExtM.ofBelow {B : Nat} {w w' : World} (hB : B ≤ w.heap.size) (h : Below w.heap.size w w') : ExtM B w w' :=
  ⟨h.mono hB, fun k c t fr hc => ⟨fr, (h.block k (Array.getElem?_eq_some_iff.1 hc).1).trans hc, Or.inl rfl⟩⟩
theorem ExtM.cell {B : Nat} {w w' : World} (h : ExtM B w w') {p : Addr} {v : Value} (hc : w.cell? p = some v) : w'.cell? p = some v := by
  cases hb : w.heap[p.block]? with
  | none => simp [World.cell?, hb] at hc
  | some o =>
    cases o with
    | cells c t fr =>
      obtain ⟨fr', h', _⟩ := h.2 _ _ _ _ hb
      simp [World.cell?, hb] at hc
      simp [World.cell?, h', hc]
    | _ => simp [World.cell?, hb] at hc
theorem ExtM.rd {B : Nat} {w w' : World} (h : ExtM B w w') {a : Option Addr} {n : Nat} {f : Nat → Int} (hr : Rd .u8 w a n f) : Rd .u8 w' a n f := by
  rcases hr with h0 | ⟨b, o, rfl, hc⟩
  · exact Or.inl h0
  · exact Or.inr ⟨b, o, rfl, fun i hi => h.cell (hc i hi)⟩
theorem ExtM.rdS {B : Nat} {w w' : World} (h : ExtM B w w') {b o m : Nat} {L : Nat → Nat} {F : Nat → Nat → Int} (hr : RdS w b o m L F) : RdS w' b o m L F := fun i hi => by
  obtain ⟨ad, cp, h1, h2⟩ := hr i hi
  exact ⟨ad, cp, h.cell h1, h.rd h2⟩
theorem ExtM.own {B B' : Nat} {w w' : World} (h : ExtM B w w') {a : Option Addr} {n : Nat} {f : Nat → Int} (hn : 3 ≤ n) (hr : OwnB w B' a n f) : OwnB w' B' a n f := by
  rcases hr with h0 | ⟨g, rfl, hg, cur, hh, hs, hc⟩
  · exact Or.inl h0
  · obtain ⟨fr', h', e⟩ := h.2 _ _ _ _ hh
    rcases e with e | e
    · subst e; exact Or.inr ⟨g, rfl, hg, cur, h', hs, hc⟩
    · omega

/-- What each operation of l2SuperBytes' list leaves. -/
def supPhi (gen ar fi : Int) (B q : Nat) : Nat → Value → World → Prop
  | 0, v, _ => v = .pointer (some ⟨q, 0, none⟩)
  | 1, v, _ => v = .int .i64 gen
  | 2, v, w => ∃ a c, v = .slice a 4 c ∧ Rd .u8 w a 4 (byteAt gen)
  | 3, v, w => ∃ g, v = .slice (some ⟨g, 0, none⟩) 2 2 ∧ B ≤ g ∧ ∃ fr, w.heap[g]? = some (.cells #[.int .u8 81, .int .u8 49] 5 fr)
  | 4, v, w => ∃ a c, v = .slice a 2 c ∧ Rd .u8 w a 2 (two 81 49)
  | 5, v, _ => v = .pointer (some ⟨q, 1, none⟩)
  | 6, v, _ => v = .int .i64 ar
  | 7, v, _ => v = .int .u8 ar
  | 8, v, w => ∃ a c, v = .slice a 2 c ∧ Rd .u8 w a 2 (two ar 0)
  | 9, v, _ => v = .pointer (some ⟨q, 2, none⟩)
  | 10, v, _ => v = .int .i64 fi
  | 11, v, w => ∃ a c, v = .slice a 4 c ∧ Rd .u8 w a 4 (byteAt fi)
  | 12, v, w => ∃ a c, v = .slice a 48 c ∧ Rd .u8 w a 48 (fun _ => 0)
  | 13, v, w => ∃ g, v = .slice (some ⟨g, 0, none⟩) 5 5 ∧ RdS w g 0 5 (five 4 2 2 4 48) (five (byteAt gen) (two 81 49) (two ar 0) (byteAt fi) (fun _ => 0))
  | 14, v, w => ∃ a c, v = .slice a 60 c ∧ Rd .u8 w a 60 (superH gen ar fi)
  | _, v, w => ∃ a c, v = .slice a 64 c ∧ OwnB w B a 64 (superF gen ar fi) ∧ 64 ≤ c ∧ c ≤ 9223372036854775807

theorem supPhi_st {gen ar fi : Int} {B q : Nat} : ∀ i v w w', supPhi gen ar fi B q i v w → ExtM B w w' → supPhi gen ar fi B q i v w' := by
  intro i v w w' h he
  match i, h with
  | 0, h => exact h
  | 1, h => exact h
  | 2, ⟨a, c, e, h⟩ => exact ⟨a, c, e, he.rd h⟩
  | 3, ⟨g, e, hg, fr, h⟩ => obtain ⟨fr', h', _⟩ := he.2 _ _ _ _ h; exact ⟨g, e, hg, fr', h'⟩
  | 4, ⟨a, c, e, h⟩ => exact ⟨a, c, e, he.rd h⟩
  | 5, h => exact h
  | 6, h => exact h
  | 7, h => exact h
  | 8, ⟨a, c, e, h⟩ => exact ⟨a, c, e, he.rd h⟩
  | 9, h => exact h
  | 10, h => exact h
  | 11, ⟨a, c, e, h⟩ => exact ⟨a, c, e, he.rd h⟩
  | 12, ⟨a, c, e, h⟩ => exact ⟨a, c, e, he.rd h⟩
  | 13, ⟨g, e, h⟩ => exact ⟨g, e, he.rdS h⟩
  | 14, ⟨a, c, e, h⟩ => exact ⟨a, c, e, he.rd h⟩
  | n + 15, ⟨a, c, e, h, h1, h2⟩ => exact ⟨a, c, e, he.own (by omega) h, h1, h2⟩

theorem mk_value {ops : Array Oper} {o : Oper} {a : Act} {w : World} {K : Act → World → Prop} {Q : Exit → Act → World → Prop} {E : Prop} {v : Value} (hg : o.guard = none) (hrun : (execOp a.eval o).run Try.prog w = .ok (.value v) w) (h : K (a.put o.dst v) w) :
    if Region.wanted o (yielded ops a.tmps) = true then Oper.wp Try.prog o a w K Q else E := by
  rw [if_pos (by simp [Region.wanted, hg])]
  unfold Oper.wp
  rw [hrun]
  exact h
theorem mk_value' {ops : Array Oper} {o : Oper} {a : Act} {w w' : World} {K : Act → World → Prop} {Q : Exit → Act → World → Prop} {E : Prop} {v : Value} (hg : o.guard = none) (hrun : (execOp a.eval o).run Try.prog w = .ok (.value v) w') (h : K (a.put o.dst v) w') :
    if Region.wanted o (yielded ops a.tmps) = true then Oper.wp Try.prog o a w K Q else E := by
  rw [if_pos (by simp [Region.wanted, hg])]
  unfold Oper.wp
  rw [hrun]
  exact h

theorem rdPair {W : World} {g : Nat} (hg : g = W.heap.size) (x y : Int) : Rd .u8 (W.alloc (.cells #[.int .u8 x, .int .u8 y] 5)) (some ⟨g, 0, none⟩) 2 (two x y) := by
  subst hg
  refine Or.inr ⟨_, 0, rfl, fun i hi => ?_⟩
  match i, hi with
  | 0, _ => simp [two]
  | 1, _ => simp [two]
theorem rdMark {w : World} {g : Nat} {fr : Nat × Nat} (h : w.heap[g]? = some (.cells #[.int .u8 81, .int .u8 49] 5 fr)) : Rd .u8 w (some ⟨g, 0, none⟩) 2 (two 81 49) := by
  refine Or.inr ⟨_, 0, rfl, fun i hi => ?_⟩
  match i, hi with
  | 0, _ => simp [two, World.cell?, h]
  | 1, _ => simp [two, World.cell?, h]

/-- A literal's letters taken as bytes: the block is marked. -/
theorem convMark {B : Nat} (w : World) (g : Nat) (fr : Nat × Nat) (hg : B ≤ g) (h : w.heap[g]? = some (.cells #[.int .u8 81, .int .u8 49] 5 fr)) :
    ∃ w', (convert 24 24 (.slice (some ⟨g, 0, none⟩) 2 2)).run Try.prog w = .ok (.slice (some ⟨g, 0, none⟩) 2 2) w' ∧ ExtM B w w' := by
  have hsh : w.shape? g = some (5, 2) := by unfold World.shape?; rw [h]; rfl
  refine ⟨w.freeze ⟨g, 2, none⟩ 1, ?_, ⟨rfl, rfl, rfl, by simp [World.freeze], fun k hk => ?_⟩, fun k c t f hc => ?_⟩
  · simp [convert, run_underlying underBytes, run_underlying (show Try.prog.underlying 5 = some (.int .u8) by kernel_rfl), markStringish, hsh]
  · unfold World.freeze
    rw [if_neg (by decide)]
    show (w.heap.modify g _)[k]? = _
    rw [Array.getElem?_modify, if_neg (by omega)]
  · unfold World.freeze
    rw [if_neg (by decide)]
    show ∃ fr', (w.heap.modify g _)[k]? = _ ∧ _
    rw [Array.getElem?_modify]
    by_cases e : g = k
    · subst e
      rw [h] at hc
      injection hc with hc
      injection hc with e1 e2 e3
      subst e1 e2 e3
      rw [if_pos rfl, h]
      exact ⟨_, rfl, Or.inr rfl⟩
    · rw [if_neg e]
      exact ⟨f, hc, Or.inl rfl⟩

end Go.Proofs.Ytbpcafcipncloaa
