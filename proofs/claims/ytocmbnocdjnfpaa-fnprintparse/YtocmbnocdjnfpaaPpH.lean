import Derived.Test.YtocmbnocdjnfpaaPpE
namespace Go.Proofs.Ytocmbnocdjnfpaa
open Go.RowKit Go.Deep
set_option linter.unusedVariables false
set_option maxRecDepth 100000

def o22_0 : Oper := { dst := some 91, op := Op.move (Operand.tmp 5), type := 129, pos := "l6_text.go:315", after := #[], guard := none }
def o22_1 : Oper := { dst := some 92, op := Op.indexAddr 129 (Operand.tmp 91) (Operand.const (Value.int IntKind.i64 0)), type := 0, pos := "l6_text.go:315", after := #[{ on := 0, ground := Ground.data }], guard := none }
def o22_2 : Oper := { dst := some 93, op := Op.load 33 (Operand.tmp 92), type := 33, pos := "l6_text.go:315", after := #[{ on := 1, ground := Ground.data }], guard := none }
def o22_3 : Oper := { dst := some 94, op := Op.buildSlice 33 5 #[(0, Operand.const (Value.int IntKind.u8 46)), (1, Operand.const (Value.int IntKind.u8 104)), (2, Operand.const (Value.int IntKind.u8 97)), (3, Operand.const (Value.int IntKind.u8 115)), (4, Operand.const (Value.int IntKind.u8 40))], type := 33, pos := "l6_text.go:315", after := #[], guard := none }
def o22_4 : Oper := { dst := some 95, op := Op.convert 33 33 (Operand.tmp 94), type := 33, pos := "l6_text.go:315", after := #[{ on := 3, ground := Ground.data }], guard := none }
def o22_5 : Oper := { dst := some 96, op := Op.move (Operand.tmp 8), type := 33, pos := "l6_text.go:315", after := #[], guard := none }
def o22_6 : Oper := { dst := some 97, op := Op.buildSlice 33 2 #[(0, Operand.const (Value.int IntKind.u8 44)), (1, Operand.const (Value.int IntKind.u8 32))], type := 33, pos := "l6_text.go:315", after := #[], guard := none }
def o22_7 : Oper := { dst := some 98, op := Op.convert 33 33 (Operand.tmp 97), type := 33, pos := "l6_text.go:315", after := #[{ on := 6, ground := Ground.data }], guard := none }
def o22_8 : Oper := { dst := some 99, op := Op.fieldAddr 61 (Operand.tmp 3) 2, type := 0, pos := "l6_text.go:315", after := #[], guard := none }
def o22_9 : Oper := { dst := some 100, op := Op.load 9 (Operand.tmp 99), type := 9, pos := "l6_text.go:315", after := #[{ on := 8, ground := Ground.data }], guard := none }
def o22_10 : Oper := { dst := some 101, op := Op.call { callee := Callee.value (Operand.func 89), args := #[Operand.tmp 100], argTypes := #[9] }, type := 33, pos := "l6_text.go:315", after := #[{ on := 9, ground := Ground.data }], guard := none }
def o22_11 : Oper := { dst := some 102, op := Op.buildSlice 33 1 #[(0, Operand.const (Value.int IntKind.u8 41))], type := 33, pos := "l6_text.go:315", after := #[], guard := none }
def o22_12 : Oper := { dst := some 103, op := Op.convert 33 33 (Operand.tmp 102), type := 33, pos := "l6_text.go:315", after := #[{ on := 11, ground := Ground.data }], guard := none }
def o22_13 : Oper := { dst := some 104, op := Op.buildSlice 129 6 #[(0, Operand.tmp 93), (1, Operand.tmp 95), (2, Operand.tmp 96), (3, Operand.tmp 98), (4, Operand.tmp 101), (5, Operand.tmp 103)], type := 129, pos := "l6_text.go:315", after := #[{ on := 2, ground := Ground.data }, { on := 4, ground := Ground.data }, { on := 5, ground := Ground.data }, { on := 7, ground := Ground.data }, { on := 10, ground := Ground.data }, { on := 12, ground := Ground.data }], guard := none }
def o22_14 : Oper := { dst := some 105, op := Op.call { callee := Callee.value (Operand.func 88), args := #[Operand.tmp 104], argTypes := #[129] }, type := 33, pos := "l6_text.go:315", after := #[{ on := 13, ground := Ground.data }, { on := 10, ground := Ground.chain }], guard := none }
def o22_15 : Oper := { dst := some 2, op := Op.assign (Operand.tmp 105), type := 33, pos := "l6_text.go:315", after := #[{ on := 14, ground := Ground.data }, { on := 14, ground := Ground.chain }, { on := 0, ground := Ground.phase }, { on := 1, ground := Ground.phase }, { on := 2, ground := Ground.phase }, { on := 3, ground := Ground.phase }, { on := 4, ground := Ground.phase }, { on := 5, ground := Ground.phase }, { on := 6, ground := Ground.phase }, { on := 7, ground := Ground.phase }, { on := 8, ground := Ground.phase }, { on := 9, ground := Ground.phase }, { on := 10, ground := Ground.phase }, { on := 11, ground := Ground.phase }, { on := 12, ground := Ground.phase }, { on := 13, ground := Ground.phase }, { on := 14, ground := Ground.phase }], guard := none }
def ops22 : Array Oper := #[o22_0, o22_1, o22_2, o22_3, o22_4, o22_5, o22_6, o22_7, o22_8, o22_9, o22_10, o22_11, o22_12, o22_13, o22_14, o22_15]
/-- Blocks of cells stand, but for their marks. -/
structure ExtW (W W' : World) : Prop where
  size : W.heap.size ≤ W'.heap.size
  blk : ∀ (b : Nat) (C : Array Value) (e : TypeId) (fr : Nat × Nat), W.heap[b]? = some (.cells C e fr) → ∃ fr', W'.heap[b]? = some (.cells C e fr')
theorem ExtW.of {W W' : World} (h : Below W.heap.size W W') : ExtW W W' := ⟨h.size, fun b C e fr hb => ⟨fr, (h.block b (Array.getElem?_eq_some_iff.1 hb).1).trans hb⟩⟩
theorem ExtW.cell {W W' : World} (h : ExtW W W') {p : Addr} {v : Value} (hc : W.cell? p = some v) : W'.cell? p = some v := by
  unfold World.cell? at hc ⊢
  split at hc
  · rename_i c e f hh
    obtain ⟨fr', h'⟩ := h.blk _ _ _ _ hh
    rw [h']
    exact hc
  · cases hc
theorem RdL.ext {W W' : World} {a : Option Addr} {l : List Int} (h : RdL W a l) (he : ExtW W W') : RdL W' a l := by
  rcases h with h | ⟨b, o, e, hc⟩
  · exact .inl h
  · exact .inr ⟨b, o, e, fun i hi => he.cell (hc i hi)⟩
theorem conv_any (W : World) (g n c : Nat) (C : Array Value) (fr : Nat × Nat) (h : W.heap[g]? = some (.cells C 5 fr)) : (convert 33 33 (.slice (some ⟨g, 0, none⟩) n c)).run Try.prog W = .ok (.slice (some ⟨g, 0, none⟩) n c) (W.freeze ⟨g, C.size, none⟩ 1) := by
  have hsh : W.shape? g = some (5, C.size) := by
    unfold World.shape?
    rw [h]
  have ht : Try.prog.underlying 33 = some (.slice 5) := by kernel_rfl
  have he : Try.prog.underlying 5 = some (.int .u8) := by kernel_rfl
  simp [convert, run_underlying ht, run_underlying he, markStringish, hsh]
theorem freeze_ext (W : World) (g k : Nat) : ExtW W (W.freeze ⟨g, k, none⟩ 1) ∧ ∀ b, b ≠ g → (W.freeze ⟨g, k, none⟩ 1).heap[b]? = W.heap[b]? := by
  unfold World.freeze
  rw [if_neg (by decide)]
  refine ⟨⟨by simp, fun b C e fr hb => ?_⟩, fun b hb => ?_⟩
  · rw [Array.getElem?_modify]
    by_cases e1 : g = b
    · subst e1
      rw [if_pos rfl, hb]
      exact ⟨_, rfl⟩
    · rw [if_neg e1]
      exact ⟨fr, hb⟩
  · rw [Array.getElem?_modify, if_neg (fun q => hb q.symm)]
/-- A row of texts, newly built. -/
theorem rdSL_new (W : World) (PL : List (List Int)) (cs : List Value) (h : ∀ (i : Nat) (p : List Int), PL[i]? = some p → ∃ (ad : Option Addr) (cp : Nat), cs[i]? = some (.slice ad p.length cp) ∧ RdL W ad p) : RdSL (W.alloc (.cells cs.toArray 33)) W.heap.size 0 PL := fun i p hi => by
  obtain ⟨ad, cp, h1, h2⟩ := h i p hi
  refine ⟨ad, cp, ?_, h2.below (below_alloc _ _)⟩
  have hh : (W.alloc (.cells cs.toArray 33)).heap[W.heap.size]? = some (.cells cs.toArray 33) := Array.getElem?_push_size
  unfold World.cell?
  rw [Nat.zero_add, hh]
  show cs.toArray[i]? = _
  rw [List.getElem?_toArray]
  exact h1
theorem put_self (a : Act) (d : Nat) (v : Value) (h : d < a.tmps.size) : (a.put (some d) v).tmps.getD d undef = v := by
  show (a.tmps.setIfInBounds d v).getD d undef = v
  rw [Array.getD_eq_getD_getElem?, Array.getElem?_setIfInBounds_self_of_lt h]
  rfl
theorem put_ne (a : Act) (d k : Nat) (v : Value) (h : d ≠ k) : (a.put (some d) v).tmps.getD k undef = a.tmps.getD k undef := by
  show (a.tmps.setIfInBounds d v).getD k undef = _
  rw [Array.getD_eq_getD_getElem?, Array.getD_eq_getD_getElem?, Array.getElem?_setIfInBounds_ne h]
/-- What the region is told. -/
structure R22 where
  w5 : World
  g5 : Nat
  cap5 : Nat
  b3 : Nat
  ad0 : Option Addr
  l0 : Nat
  cp0 : Nat
  p0 : List Int
  a5 : Option Addr
  lq : Nat
  c5 : Nat
  qs : List Int
  t : ByteArray
def R22.lt (r : R22) : List Int := qL (bl r.t)
def R22.PL (r : R22) : List (List Int) := [r.p0, [46, 104, 97, 115, 40], r.qs, [44, 32], r.lt, [41]]
structure R22.Ok (r : R22) : Prop where
  c0 : r.w5.cell? ⟨r.g5, 0, none⟩ = some (.slice r.ad0 r.l0 r.cp0)
  hl0 : r.l0 = r.p0.length
  rd0 : RdL r.w5 r.ad0 r.p0
  c2 : r.w5.cell? ⟨r.b3, 2, none⟩ = some (.string r.t)
  hlq : r.lq = r.qs.length
  rdq : RdL r.w5 r.a5 r.qs
  ht : r.t.size ≤ 31
  hL : r.PL.flatten.length ≤ 300000
/-- A literal in a slot. -/
def LitA (r : R22) (a : Act) (W : World) (k : Nat) (l : List Int) : Prop := ∃ g fr, a.tmps.getD k undef = .slice (some ⟨g, 0, none⟩) l.length l.length ∧ r.w5.heap.size ≤ g ∧ W.heap[g]? = some (.cells (bv l).toArray 5 fr)
/-- A text in a slot. -/
def TxtA (r : R22) (a : Act) (W : World) (k : Nat) (l : List Int) : Prop := ∃ ad c, a.tmps.getD k undef = .slice ad l.length c ∧ RdL W ad l ∧ (0 < l.length → ∀ p, ad = some p → r.w5.heap.size ≤ p.block) ∧ l.length ≤ c ∧ c ≤ 9223372036854775807
def slot22 (i : Nat) : Nat := if i = 15 then 2 else 91 + i
def F22 (r : R22) (i : Nat) (a : Act) (W : World) : Prop :=
  match i with
  | 0 => a.tmps.getD 91 undef = .slice (some ⟨r.g5, 0, none⟩) 1 r.cap5
  | 1 => a.tmps.getD 92 undef = .pointer (some ⟨r.g5, 0, none⟩)
  | 2 => a.tmps.getD 93 undef = .slice r.ad0 r.l0 r.cp0
  | 3 => LitA r a W 94 [46, 104, 97, 115, 40]
  | 4 => LitA r a W 95 [46, 104, 97, 115, 40]
  | 5 => a.tmps.getD 96 undef = .slice r.a5 r.lq r.c5
  | 6 => LitA r a W 97 [44, 32]
  | 7 => LitA r a W 98 [44, 32]
  | 8 => a.tmps.getD 99 undef = .pointer (some ⟨r.b3, 2, none⟩)
  | 9 => a.tmps.getD 100 undef = .string r.t
  | 10 => TxtA r a W 101 r.lt
  | 11 => LitA r a W 102 [41]
  | 12 => LitA r a W 103 [41]
  | 13 => ∃ g, a.tmps.getD 104 undef = .slice (some ⟨g, 0, none⟩) 6 6 ∧ RdSL W g 0 r.PL
  | 14 => TxtA r a W 105 r.PL.flatten
  | 15 => TxtA r a W 2 r.PL.flatten
  | _ => True
theorem LitA.ext {r : R22} {a : Act} {W W' : World} {k : Nat} {l : List Int} (h : LitA r a W k l) (he : ExtW W W') : LitA r a W' k l := by
  obtain ⟨g, fr, h1, h2, h3⟩ := h
  obtain ⟨fr', h4⟩ := he.blk _ _ _ _ h3
  exact ⟨g, fr', h1, h2, h4⟩
theorem LitA.rd {r : R22} {a : Act} {W : World} {k : Nat} {l : List Int} (h : LitA r a W k l) : ∃ ad c, a.tmps.getD k undef = .slice ad l.length c ∧ RdL W ad l := by
  obtain ⟨g, fr, h1, h2, h3⟩ := h
  refine ⟨_, _, h1, .inr ⟨g, 0, rfl, fun i hi => ?_⟩⟩
  unfold World.cell?
  rw [h3]
  show (bv l).toArray[0 + i]? = _
  rw [List.getElem?_toArray, Nat.zero_add]
  unfold bv lf
  rw [List.getElem?_map, List.getElem?_eq_getElem hi, List.getD_eq_getElem?_getD, List.getElem?_eq_getElem hi]
  rfl
theorem TxtA.ext {r : R22} {a : Act} {W W' : World} {k : Nat} {l : List Int} (h : TxtA r a W k l) (he : ExtW W W') : TxtA r a W' k l := by
  obtain ⟨ad, c, h1, h2, h3⟩ := h
  exact ⟨ad, c, h1, h2.ext he, h3⟩
theorem RdSL.ext {W W' : World} {b o : Nat} {PL : List (List Int)} (h : RdSL W b o PL) (he : ExtW W W') : RdSL W' b o PL := fun i p hi => by
  obtain ⟨ad, cp, h1, h2⟩ := h i p hi
  exact ⟨ad, cp, he.cell h1, h2.ext he⟩
theorem F22.ext {r : R22} {i : Nat} {a : Act} {W W' : World} (h : F22 r i a W) (he : ExtW W W') : F22 r i a W' := by
  match i, h with
  | 0, h => exact h
  | 1, h => exact h
  | 2, h => exact h
  | 3, h => exact LitA.ext h he
  | 4, h => exact LitA.ext h he
  | 5, h => exact h
  | 6, h => exact LitA.ext h he
  | 7, h => exact LitA.ext h he
  | 8, h => exact h
  | 9, h => exact h
  | 10, h => exact TxtA.ext h he
  | 11, h => exact LitA.ext h he
  | 12, h => exact LitA.ext h he
  | 13, ⟨g, h1, h2⟩ => exact ⟨g, h1, RdSL.ext h2 he⟩
  | 14, h => exact TxtA.ext h he
  | 15, h => exact TxtA.ext h he
  | n + 16, _ => trivial
theorem F22.put {r : R22} {i : Nat} {a a' : Act} {W : World} (h : F22 r i a W) (he : a'.tmps.getD (slot22 i) undef = a.tmps.getD (slot22 i) undef) : F22 r i a' W := by
  match i, h, he with
  | 0, h, he => exact he.trans h
  | 1, h, he => exact he.trans h
  | 2, h, he => exact he.trans h
  | 3, ⟨g, fr, h1, h2⟩, he => exact ⟨g, fr, he.trans h1, h2⟩
  | 4, ⟨g, fr, h1, h2⟩, he => exact ⟨g, fr, he.trans h1, h2⟩
  | 5, h, he => exact he.trans h
  | 6, ⟨g, fr, h1, h2⟩, he => exact ⟨g, fr, he.trans h1, h2⟩
  | 7, ⟨g, fr, h1, h2⟩, he => exact ⟨g, fr, he.trans h1, h2⟩
  | 8, h, he => exact he.trans h
  | 9, h, he => exact he.trans h
  | 10, ⟨g, fr, h1, h2⟩, he => exact ⟨g, fr, he.trans h1, h2⟩
  | 11, ⟨g, fr, h1, h2⟩, he => exact ⟨g, fr, he.trans h1, h2⟩
  | 12, ⟨g, fr, h1, h2⟩, he => exact ⟨g, fr, he.trans h1, h2⟩
  | 13, ⟨g, h1, h2⟩, he => exact ⟨g, he.trans h1, h2⟩
  | 14, ⟨g, fr, h1, h2⟩, he => exact ⟨g, fr, he.trans h1, h2⟩
  | 15, ⟨g, fr, h1, h2⟩, he => exact ⟨g, fr, he.trans h1, h2⟩
  | n + 16, _, _ => trivial
/-- What is kept whatever comes up next. -/
structure I22 (r : R22) (listed : Array Bool) (a : Act) (W : World) : Prop where
  sz : a.tmps.size = 154
  de : a.defers = []
  s3 : a.tmps.getD 3 undef = .pointer (some ⟨r.b3, 0, none⟩)
  s5 : a.tmps.getD 5 undef = .slice (some ⟨r.g5, 0, none⟩) 1 r.cap5
  s8 : a.tmps.getD 8 undef = .slice r.a5 r.lq r.c5
  bel : Below r.w5.heap.size r.w5 W
  fk : ∀ i, i < 16 → listed.getD i false = true → F22 r i a W
theorem I22.step {r : R22} {listed : Array Bool} {a : Act} {W W' : World} (h : I22 r listed a W) {i : Nat} (hi : i < 16) {v : Value} (he : ExtW W W') (hb : Below r.w5.heap.size r.w5 W') (hf : F22 r i (a.put (some (slot22 i)) v) W') : I22 r (listed.setIfInBounds i true) (a.put (some (slot22 i)) v) W' := by
  have hs : ∀ j, j < 16 → slot22 j = if j = 15 then 2 else 91 + j := fun j _ => rfl
  have hne : ∀ k, k = 3 ∨ k = 5 ∨ k = 8 → slot22 i ≠ k := fun k hk => by
    unfold slot22
    split <;> omega
  refine ⟨?_, h.de, ?_, ?_, ?_, hb, fun j hj hl => ?_⟩
  · show (a.tmps.setIfInBounds (slot22 i) v).size = 154
    rw [Array.size_setIfInBounds]
    exact h.sz
  · rw [put_ne _ _ _ _ (hne 3 (by omega))]; exact h.s3
  · rw [put_ne _ _ _ _ (hne 5 (by omega))]; exact h.s5
  · rw [put_ne _ _ _ _ (hne 8 (by omega))]; exact h.s8
  · by_cases e : i = j
    · subst e; exact hf
    · rw [getD_set_ne e] at hl
      refine F22.put ((h.fk j hj hl).ext he) (put_ne _ _ _ _ ?_)
      unfold slot22
      split <;> split <;> omega
end Go.Proofs.Ytocmbnocdjnfpaa
