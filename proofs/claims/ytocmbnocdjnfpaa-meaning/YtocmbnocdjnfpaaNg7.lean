import Derived.Test.YtocmbnocdjnfpaaPlC
import Derived.Test.YtocmbnocdjnfpaaNgd
import Derived.Test.YtocmbnocdjnfpaaPlV
namespace Go.Proofs.Ytocmbnocdjnfpaa
open Go.RowKit Go.Deep Go.Shelf
set_option linter.unusedVariables false
set_option maxRecDepth 100000

/-- A round that ends as it should. -/
def onlyN (K : World → Prop) : Exit → Act → World → Prop
  | .normal, _, W' => K W'
  | .ret, _, _ => False
  | .exit _, _, _ => False
  | .goto _, _, _ => False
  | .panic _, _, _ => False
  | .outgrown, _, _ => False
section
variable {F : Fence} {n : Nat} {P : Program}
/-- A range over a function whose rounds are numbered: what a round is handed (V) may depend on the world at that time. -/
theorem rangeT {g : Operand} {ps : Array Tmp} {assign body : Code} {Q : Exit → Act → World → Prop} {a : Act} {w : World}
    (hro : F.round = none) (h1 : 1 ≤ n) {gf : Nat} {lb : Array Value} (hg : a.eval g = .func (.func gf) #[] lb) (hFg : F.fn gf) (eg : ∀ args w, (callFunc gf args).run P w = .ok (.enter gf args) w)
    (N : Nat) (V : Nat → Array Value → World → Prop) (hV : ∀ k v W, V k v W → v.size = ps.size) (J : Nat → World → Prop) (hJ : OwnFrom w.heap.size J) (h0 : J 0 w)
    (hseq : ∀ (l : Nat) (K : Nat → World → Prop) (W : World), Below w.heap.size w W → (∀ k W, K k W → J k W) → (∀ k v W1, K k W1 → V k v W1 → k < N → YieldAt F (n - 1 - 1) P l v W1 fun e W' => e = .returned (.bool true) ∧ K (k + 1) W') → K 0 W →
      CallsIn F (n - 1) P gf (#[.func (.yield l) #[] #[]] ++ lb) W fun e W' => (∃ v, e = .returned v) ∧ K N W')
    (Ax : Nat → Array Value → Act → World → Prop) (hAx : ∀ k v a', OwnFrom w.heap.size (fun (_ : Unit) W => Ax k v a' W))
    (hassign : ∀ (l k : Nat) (v : Array Value) (W : World) (K : Act → World → Prop), J k W → V k v W → k < N → (∀ a' W', KeepsFrom w.heap.size W W' → J k W' → Ax k v a' W' → K a' W') →
      assign.wpIn (F.inRound l) (n - 1 - 1) P (Exit.then K (fun _ _ _ => False)) { tmps := (ps.zip v).foldl (fun t (p, v) => t.setIfInBounds p v) a.tmps, defers := [] } W)
    (hbody : ∀ (l k : Nat) (v : Array Value) (a' : Act) (W : World), w.heap.size ≤ l → J k W → Ax k v a' W → k < N → body.wpIn (F.inRound l) (n - 1 - 1) P (onlyN fun W' => KeepsFrom w.heap.size W W' ∧ J (k + 1) W') a' W)
    (hdone : ∀ (D : Nat) (W : World), w.heap.size ≤ D → J N W → W.heap[D]? = some (.deferred (some [])) → Q .normal { a with defers := { target := .collected D, args := #[] } :: a.defers } W) :
    (Code.rangeFunc g ps assign body).wpIn F n P Q a w := by
  refine wpIn_rangeFunc fun fn hfn => ?_
  rw [hro]
  obtain ⟨z, hz⟩ : ∃ z, z = w.heap.size := ⟨_, rfl⟩
  obtain ⟨rc, hrc⟩ : ∃ rc : LoopState → Option Code → Loop, rc = fun s p => { state := s, pending := p, fn, tmps := a.tmps, params := ps, assign, body, defers := w.heap.size } := ⟨_, rfl⟩
  -- the world once the loop is entered: two blocks of book-keeping
  obtain ⟨W1, hW1⟩ : ∃ W1, W1 = (w.alloc (.deferred (some []))).alloc (.loop (rc .ready none)) := ⟨_, rfl⟩
  have bk : W1.heap[z + 1]? = some (.loop (rc .ready none)) ∧ W1.heap[z]? = some (.deferred (some [])) ∧ J 0 W1 ∧ Below w.heap.size w W1 := by
    rw [hW1, hz]
    refine ⟨?_, (Below.heap_alloc _ _ _ (by simp)).trans (World.alloc_heap_new w _), hJ.alloc _ (hJ.alloc _ h0), ((Below.refl _ w).alloc (Nat.le_refl _) _).alloc (by simp) _⟩
    have := World.alloc_heap_new (w.alloc (.deferred (some []))) (.loop (rc .ready none))
    rwa [World.size_alloc] at this
  refine ⟨z + 1, [{ target := .collected z, args := #[] }], W1, { target := .fn (.func gf) lb, args := #[.func (.yield (z + 1)) #[] #[]] }, W1, gf, #[.func (.yield (z + 1)) #[] #[]] ++ lb, W1, ?_, ?_, ?_, ?_, fun _ => h1, ?_⟩
  · rw [hW1, hrc, hz]; exact run_enterLoop_outer _ _ _ _ _
  · simp only [resolve, hg]
    simp [go_sem]
  · intro f' hf'; simp [Target.leads] at hf'; subst hf'; exact hFg
  · simp [invoke, go_sem, eg]
  · refine (hseq (z + 1) (fun k W => J k W ∧ W.heap[z + 1]? = some (.loop (rc .ready none)) ∧ W.heap[z]? = some (.deferred (some []))) W1 bk.2.2.2 (fun _ _ h => h.1) ?_ ⟨bk.2.2.1, bk.1, bk.2.1⟩).mono ?_
    · rintro k v W ⟨hj, hl, hd⟩ hv hk
      have hy := run_yield (P := P) (args := v) hl (by rw [hrc]; exact hV k v W hv)
      rw [hrc] at hy
      refine ⟨fn, _, assign, body, hy, roundIn_of_wpIn hfn (hassign _ k v W _ hj hv hk ?_)⟩
      intro a' Wa hkf hja hax
      have hl1 := hkf.same _ _ (by omega) hl rfl
      have hd1 := hkf.same _ _ (by omega) hd rfl
      have hlt := (Array.getElem?_eq_some_iff.1 hl1).1
      refine ⟨_, run_beginRound hl1 (by rw [hrc]), ?_⟩
      have hl2 : (Wa.putObj (z + 1) (.loop { rc .ready none with state := .busy })).heap[z + 1]? = some (.loop { rc .ready none with state := .busy }) := World.putObj_heap_same hlt
      have hd2 : (Wa.putObj (z + 1) (.loop { rc .ready none with state := .busy })).heap[z]? = some (.deferred (some [])) := (World.putObj_heap_other (by omega)).trans hd1
      refine wpIn_mono (hbody _ k v a' _ (by omega) (hJ.putObj _ hja (by omega) hl1 rfl) ((hAx k v a').putObj (s := ()) _ hax (by omega) hl1 rfl) hk) ?_
      intro e a3 W3 hp
      cases e with
      | ret => exact hp.elim
      | exit _ => exact hp.elim
      | goto _ => exact hp.elim
      | panic _ => exact hp.elim
      | outgrown => exact hp.elim
      | normal =>
      obtain ⟨hk3, hj3⟩ := hp
      have hl3 := hk3.same _ _ (by omega) hl2 rfl
      have hr := run_endRound (P := P) none hl3
      refine ⟨_, _, hr, rfl, hJ.putObj _ hj3 (by omega) hl3 rfl, ?_, ?_⟩
      · rw [hrc]; exact World.putObj_heap_same (Array.getElem?_eq_some_iff.1 hl3).1
      · exact (World.putObj_heap_other (by omega)).trans (hk3.same _ _ (by omega) hd2 rfl)
    · rintro e W2 ⟨⟨v, rfl⟩, hj, hl, hd⟩
      exact ⟨none, _, by have := run_endLoop (P := P) hl (by rw [hrc]; simp); rw [hrc] at this; exact this, hdone _ _ (by omega) (hJ.putObj _ hj (by omega) hl rfl) ((World.putObj_heap_other (by omega)).trans hd)⟩
end
end Go.Proofs.Ytocmbnocdjnfpaa

namespace Go.Proofs.Ytocmbnocdjnfpaa
open Go.RowKit Go.Deep Go.Shelf
set_option linter.unusedVariables false
set_option maxRecDepth 100000
attribute [local go_sem] Oper.semAt_some

/-- The contexts of the operands of the nodes from m on are right. -/
def CtxK (n : Nat) (I : Nat → Int) (X : Nat → ByteArray) (m : Nat) (Bd : Nat → Bool) (Lb : Nat → ByteArray) : Prop :=
  Bd (n - 1) = false ∧ Lb (n - 1) = { data := #[] } ∧ ∀ i, m ≤ i → i < n → ∀ j, j < arOf (I i) → Bd (opf (arI I) i j) = dnB (I i) (Bd i) ∧ Lb (opf (arI I) i j) = dnG (I i) (X i) (Lb i)
/-- Those of node i's first q operands too, i's own context being (b, l). -/
def CtxQ (n : Nat) (I : Nat → Int) (X : Nat → ByteArray) (i : Nat) (b : Bool) (l : ByteArray) (q : Nat) (Bd : Nat → Bool) (Lb : Nat → ByteArray) : Prop :=
  CtxK n I X (i + 1) Bd Lb ∧ (Bd i = b ∧ Lb i = l) ∧ ∀ j, j < q → Bd (opf (arI I) i j) = dnB (I i) b ∧ Lb (opf (arI I) i j) = dnG (I i) (X i) l
theorem CtxQ.step {n : Nat} {I : Nat → Int} {X : Nat → ByteArray} {i : Nat} {b : Bool} {l : ByteArray} {q : Nat} {Bd : Nat → Bool} {Lb : Nat → ByteArray} (h : CtxQ n I X i b l q Bd Lb) (hok : StackOk (arI I) n) (hi : i < n) (hq : q < arOf (I i)) :
    CtxQ n I X i b l (q + 1) (fun y => if y = opf (arI I) i q then dnB (I i) b else Bd y) (fun y => if y = opf (arI I) i q then dnG (I i) (X i) l else Lb y) := by
  obtain ⟨⟨h1, h2, h3⟩, ⟨h4, h5⟩, h6⟩ := h
  have hx := opf_lt hok hi (arI_le I i) (j := q) hq
  refine ⟨⟨?_, ?_, fun i' hi1 hi2 j hj => ?_⟩, ⟨?_, ?_⟩, fun j hj => ?_⟩
  · show (if _ then _ else _) = _
    rw [if_neg (by omega)]; exact h1
  · show (if _ then _ else _) = _
    rw [if_neg (by omega)]; exact h2
  · have hne : opf (arI I) i' j ≠ opf (arI I) i q := fun e => by
      have := opf_parent hok hi2 hi (arI_le I i') (arI_le I i) hj hq e
      omega
    have hne2 : i' ≠ opf (arI I) i q := by omega
    show (if _ then _ else _) = dnB _ (if _ then _ else _) ∧ (if _ then _ else _) = dnG _ _ (if _ then _ else _)
    rw [if_neg hne, if_neg hne, if_neg hne2, if_neg hne2]
    exact h3 i' hi1 hi2 j hj
  · show (if _ then _ else _) = _
    rw [if_neg (by omega)]; exact h4
  · show (if _ then _ else _) = _
    rw [if_neg (by omega)]; exact h5
  · show (if _ then _ else _) = _ ∧ (if _ then _ else _) = _
    by_cases e : j = q
    · subst e
      rw [if_pos rfl, if_pos rfl]
      exact ⟨rfl, rfl⟩
    · have hne : opf (arI I) i j ≠ opf (arI I) i q := fun e2 => e (opf_inj hok hi (arI_le I i) (by show j < arOf (I i); omega) hq e2)
      rw [if_neg hne, if_neg hne]
      exact h6 j (by omega)
theorem CtxQ.done {n : Nat} {I : Nat → Int} {X : Nat → ByteArray} {i : Nat} {b : Bool} {l : ByteArray} {Bd : Nat → Bool} {Lb : Nat → ByteArray} (h : CtxQ n I X i b l (arOf (I i)) Bd Lb) : CtxK n I X i Bd Lb := by
  obtain ⟨⟨h1, h2, h3⟩, ⟨h4, h5⟩, h6⟩ := h
  refine ⟨h1, h2, fun i' hi1 hi2 j hj => ?_⟩
  by_cases e : i' = i
  · subst e
    rw [h4, h5]
    exact h6 j hj
  · exact h3 i' (by omega) hi2 j hj

/-- The row of places, its contexts as Cx says. -/
def CxPl (Cx : (Nat → Bool) → (Nat → ByteArray) → Prop) (W : World) (g n : Nat) (I : Nat → Int) (X R : Nat → ByteArray) (AA : Nat → Option Addr) (CC : Nat → Nat) (H : Nat → Int) : Prop := ∃ Bd Lb, Cx Bd Lb ∧ PlAt W g n (plF I X R AA CC Bd Lb H)
/-- What a round is handed: a node's number, the place as it stands there. -/
def encQ (I : Nat → Int) (X R : Nat → ByteArray) (AA : Nat → Option Addr) (CC : Nat → Nat) (H : Nat → Int) (i : Nat) (b : Bool) (l : ByteArray) : Array Value :=
  #[.int .i64 (i : Int), .agg #[.int .i64 (I i), .string (X i), .string (R i), .bool b, .string l, .slice (AA i) (arOf (I i)) (CC i), .int .i64 (H i)]]
def VQ (g n : Nat) (I : Nat → Int) (X R : Nat → ByteArray) (AA : Nat → Option Addr) (CC : Nat → Nat) (H : Nat → Int) (k : Nat) (v : Array Value) (W : World) : Prop :=
  k < n ∧ ∃ b l, v = encQ I X R AA CC H (n - 1 - k) b l ∧ W.cell? ⟨g, (n - 1 - k) * 7 + 3, none⟩ = some (.bool b) ∧ W.cell? ⟨g, (n - 1 - k) * 7 + 4, none⟩ = some (.string l)
set_option maxHeartbeats 4000000 in
theorem bwT_in (F : Fence) (nn : Nat) (hf : F.fn 143) (hro : F.round = none) (hn : 1 ≤ nn) (l Bs g n c : Nat) (I : Nat → Int) (X R : Nat → ByteArray) (AA : Nat → Option Addr) (CC : Nat → Nat) (H : Nat → Int) (hn0 : n ≤ 100) (K : Nat → World → Prop)
    (hT : ∀ k W, K k W → W.cell? ⟨Bs, 0, none⟩ = some (.slice (some ⟨g, 0, none⟩) n c) ∧ AnyPl W g n I X R AA CC H)
    (hY : ∀ k v W, K k W → VQ g n I X R AA CC H k v W → k < n → YieldAt F (nn - 1) Try.prog l v W fun e W' => e = .returned (.bool true) ∧ K (k + 1) W')
    (W : World) (h0 : K 0 W) :
    CallsIn F nn Try.prog 143 #[.func (.yield l) #[] #[], .pointer (some ⟨Bs, 0, none⟩)] W fun e W' => (∃ v, e = .returned v) ∧ K n W' := by
  have HY : Hid (∀ k v W, K k W → VQ g n I X R AA CC H k v W → k < n → YieldAt F (nn - 1) Try.prog l v W fun e W' => e = .returned (.bool true) ∧ K (k + 1) W') := hY
  have HT : Hid (∀ k W, K k W → W.cell? ⟨Bs, 0, none⟩ = some (.slice (some ⟨g, 0, none⟩) n c) ∧ AnyPl W g n I X R AA CC H) := hT
  have hBs := (hT 0 W h0).1
  have wn : IntKind.i64.wrap ((n : Int) - 1) = (n : Int) - 1 := by rw [IntKind.wrap_i64]; omega
  clear hY hT
  refine callsIn_of_wp Try.func143 rfl hf ?_ hro
  simp only [Try.ntmps143, List.size_toArray, List.length_cons, List.length_nil, Nat.reduceAdd, Nat.reduceSub, Array.replicate_succ, Array.replicate_zero, List.push_toArray, List.append_toArray, List.nil_append, List.cons_append]
  gi_wp2
  gi_loopw [3] (fun i wr => ∃ (k : Nat), k ≤ n ∧ i = .int .i64 ((k : Int) - 1) ∧ K (n - k) wr) (fun i _ => (intOf i + 1).toNat)
  case atStart => exact ⟨n, Nat.le_refl _, rfl, by rw [Nat.sub_self]; exact h0⟩
  case round =>
    obtain ⟨k, hk, rfl, hJ⟩ := hrel
    obtain ⟨hb, hp⟩ := HT.out _ _ hJ
    cases k with
    | zero =>
      have i0 : ¬ ((0 : Int) ≤ ((0 : Nat) : Int) - 1) := by omega
      rw [Nat.sub_zero] at hJ
      gi_wp2
      go_end0
      exact ⟨⟨_, rfl⟩, hJ⟩
    | succ k =>
      obtain ⟨Bd, Lb, hpp⟩ := hp
      have ek : (((k + 1 : Nat) : Int)) - 1 = (k : Int) := by omega
      rw [ek]
      have ik0 : (0 : Int) ≤ (k : Int) := by omega
      have ikn : (k : Int) < (n : Int) := by omega
      have wk : IntKind.i64.wrap ((k : Int) - 1) = (k : Int) - 1 := by rw [IntKind.wrap_i64]; omega
      obtain ⟨c0, c1, c2, c3, c4, c5, c6⟩ := hpp.seven (i := k) (by omega)
      dsimp only [plF] at c0 c1 c2 c3 c4 c5 c6
      have e1 : n - 1 - (n - (k + 1)) = k := by omega
      have e2 : n - (k + 1) + 1 = n - k := by omega
      obtain ⟨fn, tmps, assign, body, hy, hR⟩ := HY.out (n - (k + 1)) (encQ I X R AA CC H k (Bd k) (Lb k)) wr hJ ⟨by omega, Bd k, Lb k, by rw [e1], by rw [e1]; exact c3, by rw [e1]; exact c4⟩ (by omega)
      rw [e2] at hR
      unfold encQ at hy
      clear hpp hJ e1 e2
      gi_wp2
      refine hR.mono ?_
      rintro e W3 ⟨rfl, hJ3⟩
      have hb3 := (HT.out _ _ hJ3).1
      gi_wp2
      go_roundw
      case rel => exact ⟨k, by omega, by first | rfl | rw [wk], hJ3⟩
      case measure => first | (simp [intOf]; done) | (simp [intOf]; omega)

/-- What holds between two rounds. -/
structure BSC (Cx : (Nat → Bool) → (Nat → ByteArray) → Prop) (w W : World) (g n c : Nat) (I : Nat → Int) (X R : Nat → ByteArray) (AA : Nat → Option Addr) (CC : Nat → Nat) (H : Nat → Int) : Prop where
  pl : CxPl Cx W g n I X R AA CC H
  gr : w.grownBy W (some g)
  b0 : W.heap[w.heap.size]? = some (.cells #[.slice (some ⟨g, 0, none⟩) n c] 65 (0, 0))
  b1 : W.heap[w.heap.size + 1]? = some (.cells #[.slice (some ⟨g, 0, none⟩) n c] 65 (0, 0))
section
variable {Cx Cy : (Nat → Bool) → (Nat → ByteArray) → Prop} {w W W' : World} {g n c B : Nat} {I : Nat → Int} {X R : Nat → ByteArray} {AA : Nat → Option Addr} {CC : Nat → Nat} {H : Nat → Int} {row : Option Nat}
theorem CxPl.kept (h : CxPl Cx W g n I X R AA CC H) (hg : W.grownBy W' row) (hr : ∀ r, row = some r → ∃ o : Obj, W.heap[r]? = some o ∧ o.isCells = false) : CxPl Cx W' g n I X R AA CC H := by
  obtain ⟨Bd, Lb, hC, cur, hh, h1, h2⟩ := h
  exact ⟨Bd, Lb, hC, cur, blk_kept hh hg hr, h1, h2⟩
theorem CxPl.any (h : CxPl Cx W g n I X R AA CC H) : AnyPl W g n I X R AA CC H := by
  obtain ⟨Bd, Lb, _, hp⟩ := h
  exact ⟨Bd, Lb, hp⟩
theorem BSC.kept (h : BSC Cx w W g n c I X R AA CC H) (hg : W.grownBy W' row) (hr : ∀ r, row = some r → B ≤ r ∧ ∃ o : Obj, W.heap[r]? = some o ∧ o.isCells = false) (hB : w.heap.size ≤ B) : BSC Cx w W' g n c I X R AA CC H :=
  ⟨h.pl.kept hg (fun r e => (hr r e).2), grown_more h.gr hg (fun r e => (hr r e).1) hB, blk_kept h.b0 hg (fun r e => (hr r e).2), blk_kept h.b1 hg (fun r e => (hr r e).2)⟩
theorem BSC.alloc (h : BSC Cx w W g n c I X R AA CC H) (o : Obj) : BSC Cx w (W.alloc o) g n c I X R AA CC H :=
  h.kept (B := w.heap.size) (World.grownBy_alloc W o none) (fun r e => by cases e) (Nat.le_refl _)
theorem BSC.to (h : BSC Cx w W g n c I X R AA CC H) (e : ∀ Bd Lb, Cx Bd Lb → PlAt W g n (plF I X R AA CC Bd Lb H) → Cy Bd Lb) : BSC Cy w W g n c I X R AA CC H := by
  obtain ⟨⟨Bd, Lb, hC, hp⟩, h2, h3, h4⟩ := h
  exact ⟨⟨Bd, Lb, e Bd Lb hC hp, hp⟩, h2, h3, h4⟩
/-- A context set. -/
theorem BSC.set (h : BSC Cx w W g n c I X R AA CC H) (hg : g < w.heap.size) (x : Nat) (b : Bool) (l : ByteArray) (e : ∀ Bd Lb, Cx Bd Lb → Cy (fun i => if i = x then b else Bd i) (fun i => if i = x then l else Lb i)) : BSC Cy w ((W.setCell ⟨g, x * 7 + 3, none⟩ (.bool b)).setCell ⟨g, x * 7 + 4, none⟩ (.string l)) g n c I X R AA CC H := by
  obtain ⟨Bd, Lb, hC, hp⟩ := h.pl
  refine ⟨⟨_, _, e _ _ hC, plF_setC hp⟩, grown_set (grown_set h.gr _ _) _ _, ?_, ?_⟩
  · rw [Below.heap_setCell _ _ _ _ (by show w.heap.size ≠ g; omega), Below.heap_setCell _ _ _ _ (by show w.heap.size ≠ g; omega)]; exact h.b0
  · rw [Below.heap_setCell _ _ _ _ (by show w.heap.size + 1 ≠ g; omega), Below.heap_setCell _ _ _ _ (by show w.heap.size + 1 ≠ g; omega)]; exact h.b1
end

set_option maxHeartbeats 8000000 in
theorem bindC_in (F : Fence) (nn : Nat) (h3 : F.fn 83) (h4 : F.fn 125) (h5 : F.fn 143) (hro : F.round = none) (hnn : 6 ≤ nn)
    (g n c B : Nat) (I : Nat → Int) (X R : Nat → ByteArray) (AA : Nat → Option Addr) (CC : Nat → Nat) (H : Nat → Int) (w : World)
    (hP : PlAt w g n (plF I X R AA CC (fun _ => false) (fun _ => { data := #[] }) H)) (hO : ∀ i, i < n → OwnI w B (AA i) (arOf (I i)) (fun j => (opf (arI I) i j : Int))) (hcap : ∀ i, i < n → arOf (I i) ≤ CC i ∧ CC i ≤ 9223372036854775807) (hok : StackOk (arI I) n) (hn : n ≤ 100) (hn0 : 0 < n) :
    CallsIn F nn Try.prog 83 #[.slice (some ⟨g, 0, none⟩) n c] w fun e w' => e = .returned (.tuple #[]) ∧ CxPl (CtxK n I X 0) w' g n I X R AA CC H ∧ w.grownBy w' (some g) := by
  have h1 : 1 ≤ nn := by omega
  have hgl : g < w.heap.size := hP.lt
  have HO : Hid (∀ W : World, w.grownBy W (some g) → ∀ i, i < n → Rd .i64 W (AA i) (arOf (I i)) (fun j => (opf (arI I) i j : Int))) := fun W hW i hi => ((hO i hi).grownP hP hW).rd
  have HCP : Hid (∀ i, i < n → arOf (I i) ≤ CC i ∧ CC i ≤ 9223372036854775807) := hcap
  have HOK : Hid (StackOk (arI I) n) := hok
  have HP : Hid (CxPl (CtxK n I X n) w g n I X R AA CC H) := ⟨_, _, ⟨rfl, rfl, fun i h1 h2 => absurd h1 (by omega)⟩, hP⟩
  clear hP hO hcap hok
  refine callsIn_of_wp_marks Try.func83 rfl h3 ?_ hro
  simp only [Try.ntmps83, List.size_toArray, List.length_cons, List.length_nil, Nat.reduceAdd, Nat.reduceSub, Array.replicate_succ, Array.replicate_zero, List.push_toArray, List.append_toArray, List.nil_append, List.cons_append]
  gi_wp2_with (gi_at_call 125; refine (bw_in F (nn - 1) h4 hro _ _ _ _ rfl _).mono ?_; rintro e w' ⟨rfl, rfl⟩)
  have HS0 : Hid (BSC (CtxK n I X n) w ((w.alloc (.cells #[.slice (some ⟨g, 0, none⟩) n c] 65)).alloc (.cells #[.slice (some ⟨g, 0, none⟩) n c] 65)) g n c I X R AA CC H ∧ ((w.alloc (.cells #[.slice (some ⟨g, 0, none⟩) n c] 65)).alloc (.cells #[.slice (some ⟨g, 0, none⟩) n c] 65)).heap.size = w.heap.size + 2) := by
    refine ⟨⟨?_, ?_, ?_, ?_⟩, by simp⟩
    · exact (HP.out.kept (World.grownBy_alloc _ _ none) (fun r e => by cases e)).kept (World.grownBy_alloc _ _ none) (fun r e => by cases e)
    · exact grown_more (B := w.heap.size) (grown_more (B := w.heap.size) ⟨rfl, rfl, rfl, Nat.le_refl _, fun _ _ _ => rfl⟩ (World.grownBy_alloc _ _ none) (fun r e => by cases e) (Nat.le_refl _)) (World.grownBy_alloc _ _ none) (fun r e => by cases e) (Nat.le_refl _)
    · exact (Below.heap_alloc _ _ _ (by simp)).trans (World.alloc_heap_new w _)
    · have := World.alloc_heap_new (w.alloc (.cells #[.slice (some ⟨g, 0, none⟩) n c] 65)) (.cells #[.slice (some ⟨g, 0, none⟩) n c] 65)
      rwa [World.size_alloc] at this
  generalize ((w.alloc (.cells #[.slice (some ⟨g, 0, none⟩) n c] 65)).alloc (.cells #[.slice (some ⟨g, 0, none⟩) n c] 65)) = W0 at HS0 ⊢
  have hsz := HS0.out.2
  refine rangeT hro h1 (gf := 143) (lb := #[.pointer (some ⟨w.heap.size + 1, 0, none⟩)]) rfl h5 (enters_of Try.func143 (by kernel_rfl) rfl)
    n (VQ g n I X R AA CC H) (fun k v W h => by obtain ⟨_, b, l, rfl, _⟩ := h; rfl) (fun k W => BSC (CtxK n I X (n - k)) w W g n c I X R AA CC H) (fun k A B row hs hg hr => hs.kept hg hr (by omega)) (by rw [Nat.sub_zero]; exact HS0.out.1)
    (fun l K W _ hKJ hY h0 => bwT_in F (nn - 1) h5 hro (by omega) l (w.heap.size + 1) g n c I X R AA CC H hn K (fun k W hk => ⟨by simp [World.cell?, (hKJ k W hk).b1], (hKJ k W hk).pl.any⟩) hY W h0)
    (fun k v a' W => k < n ∧ ∃ b lb Bx, (W.cell? ⟨g, (n - 1 - k) * 7 + 3, none⟩ = some (.bool b) ∧ W.cell? ⟨g, (n - 1 - k) * 7 + 4, none⟩ = some (.string lb)) ∧ w.heap.size + 2 ≤ Bx ∧ W.heap[Bx]? = some (.cells #[.int .i64 (I (n - 1 - k)), .string (X (n - 1 - k)), .string (R (n - 1 - k)), .bool b, .string lb, .slice (AA (n - 1 - k)) (arOf (I (n - 1 - k))) (CC (n - 1 - k)), .int .i64 (H (n - 1 - k))] 73 (0, 0)) ∧ a' = { tmps := #[.slice (some ⟨g, 0, none⟩) n c, .pointer (some ⟨w.heap.size, 0, none⟩), undef, .pointer (some ⟨Bx, 0, none⟩), undef, undef, undef, .slice (some ⟨g, 0, none⟩) n c, .func (.func 143) #[] #[.pointer (some ⟨w.heap.size + 1, 0, none⟩)], .int .i64 ((n - 1 - k : Nat) : Int), .agg #[.int .i64 (I (n - 1 - k)), .string (X (n - 1 - k)), .string (R (n - 1 - k)), .bool b, .string lb, .slice (AA (n - 1 - k)) (arOf (I (n - 1 - k))) (CC (n - 1 - k)), .int .i64 (H (n - 1 - k))], undef, undef, undef, undef, undef, undef, undef, undef, undef, undef, undef, undef, undef, undef, undef, undef, undef, undef, undef, undef, undef, undef, undef], defers := [] })
    (fun k v a' _ A B row hs hg hr => by obtain ⟨hk, b, lb, Bx, ⟨c3, c4⟩, h1, h2, h3⟩ := hs; exact ⟨hk, b, lb, Bx, ⟨cell_kept c3 hg (fun r e => (hr r e).2), cell_kept c4 hg (fun r e => (hr r e).2)⟩, h1, blk_kept h2 hg (fun r e => (hr r e).2), h3⟩)
    ?assign ?body ?done
  case assign =>
    rintro l k v W K hs ⟨hk, b, lb, rfl, c3, c4⟩ _ hK
    have HS : Hid (BSC (CtxK n I X (n - k)) w W g n c I X R AA CC H ∧ W.cell? ⟨g, (n - 1 - k) * 7 + 3, none⟩ = some (.bool b) ∧ W.cell? ⟨g, (n - 1 - k) * 7 + 4, none⟩ = some (.string lb)) := ⟨hs, c3, c4⟩
    clear hs c3 c4
    dsimp only [encQ]
    gi_wp2
    have z := HS.out.1.gr.size
    have zz := (Array.getElem?_eq_some_iff.1 HS.out.1.b1).1
    exact hK _ _ ((KeepsOthers.alloc _ _).from _) (HS.out.1.alloc _) ⟨hk, b, lb, W.heap.size, ⟨cell_kept HS.out.2.1 (World.grownBy_alloc W _ none) (fun r e => by cases e), cell_kept HS.out.2.2 (World.grownBy_alloc W _ none) (fun r e => by cases e)⟩, by omega, World.alloc_heap_new W _, rfl⟩
  case body =>
    rintro l k v a' W hl hs ⟨hk, b, lb, Bx, ⟨hc3, hc4⟩, hBx, bX, rfl⟩ _
    obtain ⟨i, hik⟩ : ∃ i, i = n - 1 - k := ⟨_, rfl⟩
    rw [← hik] at hc3 hc4 bX ⊢
    have hi : i < n := by omega
    have hk1 : k + i + 1 ≤ n := by omega
    have hk2 : n ≤ k + i + 1 := by omega
    clear hik
    have HS : Hid (BSC (CtxQ n I X i b lb 0) w W g n c I X R AA CC H) := hs.to (fun Bd Lb hC hp => by
      obtain ⟨_, _, _, d3, d4, _, _⟩ := hp.seven (i := i) hi
      dsimp only [plF] at d3 d4
      rw [d3] at hc3
      rw [d4] at hc4
      injection hc3 with hc3
      injection hc3 with hc3
      injection hc4 with hc4
      injection hc4 with hc4
      refine ⟨?_, ⟨hc3, hc4⟩, fun j hj => absurd hj (Nat.not_lt_zero _)⟩
      rw [show i + 1 = n - k by omega]
      exact hC)
    have hzW := (Array.getElem?_eq_some_iff.1 hs.b1).1
    have hle := arOf_le (I i)
    have hbl := (Array.getElem?_eq_some_iff.1 bX).1
    have c0 : W.cell? ⟨Bx, 0, none⟩ = some (.int .i64 (I i)) := by simp [World.cell?, bX]
    have c1 : W.cell? ⟨Bx, 1, none⟩ = some (.string (X i)) := by simp [World.cell?, bX]
    have c3 : W.cell? ⟨Bx, 3, none⟩ = some (.bool b) := by simp [World.cell?, bX]
    have c4 : W.cell? ⟨Bx, 4, none⟩ = some (.string lb) := by simp [World.cell?, bX]
    have c5 : W.cell? ⟨Bx, 5, none⟩ = some (.slice (AA i) (arOf (I i)) (CC i)) := by simp [World.cell?, bX]
    have hne : ¬ (Bx = W.heap.size) := by omega
    dsimp only
    clear hs bX hc3 hc4
    obtain ⟨m, hm⟩ : ∃ m, arOf (I i) = m := ⟨_, rfl⟩
    have HM : Hid (arOf (I i) = m) := hm
    rw [hm] at hle c5 ⊢
    clear hm
    by_cases h9 : I i = 9
    · have i9 : (I i == 9) = true := by simp [h9]
      have S1 : Hid (BSC (CtxQ n I X i b lb 0) w (W.alloc (.cells #[.bool true, .string (X i)] 70)) g n c I X R AA CC H ∧ KeepsOthers W (W.alloc (.cells #[.bool true, .string (X i)] 70)) ∧ (W.alloc (.cells #[.bool true, .string (X i)] 70)).heap[W.heap.size]? = some (.cells #[.bool true, .string (X i)] 70 (0, 0))) := ⟨HS.out.alloc _, KeepsOthers.alloc _ _, World.alloc_heap_new W _⟩
      gi_wp2
      gi_loopw [24] (fun j wr => ∃ q : Nat, q ≤ m ∧ j = .int .i64 q ∧ BSC (CtxQ n I X i b lb q) w wr g n c I X R AA CC H ∧ KeepsOthers W wr ∧ wr.heap[W.heap.size]? = some (.cells #[.bool true, .string (X i)] 70 (0, 0))) (fun j _ => m - (intOf j).toNat)
      case atStart => exact ⟨0, Nat.zero_le _, rfl, S1.out.1, S1.out.2.1, S1.out.2.2⟩
      case round =>
        obtain ⟨q, hq, rfl, hs2, hko, hcx⟩ := hrel
        have S2 : Hid (BSC (CtxQ n I X i b lb q) w wr g n c I X R AA CC H ∧ KeepsOthers W wr ∧ wr.heap[W.heap.size]? = some (.cells #[.bool true, .string (X i)] 70 (0, 0))) := ⟨hs2, hko, hcx⟩
        have x0 : wr.cell? ⟨w.heap.size, 0, none⟩ = some (.slice (some ⟨g, 0, none⟩) n c) := by simp [World.cell?, hs2.b0]
        have y0 : wr.cell? ⟨W.heap.size, 0, none⟩ = some (.bool true) := by simp [World.cell?, hcx]
        have y1 : wr.cell? ⟨W.heap.size, 1, none⟩ = some (.string (X i)) := by simp [World.cell?, hcx]
        clear hs2 hko hcx
        by_cases hql : q < m
        · have iq : (q : Int) < ((m : Nat) : Int) := by omega
          have iq0 : (0 : Int) ≤ (q : Int) := by omega
          have hql2 : q < arOf (I i) := by rw [HM.out]; exact hql
          have hxl := opf_lt HOK.out hi (arI_le I i) (j := q) hql2
          obtain ⟨gb, go, hA, hcx⟩ : ∃ gb go, AA i = some ⟨gb, go, none⟩ ∧ wr.cell? ⟨gb, go + q, none⟩ = some (.int .i64 ((opf (arI I) i q : Nat) : Int)) := by
            rcases HO.out wr S2.out.1.gr i hi with h | ⟨gb, go, e, hc⟩
            · rw [HM.out] at h; omega
            · exact ⟨gb, go, e, hc q hql2⟩
          rw [hA]
          have S3 : Hid (BSC (CtxQ n I X i b lb (q + 1)) w ((wr.setCell ⟨g, opf (arI I) i q * 7 + 3, none⟩ (.bool true)).setCell ⟨g, opf (arI I) i q * 7 + 4, none⟩ (.string (X i))) g n c I X R AA CC H ∧ KeepsOthers W ((wr.setCell ⟨g, opf (arI I) i q * 7 + 3, none⟩ (.bool true)).setCell ⟨g, opf (arI I) i q * 7 + 4, none⟩ (.string (X i))) ∧ ((wr.setCell ⟨g, opf (arI I) i q * 7 + 3, none⟩ (.bool true)).setCell ⟨g, opf (arI I) i q * 7 + 4, none⟩ (.string (X i))).heap[W.heap.size]? = some (.cells #[.bool true, .string (X i)] 70 (0, 0))) := by
            refine ⟨S2.out.1.set hgl _ _ _ (fun Bd Lb h => ?_), (S2.out.2.1.trans (KeepsOthers.setCell _ _ _)).trans (KeepsOthers.setCell _ _ _), ?_⟩
            · have q9 := h.step HOK.out hi hql2
              have eB : dnB (I i) b = true := by unfold dnB; simp [h9]
              have eG : dnG (I i) (X i) lb = (X i) := by unfold dnG; simp [h9]
              rw [eB, eG] at q9
              exact q9
            · rw [Below.heap_setCell _ _ _ _ (by show W.heap.size ≠ g; omega), Below.heap_setCell _ _ _ _ (by show W.heap.size ≠ g; omega)]
              exact S2.out.2.2
          generalize opf (arI I) i q = x at hxl hcx S3
          have ix : (x : Int) < (n : Int) := by omega
          have ix0 : (0 : Int) ≤ (x : Int) := by omega
          obtain ⟨f3, f4, d3, d4⟩ : wr.frozen? ⟨g, x * 7 + 3, none⟩ = false ∧ wr.frozen? ⟨g, x * 7 + 4, none⟩ = false ∧ (∃ v, wr.cell? ⟨g, x * 7 + 3, none⟩ = some v) ∧ (∃ v, wr.cell? ⟨g, x * 7 + 4, none⟩ = some v) := by
            obtain ⟨Bd, Lb, hp⟩ := S2.out.1.pl.any
            obtain ⟨_, _, _, d3, d4, _, _⟩ := hp.seven (i := x) (by omega)
            exact ⟨hp.frozen _, hp.frozen _, ⟨_, d3⟩, ⟨_, d4⟩⟩
          obtain ⟨v3, d3⟩ := d3
          obtain ⟨v4, d4⟩ := d4
          gi_wp2
          go_roundw
          case rel => exact ⟨q + 1, by omega, by go_num, S3.out⟩
          case measure => simp [intOf]; omega
        · have e : q = m := by omega
          subst e
          have S4 : Hid (KeepsFrom W0.heap.size W wr ∧ BSC (CtxK n I X (n - (k + 1))) w wr g n c I X R AA CC H) := ⟨S2.out.2.1.from _, S2.out.1.to (fun Bd Lb h _ => by rw [show n - (k + 1) = i by omega]; rw [← HM.out] at h; exact h.done)⟩
          gi_wp2
          exact S4.out
    · have i9 : (I i == 9) = false := by simp [h9]
      have S1 : Hid (BSC (CtxQ n I X i b lb 0) w (W.alloc (.cells #[.bool b, .string lb] 70)) g n c I X R AA CC H ∧ KeepsOthers W (W.alloc (.cells #[.bool b, .string lb] 70)) ∧ (W.alloc (.cells #[.bool b, .string lb] 70)).heap[W.heap.size]? = some (.cells #[.bool b, .string lb] 70 (0, 0))) := ⟨HS.out.alloc _, KeepsOthers.alloc _ _, World.alloc_heap_new W _⟩
      gi_wp2
      gi_loopw [24] (fun j wr => ∃ q : Nat, q ≤ m ∧ j = .int .i64 q ∧ BSC (CtxQ n I X i b lb q) w wr g n c I X R AA CC H ∧ KeepsOthers W wr ∧ wr.heap[W.heap.size]? = some (.cells #[.bool b, .string lb] 70 (0, 0))) (fun j _ => m - (intOf j).toNat)
      case atStart => exact ⟨0, Nat.zero_le _, rfl, S1.out.1, S1.out.2.1, S1.out.2.2⟩
      case round =>
        obtain ⟨q, hq, rfl, hs2, hko, hcx⟩ := hrel
        have S2 : Hid (BSC (CtxQ n I X i b lb q) w wr g n c I X R AA CC H ∧ KeepsOthers W wr ∧ wr.heap[W.heap.size]? = some (.cells #[.bool b, .string lb] 70 (0, 0))) := ⟨hs2, hko, hcx⟩
        have x0 : wr.cell? ⟨w.heap.size, 0, none⟩ = some (.slice (some ⟨g, 0, none⟩) n c) := by simp [World.cell?, hs2.b0]
        have y0 : wr.cell? ⟨W.heap.size, 0, none⟩ = some (.bool b) := by simp [World.cell?, hcx]
        have y1 : wr.cell? ⟨W.heap.size, 1, none⟩ = some (.string lb) := by simp [World.cell?, hcx]
        clear hs2 hko hcx
        by_cases hql : q < m
        · have iq : (q : Int) < ((m : Nat) : Int) := by omega
          have iq0 : (0 : Int) ≤ (q : Int) := by omega
          have hql2 : q < arOf (I i) := by rw [HM.out]; exact hql
          have hxl := opf_lt HOK.out hi (arI_le I i) (j := q) hql2
          obtain ⟨gb, go, hA, hcx⟩ : ∃ gb go, AA i = some ⟨gb, go, none⟩ ∧ wr.cell? ⟨gb, go + q, none⟩ = some (.int .i64 ((opf (arI I) i q : Nat) : Int)) := by
            rcases HO.out wr S2.out.1.gr i hi with h | ⟨gb, go, e, hc⟩
            · rw [HM.out] at h; omega
            · exact ⟨gb, go, e, hc q hql2⟩
          rw [hA]
          have S3 : Hid (BSC (CtxQ n I X i b lb (q + 1)) w ((wr.setCell ⟨g, opf (arI I) i q * 7 + 3, none⟩ (.bool b)).setCell ⟨g, opf (arI I) i q * 7 + 4, none⟩ (.string lb)) g n c I X R AA CC H ∧ KeepsOthers W ((wr.setCell ⟨g, opf (arI I) i q * 7 + 3, none⟩ (.bool b)).setCell ⟨g, opf (arI I) i q * 7 + 4, none⟩ (.string lb)) ∧ ((wr.setCell ⟨g, opf (arI I) i q * 7 + 3, none⟩ (.bool b)).setCell ⟨g, opf (arI I) i q * 7 + 4, none⟩ (.string lb)).heap[W.heap.size]? = some (.cells #[.bool b, .string lb] 70 (0, 0))) := by
            refine ⟨S2.out.1.set hgl _ _ _ (fun Bd Lb h => ?_), (S2.out.2.1.trans (KeepsOthers.setCell _ _ _)).trans (KeepsOthers.setCell _ _ _), ?_⟩
            · have q9 := h.step HOK.out hi hql2
              have eB : dnB (I i) b = b := by unfold dnB; simp [h9]
              have eG : dnG (I i) (X i) lb = lb := by unfold dnG; simp [h9]
              rw [eB, eG] at q9
              exact q9
            · rw [Below.heap_setCell _ _ _ _ (by show W.heap.size ≠ g; omega), Below.heap_setCell _ _ _ _ (by show W.heap.size ≠ g; omega)]
              exact S2.out.2.2
          generalize opf (arI I) i q = x at hxl hcx S3
          have ix : (x : Int) < (n : Int) := by omega
          have ix0 : (0 : Int) ≤ (x : Int) := by omega
          obtain ⟨f3, f4, d3, d4⟩ : wr.frozen? ⟨g, x * 7 + 3, none⟩ = false ∧ wr.frozen? ⟨g, x * 7 + 4, none⟩ = false ∧ (∃ v, wr.cell? ⟨g, x * 7 + 3, none⟩ = some v) ∧ (∃ v, wr.cell? ⟨g, x * 7 + 4, none⟩ = some v) := by
            obtain ⟨Bd, Lb, hp⟩ := S2.out.1.pl.any
            obtain ⟨_, _, _, d3, d4, _, _⟩ := hp.seven (i := x) (by omega)
            exact ⟨hp.frozen _, hp.frozen _, ⟨_, d3⟩, ⟨_, d4⟩⟩
          obtain ⟨v3, d3⟩ := d3
          obtain ⟨v4, d4⟩ := d4
          gi_wp2
          go_roundw
          case rel => exact ⟨q + 1, by omega, by go_num, S3.out⟩
          case measure => simp [intOf]; omega
        · have e : q = m := by omega
          subst e
          have S4 : Hid (KeepsFrom W0.heap.size W wr ∧ BSC (CtxK n I X (n - (k + 1))) w wr g n c I X R AA CC H) := ⟨S2.out.2.1.from _, S2.out.1.to (fun Bd Lb h _ => by rw [show n - (k + 1) = i by omega]; rw [← HM.out] at h; exact h.done)⟩
          gi_wp2
          exact S4.out
  case done =>
    rintro D W hD hs hK
    rw [Nat.sub_self] at hs
    gi_wp2
    refine ⟨by simp, .inl ⟨_, _, rfl, run_takeDeferred hK, ?_⟩⟩
    have hq := hs.kept (grownBy_putObj' W D (.deferred none)) (fun r e => by cases e; exact ⟨hD, _, hK, rfl⟩) (by omega)
    exact ⟨_, results_none rfl _ _ _, rfl, hq.pl, hq.gr⟩
/-- The contexts of a path. -/
def CtxC (n : Nat) (I : Nat → Int) (X : Nat → ByteArray) (Bd : Nat → Bool) (Lb : Nat → ByteArray) : Prop := CtxK n I X 0 Bd Lb
theorem bind_ctx : BindOk CtxC := by
  intro g n c B I X R AA CC H w hP hO hcap hok hn hn0 hB
  refine (callsIn_wide.1 (bindC_in Fence.wide 6 trivial trivial trivial rfl (by omega) g n c B I X R AA CC H w hP hO hcap hok hn hn0)).mono ?_
  rintro e w' ⟨he, ⟨Bd, Lb, hC, hp⟩, hg⟩
  exact ⟨he, Bd, Lb, hC, hp, hg⟩
theorem readPath_c (a : Option Addr) (n c : Nat) (I : Nat → Int) (X R : Nat → ByteArray) (w : World) (h : RdN w a n I X R) (hn : n ≤ 1048576) (hc : n ≤ c) (hcm : c ≤ 9223372036854775807) :
    Calls Try.prog 44 #[.agg #[.slice a n c]] w (PathRet (CtxC n I X) w n I X R) := readPath_any CtxC measure_any bind_ctx last_any a n c I X R w h hn hc hcm
end Go.Proofs.Ytocmbnocdjnfpaa
