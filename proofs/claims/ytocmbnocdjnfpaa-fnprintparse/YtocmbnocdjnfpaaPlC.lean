import Derived.Test.YtocmbnocdjnfpaaPlB
namespace Go.Proofs.Ytocmbnocdjnfpaa
open Go.RowKit Go.Deep Go.Shelf
set_option linter.unusedVariables false
set_option maxRecDepth 100000
attribute [local go_sem] Oper.semAt_some

theorem plF_setC {I : Nat → Int} {X R : Nat → ByteArray} {AA : Nat → Option Addr} {CC : Nat → Nat} {Bd : Nat → Bool} {Lb : Nat → ByteArray} {H : Nat → Int} {x : Nat} {b : Bool} {l : ByteArray} {w : World} {g n : Nat}
    (h : PlAt w g n (plF I X R AA CC Bd Lb H)) : PlAt ((w.setCell ⟨g, x * 7 + 3, none⟩ (.bool b)).setCell ⟨g, x * 7 + 4, none⟩ (.string l)) g n (plF I X R AA CC (fun i => if i = x then b else Bd i) (fun i => if i = x then l else Lb i) H) := by
  have h1 : PlAt (w.setCell ⟨g, x * 7 + 3, none⟩ (.bool b)) g n (plF I X R AA CC (fun i => if i = x then b else Bd i) Lb H) := by
    refine h.set x 3 _ (by decide) (fun j hj => ?_) ?_
    · unfold plF; simp only [if_neg hj]
    · unfold plF; simp [Plc.cells]
  refine h1.set x 4 _ (by decide) (fun j hj => ?_) ?_
  · unfold plF; simp only [if_neg hj]
  · unfold plF; simp [Plc.cells]

section
variable {g n Bs : Nat} {I : Nat → Int} {X R : Nat → ByteArray} {AA : Nat → Option Addr} {CC : Nat → Nat} {H : Nat → Int} {w W W' : World} {row : Option Nat}

theorem blk_kept {k : Nat} {cs : Array Value} {t : TypeId} (h : W.heap[k]? = some (.cells cs t (0, 0))) (hg : W.grownBy W' row) (hr : ∀ r, row = some r → ∃ o : Obj, W.heap[r]? = some o ∧ o.isCells = false) : W'.heap[k]? = some (.cells cs t (0, 0)) := by
  refine (hg.block k (Array.getElem?_eq_some_iff.1 h).1 (fun e => ?_)).trans h
  obtain ⟨o, ho, hc⟩ := hr k e.symm
  rw [h] at ho
  injection ho with ho
  subst ho
  cases hc
theorem AnyPl.kept (h : AnyPl W g n I X R AA CC H) (hg : W.grownBy W' row) (hr : ∀ r, row = some r → ∃ o : Obj, W.heap[r]? = some o ∧ o.isCells = false) : AnyPl W' g n I X R AA CC H := by
  obtain ⟨Bd, Lb, cur, hh, h1, h2⟩ := h
  exact ⟨Bd, Lb, cur, blk_kept hh hg hr, h1, h2⟩
theorem kpB_of (hg : W.grownBy W' row) (hr : ∀ r, row = some r → ∃ o : Obj, W.heap[r]? = some o ∧ o.isCells = false) : KpB Bs g n I X R AA CC H W W' :=
  ⟨fun v hv => cell_kept hv hg hr, fun h => h.kept hg hr⟩
theorem KpB.refl (W : World) : KpB Bs g n I X R AA CC H W W := ⟨fun _ h => h, fun h => h⟩
theorem KpB.trans {A B C : World} (h : KpB Bs g n I X R AA CC H A B) (k : KpB Bs g n I X R AA CC H B C) : KpB Bs g n I X R AA CC H A C := ⟨fun v hv => k.1 v (h.1 v hv), fun q => k.2 (h.2 q)⟩
theorem kpB_alloc (W : World) (o : Obj) : KpB Bs g n I X R AA CC H W (W.alloc o) := kpB_of (World.grownBy_alloc W o none) (fun r e => by cases e)
theorem grown_more {w W W' : World} {row : Option Nat} {g B : Nat} (h : w.grownBy W (some g)) (hg : W.grownBy W' row) (hr : ∀ r, row = some r → B ≤ r) (hB : w.heap.size ≤ B) : w.grownBy W' (some g) :=
  ⟨hg.os.trans h.os, hg.tape.trans h.tape, hg.output.trans h.output, Nat.le_trans h.size hg.size, fun k hk hne => by
    rw [← h.block k hk hne]
    exact hg.block k (Nat.lt_of_lt_of_le hk h.size) (fun e => by have := hr k e.symm; omega)⟩
end

/-- What holds between two rounds. -/
structure BSt (w W : World) (g n c : Nat) (I : Nat → Int) (X R : Nat → ByteArray) (AA : Nat → Option Addr) (CC : Nat → Nat) (H : Nat → Int) : Prop where
  pl : AnyPl W g n I X R AA CC H
  gr : w.grownBy W (some g)
  b0 : W.heap[w.heap.size]? = some (.cells #[.slice (some ⟨g, 0, none⟩) n c] 65 (0, 0))
  b1 : W.heap[w.heap.size + 1]? = some (.cells #[.slice (some ⟨g, 0, none⟩) n c] 65 (0, 0))

section
variable {w W W' : World} {g n c B : Nat} {I : Nat → Int} {X R : Nat → ByteArray} {AA : Nat → Option Addr} {CC : Nat → Nat} {H : Nat → Int} {row : Option Nat}
theorem BSt.kept (h : BSt w W g n c I X R AA CC H) (hg : W.grownBy W' row) (hr : ∀ r, row = some r → B ≤ r ∧ ∃ o : Obj, W.heap[r]? = some o ∧ o.isCells = false) (hB : w.heap.size ≤ B) : BSt w W' g n c I X R AA CC H :=
  ⟨h.pl.kept hg (fun r e => (hr r e).2), grown_more h.gr hg (fun r e => (hr r e).1) hB, blk_kept h.b0 hg (fun r e => (hr r e).2), blk_kept h.b1 hg (fun r e => (hr r e).2)⟩
theorem BSt.alloc (h : BSt w W g n c I X R AA CC H) (o : Obj) : BSt w (W.alloc o) g n c I X R AA CC H :=
  h.kept (B := w.heap.size) (World.grownBy_alloc W o none) (fun r e => by cases e) (Nat.le_refl _)
/-- A context set. -/
theorem BSt.set (h : BSt w W g n c I X R AA CC H) (hg : g < w.heap.size) (x : Nat) (b : Bool) (l : ByteArray) : BSt w ((W.setCell ⟨g, x * 7 + 3, none⟩ (.bool b)).setCell ⟨g, x * 7 + 4, none⟩ (.string l)) g n c I X R AA CC H := by
  obtain ⟨Bd, Lb, hp⟩ := h.pl
  refine ⟨⟨_, _, plF_setC hp⟩, grown_set (grown_set h.gr _ _) _ _, ?_, ?_⟩
  · rw [Below.heap_setCell _ _ _ _ (by show w.heap.size ≠ g; omega), Below.heap_setCell _ _ _ _ (by show w.heap.size ≠ g; omega)]; exact h.b0
  · rw [Below.heap_setCell _ _ _ _ (by show w.heap.size + 1 ≠ g; omega), Below.heap_setCell _ _ _ _ (by show w.heap.size + 1 ≠ g; omega)]; exact h.b1
/-- A box of the round's own set. -/
theorem BSt.other (h : BSt w W g n c I X R AA CC H) {p : Addr} (hp : w.heap.size + 2 ≤ p.block) (hg : g < w.heap.size) (v : Value) : BSt w (W.setCell p v) g n c I X R AA CC H := by
  obtain ⟨Bd, Lb, hq⟩ := h.pl
  refine ⟨⟨_, _, hq.other (by omega) v⟩, ⟨h.gr.os, h.gr.tape, h.gr.output, by have := h.gr.size; simpa [World.setCell] using this, fun k hk hne => by rw [← h.gr.block k hk hne]; exact Below.heap_setCell _ _ _ _ (by omega)⟩, ?_, ?_⟩
  · rw [Below.heap_setCell _ _ _ _ (by omega)]; exact h.b0
  · rw [Below.heap_setCell _ _ _ _ (by omega)]; exact h.b1
theorem BSt.kp (h : BSt w W g n c I X R AA CC H) (h' : BSt w W' g n c I X R AA CC H) : KpB (w.heap.size + 1) g n I X R AA CC H W W' := by
  refine ⟨fun v hv => ?_, fun _ => h'.pl⟩
  have e1 : W.cell? ⟨w.heap.size + 1, 0, none⟩ = some (.slice (some ⟨g, 0, none⟩) n c) := by simp [World.cell?, h.b1]
  have e2 : W'.cell? ⟨w.heap.size + 1, 0, none⟩ = some (.slice (some ⟨g, 0, none⟩) n c) := by simp [World.cell?, h'.b1]
  rw [e2, ← e1]
  exact hv
end

set_option maxHeartbeats 8000000 in
theorem bind_in (F : Fence) (nn : Nat) (h3 : F.fn 83) (h4 : F.fn 125) (h5 : F.fn 143) (hro : F.round = none) (hnn : 6 ≤ nn)
    (g n c B : Nat) (I : Nat → Int) (X R : Nat → ByteArray) (AA : Nat → Option Addr) (CC : Nat → Nat) (H : Nat → Int) (w : World)
    (hP : AnyPl w g n I X R AA CC H) (hO : ∀ i, i < n → OwnI w B (AA i) (arOf (I i)) (fun j => (opf (arI I) i j : Int))) (hcap : ∀ i, i < n → arOf (I i) ≤ CC i ∧ CC i ≤ 9223372036854775807) (hok : StackOk (arI I) n) (hn : n ≤ 100) (hn0 : 0 < n) :
    CallsIn F nn Try.prog 83 #[.slice (some ⟨g, 0, none⟩) n c] w fun e w' => e = .returned (.tuple #[]) ∧ AnyPl w' g n I X R AA CC H ∧ w.grownBy w' (some g) := by
  have h1 : 1 ≤ nn := by omega
  have hgl : g < w.heap.size := by obtain ⟨Bd, Lb, h⟩ := hP; exact h.lt
  have HO : Hid (∀ W : World, w.grownBy W (some g) → ∀ i, i < n → Rd .i64 W (AA i) (arOf (I i)) (fun j => (opf (arI I) i j : Int))) := fun W hW i hi => by
    obtain ⟨Bd, Lb, h⟩ := hP
    exact ((hO i hi).grownP h hW).rd
  have HCP : Hid (∀ i, i < n → arOf (I i) ≤ CC i ∧ CC i ≤ 9223372036854775807) := hcap
  have HOK : Hid (StackOk (arI I) n) := hok
  have HP : Hid (AnyPl w g n I X R AA CC H) := hP
  clear hP hO hcap hok
  refine callsIn_of_wp_marks Try.func83 rfl h3 ?_ hro
  simp only [Try.ntmps83, List.size_toArray, List.length_cons, List.length_nil, Nat.reduceAdd, Nat.reduceSub, Array.replicate_succ, Array.replicate_zero, List.push_toArray, List.append_toArray, List.nil_append, List.cons_append]
  gi_wp2_with (gi_at_call 125; refine (bw_in F (nn - 1) h4 hro _ _ _ _ rfl _).mono ?_; rintro e w' ⟨rfl, rfl⟩)
  have HS0 : Hid (BSt w ((w.alloc (.cells #[.slice (some ⟨g, 0, none⟩) n c] 65)).alloc (.cells #[.slice (some ⟨g, 0, none⟩) n c] 65)) g n c I X R AA CC H ∧ ((w.alloc (.cells #[.slice (some ⟨g, 0, none⟩) n c] 65)).alloc (.cells #[.slice (some ⟨g, 0, none⟩) n c] 65)).heap.size = w.heap.size + 2) := by
    refine ⟨⟨?_, ?_, ?_, ?_⟩, by simp⟩
    · exact (HP.out.kept (World.grownBy_alloc _ _ none) (fun r e => by cases e)).kept (World.grownBy_alloc _ _ none) (fun r e => by cases e)
    · exact grown_more (B := w.heap.size) (grown_more (B := w.heap.size) ⟨rfl, rfl, rfl, Nat.le_refl _, fun _ _ _ => rfl⟩ (World.grownBy_alloc _ _ none) (fun r e => by cases e) (Nat.le_refl _)) (World.grownBy_alloc _ _ none) (fun r e => by cases e) (Nat.le_refl _)
    · exact (Below.heap_alloc _ _ _ (by simp)).trans (World.alloc_heap_new w _)
    · have := World.alloc_heap_new (w.alloc (.cells #[.slice (some ⟨g, 0, none⟩) n c] 65)) (.cells #[.slice (some ⟨g, 0, none⟩) n c] 65)
      rwa [World.size_alloc] at this
  generalize ((w.alloc (.cells #[.slice (some ⟨g, 0, none⟩) n c] 65)).alloc (.cells #[.slice (some ⟨g, 0, none⟩) n c] 65)) = W0 at HS0 ⊢
  have hsz := HS0.out.2
  have hcl : W0.cell? ⟨w.heap.size + 1, 0, none⟩ = some (.slice (some ⟨g, 0, none⟩) n c) := by simp [World.cell?, HS0.out.1.b1]
  refine wpIn_rangeFunc_ownH hro h1 (gf := 143) (lb := #[.pointer (some ⟨w.heap.size + 1, 0, none⟩)]) rfl h5 (enters_of Try.func143 (by kernel_rfl) rfl)
    (bw_stops F (nn - 1) h5 hro (by omega) (w.heap.size + 1) g n c I X R AA CC H hn W0 hcl HS0.out.1.pl) (fun h k => h.trans k) (fun W l o o' _ hl hc _ => kpB_of (grownBy_putObj' W l o') (fun r e => by cases e; exact ⟨o, hl, hc⟩)) (Below.refl _ _) (fun _ => rfl)
    (fun pre W => BSt w W g n c I X R AA CC H) (fun _ _ _ => False)
    (fun s A B row hs hg hr => hs.kept hg hr (by omega)) (fun _ _ _ _ _ hs _ _ => hs) HS0.out.1
    (fun x a' W => ∃ Bx, w.heap.size + 2 ≤ Bx ∧ W.heap[Bx]? = some (.cells #[.int .i64 (I x.1.1), .string (X x.1.1), .string (R x.1.1), .bool x.1.2.1, .string x.1.2.2, .slice (AA x.1.1) (arOf (I x.1.1)) (CC x.1.1), .int .i64 (H x.1.1)] 73 (0, 0)) ∧ a' = { tmps := #[.slice (some ⟨g, 0, none⟩) n c, .pointer (some ⟨w.heap.size, 0, none⟩), undef, .pointer (some ⟨Bx, 0, none⟩), undef, undef, undef, .slice (some ⟨g, 0, none⟩) n c, .func (.func 143) #[] #[.pointer (some ⟨w.heap.size + 1, 0, none⟩)], .int .i64 (x.1.1 : Int), .agg #[.int .i64 (I x.1.1), .string (X x.1.1), .string (R x.1.1), .bool x.1.2.1, .string x.1.2.2, .slice (AA x.1.1) (arOf (I x.1.1)) (CC x.1.1), .int .i64 (H x.1.1)], undef, undef, undef, undef, undef, undef, undef, undef, undef, undef, undef, undef, undef, undef, undef, undef, undef, undef, undef, undef, undef, undef, undef], defers := [] })
    (fun x a' _ A B row hs hg hr => by obtain ⟨Bx, h1, h2, h3⟩ := hs; exact ⟨Bx, h1, blk_kept h2 hg (fun r e => (hr r e).2), h3⟩)
    ?assign ?body ?done ?stop
  case assign =>
    rintro l pre ⟨⟨i, b, lb⟩, hi⟩ W K hs hK
    have HS : Hid (BSt w W g n c I X R AA CC H) := hs
    clear hs
    dsimp only [encP]
    gi_wp2
    have z := HS.out.gr.size
    have zz := (Array.getElem?_eq_some_iff.1 HS.out.b1).1
    exact hK _ _ ((KeepsOthers.alloc _ _).from _) (kpB_alloc _ _) (HS.out.alloc _) ⟨W.heap.size, by omega, World.alloc_heap_new W _, rfl⟩
  case body =>
    rintro l pre ⟨⟨i, b, lb⟩, hi⟩ a' W hl ⟨r, hr⟩ hs ⟨Bx, hBx, bX, rfl⟩ hlt
    have HS : Hid (BSt w W g n c I X R AA CC H) := hs
    have hzW := (Array.getElem?_eq_some_iff.1 hs.b1).1
    have hle := arOf_le (I i)
    have hbl := (Array.getElem?_eq_some_iff.1 bX).1
    have c0 : W.cell? ⟨Bx, 0, none⟩ = some (.int .i64 (I i)) := by simp [World.cell?, bX]
    have c1 : W.cell? ⟨Bx, 1, none⟩ = some (.string (X i)) := by simp [World.cell?, bX]
    have c3 : W.cell? ⟨Bx, 3, none⟩ = some (.bool b) := by simp [World.cell?, bX]
    have c4 : W.cell? ⟨Bx, 4, none⟩ = some (.string lb) := by simp [World.cell?, bX]
    have c5 : W.cell? ⟨Bx, 5, none⟩ = some (.slice (AA i) (arOf (I i)) (CC i)) := by simp [World.cell?, bX]
    have hne : ¬ (Bx = W.heap.size) := by omega
    dsimp only
    clear hs bX hr
    obtain ⟨m, hm⟩ : ∃ m, arOf (I i) = m := ⟨_, rfl⟩
    have HM : Hid (arOf (I i) = m) := hm
    rw [hm] at hle c5 ⊢
    clear hm
    by_cases h9 : I i = 9
    · have i9 : (I i == 9) = true := by simp [h9]
      have S1 : Hid (BSt w (W.alloc (.cells #[.bool true, .string (X i)] 70)) g n c I X R AA CC H ∧ KeepsOthers W (W.alloc (.cells #[.bool true, .string (X i)] 70)) ∧ (W.alloc (.cells #[.bool true, .string (X i)] 70)).heap[W.heap.size]? = some (.cells #[.bool true, .string (X i)] 70 (0, 0))) := ⟨HS.out.alloc _, KeepsOthers.alloc _ _, World.alloc_heap_new W _⟩
      gi_wp2
      gi_loopw [24] (fun j wr => ∃ q : Nat, q ≤ m ∧ j = .int .i64 q ∧ BSt w wr g n c I X R AA CC H ∧ KeepsOthers W wr ∧ wr.heap[W.heap.size]? = some (.cells #[.bool true, .string (X i)] 70 (0, 0))) (fun j _ => m - (intOf j).toNat)
      case atStart => exact ⟨0, Nat.zero_le _, rfl, S1.out.1, S1.out.2.1, S1.out.2.2⟩
      case round =>
        obtain ⟨q, hq, rfl, hs2, hko, hcx⟩ := hrel
        have S2 : Hid (BSt w wr g n c I X R AA CC H ∧ KeepsOthers W wr ∧ wr.heap[W.heap.size]? = some (.cells #[.bool true, .string (X i)] 70 (0, 0))) := ⟨hs2, hko, hcx⟩
        have x0 : wr.cell? ⟨w.heap.size, 0, none⟩ = some (.slice (some ⟨g, 0, none⟩) n c) := by simp [World.cell?, hs2.b0]
        have y0 : wr.cell? ⟨W.heap.size, 0, none⟩ = some (.bool true) := by simp [World.cell?, hcx]
        have y1 : wr.cell? ⟨W.heap.size, 1, none⟩ = some (.string (X i)) := by simp [World.cell?, hcx]
        clear hs2 hko hcx
        by_cases hql : q < m
        · have iq : (q : Int) < ((m : Nat) : Int) := by omega
          have iq0 : (0 : Int) ≤ (q : Int) := by omega
          have hxl := opf_lt HOK.out hi (arI_le I i) (j := q) (by show q < arOf (I i); rw [HM.out]; exact hql)
          obtain ⟨gb, go, hA, hcx⟩ : ∃ gb go, AA i = some ⟨gb, go, none⟩ ∧ wr.cell? ⟨gb, go + q, none⟩ = some (.int .i64 ((opf (arI I) i q : Nat) : Int)) := by
            rcases HO.out wr S2.out.1.gr i hi with h | ⟨gb, go, e, hc⟩
            · rw [HM.out] at h; omega
            · exact ⟨gb, go, e, hc q (by rw [HM.out]; exact hql)⟩
          rw [hA]
          generalize opf (arI I) i q = x at hxl hcx
          have ix : (x : Int) < (n : Int) := by omega
          have ix0 : (0 : Int) ≤ (x : Int) := by omega
          obtain ⟨f3, f4, d3, d4⟩ : wr.frozen? ⟨g, x * 7 + 3, none⟩ = false ∧ wr.frozen? ⟨g, x * 7 + 4, none⟩ = false ∧ (∃ v, wr.cell? ⟨g, x * 7 + 3, none⟩ = some v) ∧ (∃ v, wr.cell? ⟨g, x * 7 + 4, none⟩ = some v) := by
            obtain ⟨Bd, Lb, hp⟩ := S2.out.1.pl
            obtain ⟨_, _, _, d3, d4, _, _⟩ := hp.seven (i := x) (by omega)
            exact ⟨hp.frozen _, hp.frozen _, ⟨_, d3⟩, ⟨_, d4⟩⟩
          obtain ⟨v3, d3⟩ := d3
          obtain ⟨v4, d4⟩ := d4
          have S3 : Hid (BSt w ((wr.setCell ⟨g, x * 7 + 3, none⟩ (.bool true)).setCell ⟨g, x * 7 + 4, none⟩ (.string (X i))) g n c I X R AA CC H ∧ KeepsOthers W ((wr.setCell ⟨g, x * 7 + 3, none⟩ (.bool true)).setCell ⟨g, x * 7 + 4, none⟩ (.string (X i))) ∧ ((wr.setCell ⟨g, x * 7 + 3, none⟩ (.bool true)).setCell ⟨g, x * 7 + 4, none⟩ (.string (X i))).heap[W.heap.size]? = some (.cells #[.bool true, .string (X i)] 70 (0, 0))) := by
            refine ⟨S2.out.1.set hgl x _ _, (S2.out.2.1.trans (KeepsOthers.setCell _ _ _)).trans (KeepsOthers.setCell _ _ _), ?_⟩
            rw [Below.heap_setCell _ _ _ _ (by show W.heap.size ≠ g; omega), Below.heap_setCell _ _ _ _ (by show W.heap.size ≠ g; omega)]
            exact S2.out.2.2
          gi_wp2
          go_roundw
          case rel => exact ⟨q + 1, by omega, by go_num, S3.out⟩
          case measure => simp [intOf]; omega
        · have e : q = m := by omega
          subst e
          gi_wp2
          exact ⟨S2.out.2.1.from _, HS.out.kp S2.out.1, S2.out.1⟩
    · have i9 : (I i == 9) = false := by simp [h9]
      have S1 : Hid (BSt w (W.alloc (.cells #[.bool b, .string lb] 70)) g n c I X R AA CC H ∧ KeepsOthers W (W.alloc (.cells #[.bool b, .string lb] 70)) ∧ (W.alloc (.cells #[.bool b, .string lb] 70)).heap[W.heap.size]? = some (.cells #[.bool b, .string lb] 70 (0, 0))) := ⟨HS.out.alloc _, KeepsOthers.alloc _ _, World.alloc_heap_new W _⟩
      gi_wp2
      gi_loopw [24] (fun j wr => ∃ q : Nat, q ≤ m ∧ j = .int .i64 q ∧ BSt w wr g n c I X R AA CC H ∧ KeepsOthers W wr ∧ wr.heap[W.heap.size]? = some (.cells #[.bool b, .string lb] 70 (0, 0))) (fun j _ => m - (intOf j).toNat)
      case atStart => exact ⟨0, Nat.zero_le _, rfl, S1.out.1, S1.out.2.1, S1.out.2.2⟩
      case round =>
        obtain ⟨q, hq, rfl, hs2, hko, hcx⟩ := hrel
        have S2 : Hid (BSt w wr g n c I X R AA CC H ∧ KeepsOthers W wr ∧ wr.heap[W.heap.size]? = some (.cells #[.bool b, .string lb] 70 (0, 0))) := ⟨hs2, hko, hcx⟩
        have x0 : wr.cell? ⟨w.heap.size, 0, none⟩ = some (.slice (some ⟨g, 0, none⟩) n c) := by simp [World.cell?, hs2.b0]
        have y0 : wr.cell? ⟨W.heap.size, 0, none⟩ = some (.bool b) := by simp [World.cell?, hcx]
        have y1 : wr.cell? ⟨W.heap.size, 1, none⟩ = some (.string lb) := by simp [World.cell?, hcx]
        clear hs2 hko hcx
        by_cases hql : q < m
        · have iq : (q : Int) < ((m : Nat) : Int) := by omega
          have iq0 : (0 : Int) ≤ (q : Int) := by omega
          have hxl := opf_lt HOK.out hi (arI_le I i) (j := q) (by show q < arOf (I i); rw [HM.out]; exact hql)
          obtain ⟨gb, go, hA, hcx⟩ : ∃ gb go, AA i = some ⟨gb, go, none⟩ ∧ wr.cell? ⟨gb, go + q, none⟩ = some (.int .i64 ((opf (arI I) i q : Nat) : Int)) := by
            rcases HO.out wr S2.out.1.gr i hi with h | ⟨gb, go, e, hc⟩
            · rw [HM.out] at h; omega
            · exact ⟨gb, go, e, hc q (by rw [HM.out]; exact hql)⟩
          rw [hA]
          generalize opf (arI I) i q = x at hxl hcx
          have ix : (x : Int) < (n : Int) := by omega
          have ix0 : (0 : Int) ≤ (x : Int) := by omega
          obtain ⟨f3, f4, d3, d4⟩ : wr.frozen? ⟨g, x * 7 + 3, none⟩ = false ∧ wr.frozen? ⟨g, x * 7 + 4, none⟩ = false ∧ (∃ v, wr.cell? ⟨g, x * 7 + 3, none⟩ = some v) ∧ (∃ v, wr.cell? ⟨g, x * 7 + 4, none⟩ = some v) := by
            obtain ⟨Bd, Lb, hp⟩ := S2.out.1.pl
            obtain ⟨_, _, _, d3, d4, _, _⟩ := hp.seven (i := x) (by omega)
            exact ⟨hp.frozen _, hp.frozen _, ⟨_, d3⟩, ⟨_, d4⟩⟩
          obtain ⟨v3, d3⟩ := d3
          obtain ⟨v4, d4⟩ := d4
          have S3 : Hid (BSt w ((wr.setCell ⟨g, x * 7 + 3, none⟩ (.bool b)).setCell ⟨g, x * 7 + 4, none⟩ (.string lb)) g n c I X R AA CC H ∧ KeepsOthers W ((wr.setCell ⟨g, x * 7 + 3, none⟩ (.bool b)).setCell ⟨g, x * 7 + 4, none⟩ (.string lb)) ∧ ((wr.setCell ⟨g, x * 7 + 3, none⟩ (.bool b)).setCell ⟨g, x * 7 + 4, none⟩ (.string lb)).heap[W.heap.size]? = some (.cells #[.bool b, .string lb] 70 (0, 0))) := by
            refine ⟨S2.out.1.set hgl x _ _, (S2.out.2.1.trans (KeepsOthers.setCell _ _ _)).trans (KeepsOthers.setCell _ _ _), ?_⟩
            rw [Below.heap_setCell _ _ _ _ (by show W.heap.size ≠ g; omega), Below.heap_setCell _ _ _ _ (by show W.heap.size ≠ g; omega)]
            exact S2.out.2.2
          gi_wp2
          go_roundw
          case rel => exact ⟨q + 1, by omega, by go_num, S3.out⟩
          case measure => simp [intOf]; omega
        · have e : q = m := by omega
          subst e
          gi_wp2
          exact ⟨S2.out.2.1.from _, HS.out.kp S2.out.1, S2.out.1⟩
  case done =>
    rintro D ys W hD _ hs hK
    gi_wp2
    refine ⟨by simp, .inl ⟨_, _, rfl, run_takeDeferred hK, ?_⟩⟩
    have hq := hs.kept (grownBy_putObj' W D (.deferred none)) (fun r e => by cases e; exact ⟨hD, _, hK, rfl⟩) (by omega)
    exact ⟨_, results_none rfl _ _ _, rfl, hq.pl, hq.gr⟩
  case stop =>
    rintro D c' pre W _ _ h _
    exact h.elim
end Go.Proofs.Ytocmbnocdjnfpaa
