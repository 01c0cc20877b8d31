import Derived.Test.YtbpcafcipncloaaArD
import Derived.BigQuiet
namespace Go.Proofs.Ytbpcafcipncloaa
open Go.RowKit Go.Deep
set_option linter.unusedVariables false
set_option maxRecDepth 100000

/-- impl.readRec at any sector. -/
theorem readRec_st (a p : Option Addr) (n c m q : Nat) (d S : Nat → Int) (L : Nat → Nat) (F : Nat → Nat → Int) (fuel : Int) (dead : Bool) (y : Int) (s : Nat) (seq : Int) (w : World) (ha : Rd .u8 w a n d) (hp : RdP w p m S L F) (hv : VD n m S L fuel) (hy : y = (s : Int)) (hn : n ≤ 1048576) (hnc : n ≤ c) (hcm : c ≤ 9223372036854775807) (hm : m ≤ 1048576) (hr : ∀ s i, i < 64 → 0 ≤ secF d S F m s i ∧ secF d S F m s i < 256) :
    Calls Try.prog 44 #[.agg #[.slice a n c, .slice p m q, .int .i64 fuel, .bool dead], .int .i64 y, .int .i64 seq] w fun e w' => Below w.heap.size w w' ∧
      (((s < n / 64 ∧ recOk (arG (secF d S F m) s) (((n / 64 : Nat) : Int) - (s : Int)) seq) ∧ ∃ a' c', e = .returned (.agg #[.bool true, .slice a' (catL (recLz (arG (secF d S F m) s)) (arK (secF d S F m) s)) c', .int .i64 (arK (secF d S F m) s)]) ∧ OwnB w' w.heap.size a' (catL (recLz (arG (secF d S F m) s)) (arK (secF d S F m) s)) (catF (recLz (arG (secF d S F m) s)) (recFz (arG (secF d S F m) s)) (arK (secF d S F m) s))) ∨
        (¬ (s < n / 64 ∧ recOk (arG (secF d S F m) s) (((n / 64 : Nat) : Int) - (s : Int)) seq) ∧ e = .returned (.agg #[.bool false, .slice none 0 0, .int .i64 0]))) := by
  subst hy
  by_cases hs : s < n / 64
  · refine (readRec_any a p n c m q d S L F fuel dead s seq w ha hp hv hs hn hnc hcm hm hr).mono ?_
    rintro e w' ⟨hb, h⟩
    refine ⟨hb, ?_⟩
    have e1 : (n : Int) / 64 - (s : Int) = ((n / 64 : Nat) : Int) - (s : Int) := by omega
    rw [e1] at h
    rcases h with ⟨hok, a', c', he, ho, _, _⟩ | ⟨hno, he⟩
    · refine Or.inl ⟨⟨hs, hok⟩, a', c', ?_, ho⟩
      have e2 : ((arK (secF d S F m) s : Nat) : Int) = getN (secF d S F m (s + 0)) 6 2 := by
        have := hok.1
        dsimp only at this
        unfold arK
        rw [Nat.add_zero] at this ⊢
        omega
      rw [e2]
      exact he
    · exact Or.inr ⟨fun hh => hno hh.2, he⟩
  · refine (readRec_out a p n c m q d S L F fuel dead s seq w hn (by omega)).mono ?_
    rintro e w' ⟨he, hb⟩
    exact ⟨hb, Or.inr ⟨fun hh => hs hh.1, he⟩⟩

/-- A box of an area's answer. -/
def axCell (v0 v1 v2 v3 : Value) (i : Nat) : Value := if i = 0 then v0 else if i = 1 then v1 else if i = 2 then v2 else v3
def AxRow (w : World) (b : Nat) (v0 v1 v2 v3 : Value) : Prop := rowIn w b 51 4 (axCell v0 v1 v2 v3)
theorem axNew (W : World) (v0 v1 v2 v3 : Value) : AxRow (W.alloc (.cells #[v0, v1, v2, v3] 51)) W.heap.size v0 v1 v2 v3 := by
  refine ⟨_, blk_alloc_new _ _, by simp, fun i hi => ?_⟩
  match i, hi with
  | 0, _ => rfl
  | 1, _ => rfl
  | 2, _ => rfl
  | 3, _ => rfl
theorem AxRow.cells {w : World} {b : Nat} {v0 v1 v2 v3 : Value} (h : AxRow w b v0 v1 v2 v3) : w.cell? ⟨b, 0, none⟩ = some v0 ∧ w.cell? ⟨b, 1, none⟩ = some v1 ∧ w.cell? ⟨b, 2, none⟩ = some v2 ∧ w.cell? ⟨b, 3, none⟩ = some v3 ∧ (∀ o, w.frozen? ⟨b, o, none⟩ = false) ∧ b < w.heap.size :=
  ⟨rowIn.cell h (i := 0) (by omega), rowIn.cell h (i := 1) (by omega), rowIn.cell h (i := 2) (by omega), rowIn.cell h (i := 3) (by omega), fun o => rowIn.frozen h o, rowIn.lt h⟩
theorem AxRow.below {w w' : World} {b : Nat} {v0 v1 v2 v3 : Value} (h : AxRow w b v0 v1 v2 v3) (hb : Below w.heap.size w w') : AxRow w' b v0 v1 v2 v3 := rowIn.below h hb

theorem AxRow.put {w : World} {b : Nat} {v0 v1 v2 v3 : Value} (h : AxRow w b v0 v1 v2 v3) (u0 u1 u2 u3 : Value) (k : Nat) (x : Value) (hu : ∀ i, i < 4 → axCell u0 u1 u2 u3 i = if i = k then x else axCell v0 v1 v2 v3 i) : AxRow (w.setCell ⟨b, k, none⟩ x) b u0 u1 u2 u3 :=
  (rowIn.set h k x).congr (fun i hi => (hu i hi).symm)
theorem AxRow.put0 {w : World} {b : Nat} {v0 v1 v2 v3 : Value} (h : AxRow w b v0 v1 v2 v3) (x : Value) : AxRow (w.setCell ⟨b, 0, none⟩ x) b x v1 v2 v3 :=
  h.put x v1 v2 v3 0 x (fun i hi => by match i, hi with
    | 0, _ => rfl
    | 1, _ => rfl
    | 2, _ => rfl
    | 3, _ => rfl)
theorem AxRow.put1 {w : World} {b : Nat} {v0 v1 v2 v3 : Value} (h : AxRow w b v0 v1 v2 v3) (x : Value) : AxRow (w.setCell ⟨b, 1, none⟩ x) b v0 x v2 v3 :=
  h.put v0 x v2 v3 1 x (fun i hi => by match i, hi with
    | 0, _ => rfl
    | 1, _ => rfl
    | 2, _ => rfl
    | 3, _ => rfl)
theorem AxRow.put2 {w : World} {b : Nat} {v0 v1 v2 v3 : Value} (h : AxRow w b v0 v1 v2 v3) (x : Value) : AxRow (w.setCell ⟨b, 2, none⟩ x) b v0 v1 x v3 :=
  h.put v0 v1 x v3 2 x (fun i hi => by match i, hi with
    | 0, _ => rfl
    | 1, _ => rfl
    | 2, _ => rfl
    | 3, _ => rfl)
theorem AxRow.put3 {w : World} {b : Nat} {v0 v1 v2 v3 : Value} (h : AxRow w b v0 v1 v2 v3) (x : Value) : AxRow (w.setCell ⟨b, 3, none⟩ x) b v0 v1 v2 x :=
  h.put v0 v1 v2 x 3 x (fun i hi => by match i, hi with
    | 0, _ => rfl
    | 1, _ => rfl
    | 2, _ => rfl
    | 3, _ => rfl)

/-- A box of a record's answer. -/
def rxCell (v0 v1 v2 : Value) (i : Nat) : Value := if i = 0 then v0 else if i = 1 then v1 else v2
def RxRow (w : World) (b : Nat) (v0 v1 v2 : Value) : Prop := rowIn w b 35 3 (rxCell v0 v1 v2)
theorem rxNew (W : World) (v0 v1 v2 : Value) : RxRow (W.alloc (.cells #[v0, v1, v2] 35)) W.heap.size v0 v1 v2 := by
  refine ⟨_, blk_alloc_new _ _, by simp, fun i hi => ?_⟩
  match i, hi with
  | 0, _ => rfl
  | 1, _ => rfl
  | 2, _ => rfl
theorem RxRow.cells {w : World} {b : Nat} {v0 v1 v2 : Value} (h : RxRow w b v0 v1 v2) : w.cell? ⟨b, 0, none⟩ = some v0 ∧ w.cell? ⟨b, 1, none⟩ = some v1 ∧ w.cell? ⟨b, 2, none⟩ = some v2 ∧ b < w.heap.size :=
  ⟨rowIn.cell h (i := 0) (by omega), rowIn.cell h (i := 1) (by omega), rowIn.cell h (i := 2) (by omega), rowIn.lt h⟩
theorem RxRow.below {w w' : World} {b : Nat} {v0 v1 v2 : Value} (h : RxRow w b v0 v1 v2) (hb : Below w.heap.size w w') : RxRow w' b v0 v1 v2 := rowIn.below h hb

theorem GathY.more1 {w1 w2 : World} {B T : Nat} {v v' : Value} {k : Nat} {L : Nat → Nat} {F : Nat → Nat → Int} {A : Nat → Option Addr} {C : Nat → Nat} (h : GathY w1 B v k L F A C) (hT : ∀ i, i < k → LtB T (A i) (L i)) (hB : B ≤ T) (ad : Option Addr) (cp : Nat) (hn : OwnB w1 T ad (L k) (F k))
    (hr : w2.ownsRow B 75 1 v' (k + 1) (payRow A L C k ++ [.slice ad (L k) cp])) (hg : w1.grownBy w2 v.ownBlock) :
    GathY w2 B v' (k + 1) L F (fun i => if i = k then ad else A i) (fun i => if i = k then cp else C i) := by
  have keep : ∀ {a : Option Addr} {n : Nat} {f : Nat → Int} {B' : Nat}, OwnB w1 B' a n f → OwnB w2 B' a n f := by
    intro a n f B' ho
    rcases ho with h0 | ⟨g, rfl, hg', hr'⟩
    · exact Or.inl h0
    · refine Or.inr ⟨g, rfl, hg', hr'.of_block (hg.block g hr'.lt (fun e => ?_))⟩
      rcases h.row.2 with ⟨hv, _⟩ | ⟨g2, cap, cur, hv, _, hh, _⟩
      · rw [hv] at e; simp [Value.ownBlock] at e
      · rw [hv] at e
        simp [Value.ownBlock] at e
        subst e
        obtain ⟨c', hc', _⟩ := hr'
        rw [hh] at hc'
        injection hc' with e1
        injection e1 with _ e2 _
        revert e2
        decide
  refine ⟨by rw [← payRow_succ]; exact hr, fun i hi => ?_, fun i j hi hj hij hl1 hl2 => ?_⟩
  · by_cases e : i = k
    · subst e; simp only [if_true]; exact keep (hn.mono hB)
    · simp only [if_neg e]; exact keep (h.each i (by omega))
  · have key : ∀ j, j < k → L j ≠ 0 → L k ≠ 0 → A j ≠ ad := by
      intro j hj hl hlk e
      rcases h.each j hj with h0 | ⟨g', hA, hg', hr'⟩
      · exact hl h0
      · rcases hn with h0 | ⟨g2, hA2, hg2, _⟩
        · exact hlk h0
        · have q := hT j hj hl _ hA
          rw [hA, hA2] at e
          injection e with e
          injection e with e
          dsimp only at q
          omega
    by_cases e1 : i = k
    · by_cases e2 : j = k
      · omega
      · subst e1
        simp only [if_true, if_neg e2]
        exact fun e => key j (by omega) hl2 hl1 e.symm
    · by_cases e2 : j = k
      · subst e2
        simp only [if_neg e1, if_true]
        exact key i (by omega) hl1 hl2
      · simp only [if_neg e1, if_neg e2]
        exact h.apart i j (by omega) (by omega) hij hl1 hl2

/-- A row that grows lies in its own block. -/
theorem GathY.other {w w1 w2 : World} {B : Nat} {v : Value} {k : Nat} {L : Nat → Nat} {F : Nat → Nat → Int} {A : Nat → Option Addr} {C : Nat → Nat} (h : GathY w B v k L F A C) (hg : w1.grownBy w2 v.ownBlock) (g : Nat) (hl : g < w1.heap.size) (hne : g < B ∨ w.heap.size ≤ g) : w2.heap[g]? = w1.heap[g]? := by
  refine hg.block g hl (fun e => ?_)
  rcases h.row.2 with ⟨hv, _⟩ | ⟨g2, cap, cur, hv, hB, hh, _⟩
  · rw [hv] at e; simp [Value.ownBlock] at e
  · rw [hv] at e
    simp [Value.ownBlock] at e
    subst e
    have := (Array.getElem?_eq_some_iff.1 hh).1
    omega
theorem GathY.block {w : World} {B : Nat} {v : Value} {k : Nat} {L : Nat → Nat} {F : Nat → Nat → Int} {A : Nat → Option Addr} {C : Nat → Nat} (h : GathY w B v k L F A C) : ∀ g, v.ownBlock = some g → B ≤ g := by
  intro g e
  rcases h.row.2 with ⟨hv, _⟩ | ⟨g2, cap, cur, hv, hB, hh, _⟩
  · rw [hv] at e; simp [Value.ownBlock] at e
  · rw [hv] at e
    simp [Value.ownBlock] at e
    omega

/-- What ReadArea's variables are between two statements. -/
structure ArSt (w w4 : World) (a p : Option Addr) (n c m q : Nat) (fuel : Int) (dead : Bool) (W : World) (v0 v1 v2 v3 : Value) : Prop where
  box : AxRow W w4.heap.size v0 v1 v2 v3
  base : Below (w.heap.size + 2) ((w.alloc (.cells #[.slice a n c, .slice p m q, .int .i64 fuel, .bool dead] 39)).alloc (.cells #[.bool false, .slice none 0 0, .int .i64 0, .int .i64 0] 51)) W
  le : w.heap.size + 2 ≤ w4.heap.size

theorem ArSt.disk {w w4 : World} {a p : Option Addr} {n c m q : Nat} {fuel : Int} {dead : Bool} {W : World} {v0 v1 v2 v3 : Value} (h : ArSt w w4 a p n c m q fuel dead W v0 v1 v2 v3) : W.cell? ⟨w.heap.size, 0, none⟩ = some (.slice a n c) ∧ W.cell? ⟨w.heap.size, 1, none⟩ = some (.slice p m q) ∧ W.cell? ⟨w.heap.size, 2, none⟩ = some (.int .i64 fuel) ∧ W.cell? ⟨w.heap.size, 3, none⟩ = some (.bool dead) ∧ w.heap.size < W.heap.size := by
  have hb := ((Box4.new w (.slice a n c) (.slice p m q) (.int .i64 fuel) (.bool dead) 39).below (below_alloc _ (.cells #[.bool false, .slice none 0 0, .int .i64 0, .int .i64 0] 51)))
  obtain ⟨b0, b1, b2, b3, bl⟩ := hb
  have hz := h.base.size
  rw [alloc_size, alloc_size] at hz
  exact ⟨(h.base.cell (p := ⟨w.heap.size, 0, none⟩) (by show w.heap.size < _; omega)).trans b0, (h.base.cell (p := ⟨w.heap.size, 1, none⟩) (by show w.heap.size < _; omega)).trans b1, (h.base.cell (p := ⟨w.heap.size, 2, none⟩) (by show w.heap.size < _; omega)).trans b2, (h.base.cell (p := ⟨w.heap.size, 3, none⟩) (by show w.heap.size < _; omega)).trans b3, by omega⟩

theorem ArSt.keep {w w4 : World} {a p : Option Addr} {n c m q : Nat} {fuel : Int} {dead : Bool} {W W' : World} {v0 v1 v2 v3 : Value} (h : ArSt w w4 a p n c m q fuel dead W v0 v1 v2 v3) (hb : Below W.heap.size W W') : ArSt w w4 a p n c m q fuel dead W' v0 v1 v2 v3 := by
  have hz := h.base.size
  rw [alloc_size, alloc_size] at hz
  exact ⟨h.box.below hb, h.base.trans (hb.mono (by omega)), h.le⟩

/-- The number in an answer's box that comes next. -/
def nextOf (W : World) (b : Nat) : Int := match W.cell? ⟨b, 3, none⟩ with
  | some (.int .i64 x) => x
  | _ => 0

set_option maxHeartbeats 4000000 in
theorem implArea_good (a p : Option Addr) (n c m q : Nat) (d S : Nat → Int) (L : Nat → Nat) (F : Nat → Nat → Int) (fuel : Int) (dead : Bool) (x first : Int) (ar A b0 J : Nat) (w : World) (ha : Rd .u8 w a n d) (hp : RdP w p m S L F) (hv : VD n m S L fuel) (hx : x = (ar : Int)) (har : ar ≤ 1) (hq : numB first = true) (hA : A = (n / 64 - 2) / 2) (hb0 : b0 = 2 + ar * A) (hn : n ≤ 1048576) (hnc : n ≤ c) (hcm : c ≤ 9223372036854775807) (hm : m ≤ 1048576) (hr : ∀ s i, i < 64 → 0 ≤ secF d S F m s i ∧ secF d S F m s i < 256)
    (hJ : ∀ j, j < J → arGood (secF d S F m) (n / 64) A b0 first j) (hJn : ¬ arGood (secF d S F m) (n / 64) A b0 first J) :
    Calls Try.prog 28 #[.agg #[.slice a n c, .slice p m q, .int .i64 fuel, .bool dead], .int .i64 x, .int .i64 first] w (RetA w (decide (0 < J)) J (arL (secF d S F m) b0) (arF (secF d S F m) b0) (arU (secF d S F m) b0 J) (if 0 < J then first + J else 0)) := by
  obtain ⟨Q, hQ⟩ : ∃ Q : Ending → World → Prop, Q = RetA w (decide (0 < J)) J (arL (secF d S F m) b0) (arF (secF d S F m) b0) (arU (secF d S F m) b0 J) (if 0 < J then first + J else 0) := ⟨_, rfl⟩
  rw [← hQ]
  have HQQ : Hid (Q = RetA w (decide (0 < J)) J (arL (secF d S F m) b0) (arF (secF d S F m) b0) (arU (secF d S F m) b0 J) (if 0 < J then first + J else 0)) := hQ
  clear hQ
  have HA : Hid (Rd .u8 w a n d) := ha
  have HP : Hid (RdP w p m S L F) := hp
  have HV : Hid (VD n m S L fuel) := hv
  have HR : Hid (∀ s i, i < 64 → 0 ≤ secF d S F m s i ∧ secF d S F m s i < 256) := hr
  have HJ : Hid (∀ j, j < J → arGood (secF d S F m) (n / 64) A b0 first j) := hJ
  have HJN : Hid (¬ arGood (secF d S F m) (n / 64) A b0 first J) := hJn
  have HX : Hid (x = (ar : Int) ∧ ar ≤ 1 ∧ A = (n / 64 - 2) / 2 ∧ b0 = 2 + ar * A ∧ areaB x = true) := ⟨hx, har, hA, hb0, by subst hx; unfold areaB; simp; omega⟩
  have HQ : Hid (numB first = true ∧ 1 ≤ first ∧ first ≤ 2000000000) := by
    refine ⟨hq, ?_⟩
    unfold numB at hq
    simp at hq
    omega
  have h16 : Hid (16 ≤ n / 64 ∧ n / 64 ≤ 1024) := by
    show _ ∧ _
    have := hv.1; unfold VH at this; omega
  have hb8 : Hid (b0 ≤ 1024 ∧ b0 + A ≤ n / 64 ∧ A ≤ 511) := by
    show _ ∧ _ ∧ _
    have h16' := h16.out
    have : ar * A ≤ 1 * A := Nat.mul_le_mul_right _ har
    omega
  have hq1 := HQ.out.2.1
  have hq2 := HQ.out.2.2
  have HFIN : Hid (∀ W : World, Below (w.heap.size + 2) ((w.alloc (.cells #[.slice a n c, .slice p m q, .int .i64 fuel, .bool dead] 39)).alloc (.cells #[.bool false, .slice none 0 0, .int .i64 0, .int .i64 0] 51)) W → Below w.heap.size w W) := fun W h => ((below_alloc _ _).trans ((below_alloc _ _).mono (by simp))).trans (h.mono (by omega))
  have HE2 : Hid (∀ o1 o2, ((w.alloc o1).alloc o2).heap.size = w.heap.size + 2) := fun _ _ => by simp
  clear ha hp hv hr hJ hJn hx har hA hb0 hq
  go_enter Try.func28, Try.ntmps28
  go_wp2_with fail
  refine (implValid_any a p n c m q S L F fuel dead _ (HP.out.below ((below_alloc _ _).trans ((below_alloc _ _).mono (by simp)))) hn hm).mono ?_
  rintro e w1 ⟨h1, hb1⟩
  have := ans_true' h1 HV.out
  subst this
  rw [HE2.out] at hb1
  have K1 : Hid (Below (w.heap.size + 2) ((w.alloc (.cells #[.slice a n c, .slice p m q, .int .i64 fuel, .bool dead] 39)).alloc (.cells #[.bool false, .slice none 0 0, .int .i64 0, .int .i64 0] 51)) w1) := hb1
  have z1 : w.heap.size + 2 ≤ w1.heap.size := by have := hb1.size; rw [HE2.out] at this; exact this
  have hc1 : ∀ b o, b < w.heap.size + 2 → w1.cell? ⟨b, o, none⟩ = _ := fun b o hb => K1.out.cell (p := ⟨b, o, none⟩) hb
  clear hb1 h1
  go_wp2_with fail
  refine (isArea_any x w1).mono ?_
  rintro e w2 ⟨he, hw2⟩
  subst hw2
  rw [HX.out.2.2.2.2] at he
  subst he
  go_wp2_with fail
  refine (isNumber_any first w2).mono ?_
  rintro e w3 ⟨he, hw3⟩
  subst hw3
  rw [HQ.out.1] at he
  subst he
  go_wp2_with fail
  refine (areaBegin_any a p n c m q fuel dead A ar x w3 hn h16.out.1 HX.out.2.2.1 HX.out.1 HX.out.2.1).mono ?_
  rintro e w4 ⟨rfl, hb4⟩
  rw [← HX.out.2.2.2.1]
  have K4 : Hid (Below (w.heap.size + 2) ((w.alloc (.cells #[.slice a n c, .slice p m q, .int .i64 fuel, .bool dead] 39)).alloc (.cells #[.bool false, .slice none 0 0, .int .i64 0, .int .i64 0] 51)) w4) := K1.out.trans (hb4.mono z1)
  have z4 := hb4.size
  clear hb4 hc1 K1
  have hcw4 : ∀ b o, b < w.heap.size + 2 → w4.cell? ⟨b, o, none⟩ = _ := fun b o hb => K4.out.cell (p := ⟨b, o, none⟩) hb
  have D4 : Hid (ArSt w w4 a p n c m q fuel dead (w4.alloc (.cells #[.bool false, .slice none 0 0, .int .i64 0, .int .i64 first] 51)) (.bool (decide (0 < 0))) (.slice none 0 0) (.int .i64 (arU (secF d S F m) b0 0)) (.int .i64 (first + ((0 : Nat) : Int)))) := by
    rw [show first + ((0 : Nat) : Int) = first from by simp]
    exact ⟨axNew w4 _ _ _ _, K4.out.trans ((below_alloc _ _).mono (by omega)), by omega⟩
  clear hcw4 K4
  go_wp2
  go_loopw [9] (fun _ wr => ∃ (j : Nat) (v : Value) (AA : Nat → Option Addr) (CC : Nat → Nat), j ≤ J ∧ ArSt w w4 a p n c m q fuel dead wr (.bool (decide (0 < j))) v (.int .i64 (arU (secF d S F m) b0 j)) (.int .i64 (first + j)) ∧ GathY wr (w4.heap.size + 1) v j (arL (secF d S F m) b0) (arF (secF d S F m) b0) AA CC ∧ Below w4.heap.size w4 wr) (fun _ wr => 2000000001 - (nextOf wr w4.heap.size).toNat)
  case atStart => exact ⟨0, _, _, _, Nat.zero_le _, D4.out, GathY.start _ _ _ _, below_alloc _ _⟩
  case round =>
    obtain ⟨j, v, AA, CC, hj, hst, hga, hbw⟩ := hrel
    have HST : Hid (ArSt w w4 a p n c m q fuel dead wr (.bool (decide (0 < j))) v (.int .i64 (arU (secF d S F m) b0 j)) (.int .i64 (first + j))) := hst
    have HGA : Hid (GathY wr (w4.heap.size + 1) v j (arL (secF d S F m) b0) (arF (secF d S F m) b0) AA CC) := hga
    have HBW : Hid (Below w4.heap.size w4 wr) := hbw
    obtain ⟨r0, r1, r2, r3, rf, rl⟩ := hst.box.cells
    obtain ⟨x0, x1, x2, x3, xl⟩ := hst.disk
    obtain ⟨U, hU⟩ : ∃ U, U = arU (secF d S F m) b0 j := ⟨_, rfl⟩
    have HU : Hid (U = arU (secF d S F m) b0 j) := hU
    rw [← hU] at r2
    have hUle : U ≤ 511 := by rw [hU]; have := arU_le j (fun i hi => HJ.out i (by omega)); have := hb8.out; omega
    have hb1024 := hb8.out.1
    have hjU : j ≤ 511 := by have := arU_le j (fun i hi => HJ.out i (by omega)); have := hb8.out; omega
    have w1' : IntKind.i64.wrap ((b0 : Int) + (U : Int)) = ((b0 + U : Nat) : Int) := by rw [IntKind.wrap_i64]; omega
    clear hst hga hbw hU
    by_cases hlt : j < J
    · have hle : first + (j : Int) ≤ 2000000000 := (HJ.out j hlt).1
      have hok := (HJ.out j hlt).2
      obtain ⟨K, hK⟩ : ∃ K, K = arK (secF d S F m) (b0 + U) := ⟨_, rfl⟩
      have HK : Hid (K = arK (secF d S F m) (b0 + U)) := hK
      have HOK : Hid (arOk (secF d S F m) (n / 64) A b0 U (first + j)) := by rw [HU.out]; exact hok
      have hk1 : 1 ≤ K ∧ K ≤ 625 := by rw [hK]; have := arK_pos HOK.out; omega
      have hUK : U + K ≤ A := by rw [hK]; exact HOK.out.2.2
      have hA511 := hb8.out.2.2
      clear hok hK
      go_wp2_with fail
      refine (readRec_st a p n c m q d S L F fuel dead _ (b0 + U) (first + j) wr (HA.out.below (HFIN.out _ HST.out.base)) (HP.out.below (HFIN.out _ HST.out.base)) HV.out (by omega) hn hnc hcm hm HR.out).mono ?_
      rintro e w5 ⟨hb5, ⟨_, a5, c5, rfl, ho5⟩ | ⟨hno, _⟩⟩
      · have e5 : catL (recLz (arG (secF d S F m) (b0 + U))) (arK (secF d S F m) (b0 + U)) = arL (secF d S F m) b0 j := by unfold arL; rw [← HU.out]
        have e6 : catF (recLz (arG (secF d S F m) (b0 + U))) (recFz (arG (secF d S F m) (b0 + U))) (arK (secF d S F m) (b0 + U)) = arF (secF d S F m) b0 j := by unfold arF; rw [← HU.out]
        rw [e5, e6] at ho5
        rw [e5, ← HK.out]
        have z5 := hb5.size
        have B5 : Hid (Below wr.heap.size wr w5) := hb5
        have O5 : Hid (OwnB w5 wr.heap.size a5 (arL (secF d S F m) b0 j) (arF (secF d S F m) b0 j)) := ho5
        obtain ⟨l, hl⟩ : ∃ l, l = arL (secF d S F m) b0 j := ⟨_, rfl⟩
        rw [← hl]
        have HLJ : Hid (l = arL (secF d S F m) b0 j) := hl
        clear e5 e6 hb5 ho5 hl r0 r1 r2 r3 rf rl x0 x1 x2 x3 xl
        obtain ⟨r0, r1, r2, r3, rf, rl⟩ := (HST.out.box.below B5.out).cells
        rw [← HU.out] at r2
        go_wp2
        obtain ⟨W6, hW6⟩ : ∃ W6, W6 = w5.alloc (.cells #[.bool true, .slice a5 l c5, .int .i64 (K : Int)] 35) := ⟨_, rfl⟩
        rw [← hW6]
        have B6 : Hid (Below wr.heap.size wr W6) := by
          show Below wr.heap.size wr W6
          rw [hW6]
          exact B5.out.alloc z5 _
        have X6 : Hid (RxRow W6 w5.heap.size (.bool true) (.slice a5 l c5) (.int .i64 (K : Int))) := by
          show RxRow W6 w5.heap.size _ _ _
          rw [hW6]
          exact rxNew w5 _ _ _
        have O6 : Hid (OwnB W6 wr.heap.size a5 (arL (secF d S F m) b0 j) (arF (secF d S F m) b0 j)) := by
          show OwnB W6 _ _ _ _
          rw [hW6]
          exact O5.out.below (below_alloc _ _)
        have z6 := B6.out.size
        have hz4 := HBW.out.size
        have hlw := HST.out.le
        clear hW6 r0 r1 r2 r3 rf rl B5 O5
        have HC : Hid (∀ w7 : World, Below W6.drew.heap.size W6.drew w7 → ((w7.cell? ⟨w.heap.size, 0, none⟩ = some (.slice a n c) ∧ w7.cell? ⟨w.heap.size, 1, none⟩ = some (.slice p m q) ∧ w7.cell? ⟨w.heap.size, 2, none⟩ = some (.int .i64 fuel) ∧ w7.cell? ⟨w.heap.size, 3, none⟩ = some (.bool dead)) ∧ w7.cell? ⟨w4.heap.size, 2, none⟩ = some (.int .i64 (U : Int)) ∧ w7.cell? ⟨w5.heap.size, 0, none⟩ = some (.bool true) ∧ w7.cell? ⟨w5.heap.size, 2, none⟩ = some (.int .i64 (K : Int))) ∧ ArSt w w4 a p n c m q fuel dead w7 (.bool (decide (0 < j))) v (.int .i64 (U : Int)) (.int .i64 (first + j)) ∧ RxRow w7 w5.heap.size (.bool true) (.slice a5 l c5) (.int .i64 (K : Int)) ∧ Below wr.heap.size wr w7 ∧ OwnB w7 wr.heap.size a5 (arL (secF d S F m) b0 j) (arF (secF d S F m) b0 j) ∧ W6.heap.size ≤ w7.heap.size) := by
          intro w7 hb7
          have q1 : Below wr.heap.size wr w7 := B6.out.drew.trans (hb7.mono (by show wr.heap.size ≤ W6.heap.size; exact z6))
          have q2 : Below W6.heap.size W6 w7 := (Below.refl _ _).drew.trans hb7
          have q3 : ArSt w w4 a p n c m q fuel dead w7 (.bool (decide (0 < j))) v (.int .i64 (U : Int)) (.int .i64 (first + j)) := by
            rw [HU.out]
            exact HST.out.keep q1
          obtain ⟨k0, k1, k2, k3, -⟩ := q3.disk
          have q4 := X6.out.below q2
          exact ⟨⟨⟨k0, k1, k2, k3⟩, q3.box.cells.2.2.1, q4.cells.1, q4.cells.2.2.1⟩, q3, q4, q1, O6.out.below q2, q2.size⟩
        obtain ⟨⟨⟨x0, x1, x2, x3⟩, x4, x5, x6⟩, -⟩ := HC.out W6.drew (Below.refl _ _)
        have y0 : W6.cell? ⟨w.heap.size, 0, none⟩ = some (.slice a n c) := x0
        have y1 : W6.cell? ⟨w.heap.size, 1, none⟩ = some (.slice p m q) := x1
        have y2 : W6.cell? ⟨w.heap.size, 2, none⟩ = some (.int .i64 fuel) := x2
        have y3 : W6.cell? ⟨w.heap.size, 3, none⟩ = some (.bool dead) := x3
        have y4 : W6.cell? ⟨w4.heap.size, 2, none⟩ = some (.int .i64 (U : Int)) := x4
        have y5 : W6.cell? ⟨w5.heap.size, 0, none⟩ = some (.bool true) := x5
        have y6 : W6.cell? ⟨w5.heap.size, 2, none⟩ = some (.int .i64 (K : Int)) := x6
        clear x0 x1 x2 x3 x4 x5 x6
        have wk : IntKind.i64.wrap ((U : Int) + (K : Int)) = (U : Int) + (K : Int) := by rw [IntKind.wrap_i64]; omega
        have hgt : ¬ (A : Int) < (U : Int) + (K : Int) := by omega
        have hgt' : decide ((A : Int) < (U : Int) + (K : Int)) = false := decide_eq_false hgt
        go_region_held3 (fun w' => (w'.cell? ⟨w.heap.size, 0, none⟩ = some (.slice a n c) ∧ w'.cell? ⟨w.heap.size, 1, none⟩ = some (.slice p m q) ∧ w'.cell? ⟨w.heap.size, 2, none⟩ = some (.int .i64 fuel) ∧ w'.cell? ⟨w.heap.size, 3, none⟩ = some (.bool dead)) ∧ w'.cell? ⟨w4.heap.size, 2, none⟩ = some (.int .i64 (U : Int)) ∧ w'.cell? ⟨w5.heap.size, 0, none⟩ = some (.bool true) ∧ w'.cell? ⟨w5.heap.size, 2, none⟩ = some (.int .i64 (K : Int))) (go_keep)
          (first
          | (go_at_call 61; refine (areaSectors_any a p n c m q fuel dead A W6.drew hn h16.out.1 HX.out.2.2.1).mono ?_; rintro e w7 ⟨rfl, hb7⟩; obtain ⟨⟨⟨u0, u1, u2, u3⟩, u4, u5, u6⟩, A7, X7, B7, O7, z7⟩ := HC.out w7 hb7))
        clear y0 y1 y2 y3 y4 y5 y6 u0 u1 u2 u3 u4 u5 u6 hb7
        obtain ⟨r0, r1, r2, r3, rf, rl⟩ := A7.box.cells
        obtain ⟨t0, t1, t2, tl⟩ := X7.cells
        have rl0 : w4.heap.size < wr.heap.size := HST.out.box.cells.2.2.2.2.2
        have hne : ¬ (w5.heap.size = w4.heap.size) := by omega
        have hne2 : ¬ (w4.heap.size = w5.heap.size) := by omega
        have hsz8 : (w7.setCell ⟨w4.heap.size, 0, none⟩ (.bool true)).heap.size = w7.heap.size := by simp
        have HGX : Hid (GathY ((w7.setCell ⟨w4.heap.size, 0, none⟩ (.bool true)).alloc (.cells #[.slice a5 l c5] 75)) (w4.heap.size + 1) v j (arL (secF d S F m) b0) (arF (secF d S F m) b0) AA CC) := ((HGA.out.below B7).setOther (by show w4.heap.size < w4.heap.size + 1; omega) _).below (below_alloc _ _)
        have HNW : Hid (∀ j u, [Value.slice a5 l c5][j]? = some u → ((w7.setCell ⟨w4.heap.size, 0, none⟩ (.bool true)).alloc (.cells #[.slice a5 l c5] 75)).cell? ((⟨w7.heap.size, 0, none⟩ : Addr).add j) = some u) := by
          have h := cell_one_new (w7.setCell ⟨w4.heap.size, 0, none⟩ (.bool true)) (.slice a5 l c5) 75
          rw [hsz8] at h
          exact h
        have hz10 : w4.heap.size + 1 ≤ ((w7.setCell ⟨w4.heap.size, 0, none⟩ (.bool true)).alloc (.cells #[.slice a5 l c5] 75)).heap.size := by rw [alloc_size, hsz8]; omega
        have A8 : Hid (AxRow ((w7.setCell ⟨w4.heap.size, 0, none⟩ (.bool true)).alloc (.cells #[.slice a5 l c5] 75)) w4.heap.size (.bool true) v (.int .i64 (U : Int)) (.int .i64 (first + j)) ∧ RxRow ((w7.setCell ⟨w4.heap.size, 0, none⟩ (.bool true)).alloc (.cells #[.slice a5 l c5] 75)) w5.heap.size (.bool true) (.slice a5 l c5) (.int .i64 (K : Int)) ∧ Below (w.heap.size + 2) ((w.alloc (.cells #[.slice a n c, .slice p m q, .int .i64 fuel, .bool dead] 39)).alloc (.cells #[.bool false, .slice none 0 0, .int .i64 0, .int .i64 0] 51)) ((w7.setCell ⟨w4.heap.size, 0, none⟩ (.bool true)).alloc (.cells #[.slice a5 l c5] 75)) ∧ Below w4.heap.size w4 ((w7.setCell ⟨w4.heap.size, 0, none⟩ (.bool true)).alloc (.cells #[.slice a5 l c5] 75)) ∧ Below wr.heap.size w7 w7 ∧ OwnB ((w7.setCell ⟨w4.heap.size, 0, none⟩ (.bool true)).alloc (.cells #[.slice a5 l c5] 75)) wr.heap.size a5 (arL (secF d S F m) b0 j) (arF (secF d S F m) b0 j)) := by
          refine ⟨(A7.box.put0 _).below (below_alloc _ _), rowIn.below (rowIn.setOther X7 (by show w5.heap.size ≠ w4.heap.size; omega) _) (below_alloc _ _), ?_, ?_, Below.refl _ _, ?_⟩
          · exact (A7.base.setCell (by show w.heap.size + 2 ≤ w4.heap.size; omega) _).alloc (by rw [hsz8]; omega) _
          · exact ((HBW.out.trans (B7.mono (by omega))).setCell (by show w4.heap.size ≤ w4.heap.size; omega) _).alloc (by rw [hsz8]; omega) _
          · exact (O7.setOther (by show w4.heap.size < wr.heap.size; omega) _).below (below_alloc _ _)
        have HOW7 : Hid (Below wr.heap.size wr w7) := B7
        clear A7 X7 B7 O7
        obtain ⟨i0, hi, hz0, hz1, hz2⟩ := info_parts infoPay
        go_wp2_with (at_builtin; refine wpList_append_own _ rfl _ _ 49 rfl (w4.heap.size + 1) 75 i0 (.agg #[.slice none 0 0]) 1 24 Try.underlying49 hi hz0 hz1 hz2 rfl (by decide) _ j _ rfl HGX.out.row ⟨w7.heap.size, 0, none⟩ 1 1 [.slice a5 l c5] rfl rfl HNW.out (by intro u hu; simp at hu; subst hu; rfl) (by unfold maxLen; omega) (by omega) hz10 ?_)
        intro v' w8 hown8 hgr8 _
        obtain ⟨pv, qv, hvv⟩ := owns_shape hown8
        subst hvv
        have hzw9 : ((w7.setCell ⟨w4.heap.size, 0, none⟩ (.bool true)).alloc (.cells #[.slice a5 l c5] 75)).heap.size = w7.heap.size + 1 := by rw [alloc_size, hsz8]
        have hz8 := hgr8.size
        have G8 : Hid (GathY w8 (w4.heap.size + 1) (.slice pv (j + 1) qv) (j + 1) (arL (secF d S F m) b0) (arF (secF d S F m) b0) (fun i => if i = j then a5 else AA i) (fun i => if i = j then c5 else CC i)) :=
          GathY.more1 (T := wr.heap.size) HGX.out (fun i hi => (HGA.out.each i hi).ltB) (by omega) a5 c5 A8.out.2.2.2.2.2 (by rw [← HLJ.out]; exact hown8) hgr8
        have P8 : Hid (AxRow w8 w4.heap.size (.bool true) v (.int .i64 (U : Int)) (.int .i64 (first + j)) ∧ RxRow w8 w5.heap.size (.bool true) (.slice a5 l c5) (.int .i64 (K : Int)) ∧ Below (w.heap.size + 2) ((w.alloc (.cells #[.slice a n c, .slice p m q, .int .i64 fuel, .bool dead] 39)).alloc (.cells #[.bool false, .slice none 0 0, .int .i64 0, .int .i64 0] 51)) w8 ∧ Below w4.heap.size w4 w8) := by
          refine ⟨rowIn.of_block A8.out.1 (HGX.out.other hgr8 w4.heap.size (by omega) (Or.inl (by omega))), rowIn.of_block A8.out.2.1 (HGA.out.other hgr8 w5.heap.size (by omega) (Or.inr (by omega))), ?_, ?_⟩
          · exact A8.out.2.2.1.grown hgr8 (by omega) (fun b e => by have := HGA.out.block b e; omega)
          · exact A8.out.2.2.2.1.grown hgr8 (by omega) (fun b e => by have := HGA.out.block b e; omega)
        clear hown8 hgr8 r0 r1 r2 r3 rf rl t0 t1 t2 tl HGX HNW A8
        obtain ⟨s0, s1, s2, s3, sf, sl⟩ := P8.out.1.cells
        obtain ⟨t0, t1, t2, tl⟩ := P8.out.2.1.cells
        have wj : IntKind.i64.wrap (first + (j : Int) + 1) = first + (j : Int) + 1 := by rw [IntKind.wrap_i64]; omega
        have HY : Hid (ArSt w w4 a p n c m q fuel dead (((w8.setCell ⟨w4.heap.size, 1, none⟩ (.slice pv (j + 1) qv)).setCell ⟨w4.heap.size, 2, none⟩ (.int .i64 ((U : Int) + (K : Int)))).setCell ⟨w4.heap.size, 3, none⟩ (.int .i64 (first + (j : Int) + 1))) (.bool (decide (0 < j + 1))) (.slice pv (j + 1) qv) (.int .i64 (arU (secF d S F m) b0 (j + 1))) (.int .i64 (first + ((j + 1 : Nat) : Int))) ∧ GathY (((w8.setCell ⟨w4.heap.size, 1, none⟩ (.slice pv (j + 1) qv)).setCell ⟨w4.heap.size, 2, none⟩ (.int .i64 ((U : Int) + (K : Int)))).setCell ⟨w4.heap.size, 3, none⟩ (.int .i64 (first + (j : Int) + 1))) (w4.heap.size + 1) (.slice pv (j + 1) qv) (j + 1) (arL (secF d S F m) b0) (arF (secF d S F m) b0) (fun i => if i = j then a5 else AA i) (fun i => if i = j then c5 else CC i) ∧ Below w4.heap.size w4 (((w8.setCell ⟨w4.heap.size, 1, none⟩ (.slice pv (j + 1) qv)).setCell ⟨w4.heap.size, 2, none⟩ (.int .i64 ((U : Int) + (K : Int)))).setCell ⟨w4.heap.size, 3, none⟩ (.int .i64 (first + (j : Int) + 1))) ∧ nextOf (((w8.setCell ⟨w4.heap.size, 1, none⟩ (.slice pv (j + 1) qv)).setCell ⟨w4.heap.size, 2, none⟩ (.int .i64 ((U : Int) + (K : Int)))).setCell ⟨w4.heap.size, 3, none⟩ (.int .i64 (first + (j : Int) + 1))) w4.heap.size = first + (j : Int) + 1 ∧ nextOf wr w4.heap.size = first + (j : Int)) := by
          have e1 : ((arU (secF d S F m) b0 (j + 1) : Nat) : Int) = (U : Int) + (K : Int) := by
            show ((arU (secF d S F m) b0 j + arK (secF d S F m) (b0 + arU (secF d S F m) b0 j) : Nat) : Int) = _
            rw [← HU.out, ← HK.out]
            simp
          have e2 : first + ((j + 1 : Nat) : Int) = first + (j : Int) + 1 := by omega
          have e3 : decide (0 < j + 1) = true := by simp
          have q1 : AxRow (((w8.setCell ⟨w4.heap.size, 1, none⟩ (.slice pv (j + 1) qv)).setCell ⟨w4.heap.size, 2, none⟩ (.int .i64 ((U : Int) + (K : Int)))).setCell ⟨w4.heap.size, 3, none⟩ (.int .i64 (first + (j : Int) + 1))) w4.heap.size (.bool true) (.slice pv (j + 1) qv) (.int .i64 ((U : Int) + (K : Int))) (.int .i64 (first + (j : Int) + 1)) := ((P8.out.1.put1 _).put2 _).put3 _
          have q4 : (((w8.setCell ⟨w4.heap.size, 1, none⟩ (.slice pv (j + 1) qv)).setCell ⟨w4.heap.size, 2, none⟩ (.int .i64 ((U : Int) + (K : Int)))).setCell ⟨w4.heap.size, 3, none⟩ (.int .i64 (first + (j : Int) + 1))).cell? ⟨w4.heap.size, 3, none⟩ = some (.int .i64 (first + (j : Int) + 1)) := q1.cells.2.2.2.1
          have q5 : wr.cell? ⟨w4.heap.size, 3, none⟩ = some (.int .i64 (first + (j : Int))) := HST.out.box.cells.2.2.2.1
          rw [e1, e2, e3]
          refine ⟨⟨q1, ?_, HST.out.le⟩, ?_, ?_, ?_, ?_⟩
          · exact ((P8.out.2.2.1.setCell (by show w.heap.size + 2 ≤ w4.heap.size; omega) _).setCell (by show w.heap.size + 2 ≤ w4.heap.size; omega) _).setCell (by show w.heap.size + 2 ≤ w4.heap.size; omega) _
          · exact ((G8.out.setOther (by show w4.heap.size < w4.heap.size + 1; omega) _).setOther (by show w4.heap.size < w4.heap.size + 1; omega) _).setOther (by show w4.heap.size < w4.heap.size + 1; omega) _
          · exact ((P8.out.2.2.2.setCell (by show w4.heap.size ≤ w4.heap.size; omega) _).setCell (by show w4.heap.size ≤ w4.heap.size; omega) _).setCell (by show w4.heap.size ≤ w4.heap.size; omega) _
          · unfold nextOf; rw [q4]
          · unfold nextOf; rw [q5]
        clear G8 P8
        go_wp2
        go_roundw
        case rel => exact ⟨j + 1, _, _, _, by omega, HY.out.1, HY.out.2.1, HY.out.2.2.1⟩
        case measure =>
          rw [HY.out.2.2.2.1, HY.out.2.2.2.2]
          omega
      · exact absurd ⟨HOK.out.1, HOK.out.2.1⟩ hno
    · have e : j = J := by omega
      subst e
      obtain ⟨pv, qv, hvv, hoy⟩ := HGA.out.ownY
      subst hvv
      by_cases hle : first + (j : Int) ≤ 2000000000
      · obtain ⟨K, hK⟩ : ∃ K, K = arK (secF d S F m) (b0 + U) := ⟨_, rfl⟩
        have HK : Hid (K = arK (secF d S F m) (b0 + U)) := hK
        have hA511 := hb8.out.2.2
        have HOY : Hid (OwnY wr (w4.heap.size + 1) pv j (arL (secF d S F m) b0) (arF (secF d S F m) b0) AA) := hoy
        clear hK hoy
        go_wp2_with fail
        refine (readRec_st a p n c m q d S L F fuel dead _ (b0 + U) (first + j) wr (HA.out.below (HFIN.out _ HST.out.base)) (HP.out.below (HFIN.out _ HST.out.base)) HV.out (by omega) hn hnc hcm hm HR.out).mono ?_
        rintro e w5 ⟨hb5, ⟨hyes, a5, c5, rfl, ho5⟩ | ⟨hno, rfl⟩⟩
        · have hk1 : 1 ≤ K ∧ K ≤ 625 := by
            have q1 := hyes.2.1
            have q2 := hyes.2.2.1
            unfold arG at q1 q2
            rw [Nat.add_zero] at q1 q2
            rw [HK.out]
            unfold arK
            omega
          have hUK : ¬ U + K ≤ A := fun h => HJN.out ⟨hle, by rw [← HU.out]; exact ⟨hyes.1, hyes.2, by rw [← HK.out]; exact h⟩⟩
          have e5 : catL (recLz (arG (secF d S F m) (b0 + U))) (arK (secF d S F m) (b0 + U)) = arL (secF d S F m) b0 j := by unfold arL; rw [← HU.out]
          have e6 : catF (recLz (arG (secF d S F m) (b0 + U))) (recFz (arG (secF d S F m) (b0 + U))) (arK (secF d S F m) (b0 + U)) = arF (secF d S F m) b0 j := by unfold arF; rw [← HU.out]
          rw [e5, e6] at ho5
          rw [e5, ← HK.out]
          have z5 := hb5.size
          have B5 : Hid (Below wr.heap.size wr w5) := hb5
          have O5 : Hid (OwnB w5 wr.heap.size a5 (arL (secF d S F m) b0 j) (arF (secF d S F m) b0 j)) := ho5
          obtain ⟨l, hl⟩ : ∃ l, l = arL (secF d S F m) b0 j := ⟨_, rfl⟩
          rw [← hl]
          have HLJ : Hid (l = arL (secF d S F m) b0 j) := hl
          clear e5 e6 hb5 ho5 hl r0 r1 r2 r3 rf rl x0 x1 x2 x3 xl hyes
          obtain ⟨r0, r1, r2, r3, rf, rl⟩ := (HST.out.box.below B5.out).cells
          rw [← HU.out] at r2
          go_wp2
          obtain ⟨W6, hW6⟩ : ∃ W6, W6 = w5.alloc (.cells #[.bool true, .slice a5 l c5, .int .i64 (K : Int)] 35) := ⟨_, rfl⟩
          rw [← hW6]
          have B6 : Hid (Below wr.heap.size wr W6) := by
            show Below wr.heap.size wr W6
            rw [hW6]
            exact B5.out.alloc z5 _
          have X6 : Hid (RxRow W6 w5.heap.size (.bool true) (.slice a5 l c5) (.int .i64 (K : Int))) := by
            show RxRow W6 w5.heap.size _ _ _
            rw [hW6]
            exact rxNew w5 _ _ _
          have O6 : Hid (OwnB W6 wr.heap.size a5 (arL (secF d S F m) b0 j) (arF (secF d S F m) b0 j)) := by
            show OwnB W6 _ _ _ _
            rw [hW6]
            exact O5.out.below (below_alloc _ _)
          have z6 := B6.out.size
          have hz4 := HBW.out.size
          have hlw := HST.out.le
          clear hW6 r0 r1 r2 r3 rf rl B5 O5
          have HC : Hid (∀ w7 : World, Below W6.drew.heap.size W6.drew w7 → ((w7.cell? ⟨w.heap.size, 0, none⟩ = some (.slice a n c) ∧ w7.cell? ⟨w.heap.size, 1, none⟩ = some (.slice p m q) ∧ w7.cell? ⟨w.heap.size, 2, none⟩ = some (.int .i64 fuel) ∧ w7.cell? ⟨w.heap.size, 3, none⟩ = some (.bool dead)) ∧ w7.cell? ⟨w4.heap.size, 2, none⟩ = some (.int .i64 (U : Int)) ∧ w7.cell? ⟨w5.heap.size, 0, none⟩ = some (.bool true) ∧ w7.cell? ⟨w5.heap.size, 2, none⟩ = some (.int .i64 (K : Int))) ∧ ArSt w w4 a p n c m q fuel dead w7 (.bool (decide (0 < j))) (.slice pv j qv) (.int .i64 (U : Int)) (.int .i64 (first + j)) ∧ RxRow w7 w5.heap.size (.bool true) (.slice a5 l c5) (.int .i64 (K : Int)) ∧ Below wr.heap.size wr w7 ∧ OwnB w7 wr.heap.size a5 (arL (secF d S F m) b0 j) (arF (secF d S F m) b0 j) ∧ W6.heap.size ≤ w7.heap.size) := by
            intro w7 hb7
            have q1 : Below wr.heap.size wr w7 := B6.out.drew.trans (hb7.mono (by show wr.heap.size ≤ W6.heap.size; exact z6))
            have q2 : Below W6.heap.size W6 w7 := (Below.refl _ _).drew.trans hb7
            have q3 : ArSt w w4 a p n c m q fuel dead w7 (.bool (decide (0 < j))) (.slice pv j qv) (.int .i64 (U : Int)) (.int .i64 (first + j)) := by
              rw [HU.out]
              exact HST.out.keep q1
            obtain ⟨k0, k1, k2, k3, -⟩ := q3.disk
            have q4 := X6.out.below q2
            exact ⟨⟨⟨k0, k1, k2, k3⟩, q3.box.cells.2.2.1, q4.cells.1, q4.cells.2.2.1⟩, q3, q4, q1, O6.out.below q2, q2.size⟩
          obtain ⟨⟨⟨x0, x1, x2, x3⟩, x4, x5, x6⟩, -⟩ := HC.out W6.drew (Below.refl _ _)
          have y0 : W6.cell? ⟨w.heap.size, 0, none⟩ = some (.slice a n c) := x0
          have y1 : W6.cell? ⟨w.heap.size, 1, none⟩ = some (.slice p m q) := x1
          have y2 : W6.cell? ⟨w.heap.size, 2, none⟩ = some (.int .i64 fuel) := x2
          have y3 : W6.cell? ⟨w.heap.size, 3, none⟩ = some (.bool dead) := x3
          have y4 : W6.cell? ⟨w4.heap.size, 2, none⟩ = some (.int .i64 (U : Int)) := x4
          have y5 : W6.cell? ⟨w5.heap.size, 0, none⟩ = some (.bool true) := x5
          have y6 : W6.cell? ⟨w5.heap.size, 2, none⟩ = some (.int .i64 (K : Int)) := x6
          clear x0 x1 x2 x3 x4 x5 x6
          have wk : IntKind.i64.wrap ((U : Int) + (K : Int)) = (U : Int) + (K : Int) := by rw [IntKind.wrap_i64]; omega
          have hgt : (A : Int) < (U : Int) + (K : Int) := by omega
          have hgt' : decide ((A : Int) < (U : Int) + (K : Int)) = true := decide_eq_true hgt
          go_region_held3 (fun w' => (w'.cell? ⟨w.heap.size, 0, none⟩ = some (.slice a n c) ∧ w'.cell? ⟨w.heap.size, 1, none⟩ = some (.slice p m q) ∧ w'.cell? ⟨w.heap.size, 2, none⟩ = some (.int .i64 fuel) ∧ w'.cell? ⟨w.heap.size, 3, none⟩ = some (.bool dead)) ∧ w'.cell? ⟨w4.heap.size, 2, none⟩ = some (.int .i64 (U : Int)) ∧ w'.cell? ⟨w5.heap.size, 0, none⟩ = some (.bool true) ∧ w'.cell? ⟨w5.heap.size, 2, none⟩ = some (.int .i64 (K : Int))) (go_keep)
            (first
            | (go_at_call 61; refine (areaSectors_any a p n c m q fuel dead A W6.drew hn h16.out.1 HX.out.2.2.1).mono ?_; rintro e w7 ⟨rfl, hb7⟩; obtain ⟨⟨⟨u0, u1, u2, u3⟩, u4, u5, u6⟩, A7, X7, B7, O7, z7⟩ := HC.out w7 hb7))
          have AF : Hid (ArSt w w4 a p n c m q fuel dead w7 (.bool (decide (0 < j))) (.slice pv j qv) (.int .i64 (U : Int)) (.int .i64 (first + (j : Int)))) := A7
          have OY : Hid (OwnY w7 (w4.heap.size + 1) pv j (arL (secF d S F m) b0) (arF (secF d S F m) b0) AA) := HOY.out.below B7
          clear y0 y1 y2 y3 y4 y5 y6 u0 u1 u2 u3 u4 u5 u6 hb7 A7 X7 B7 O7
          obtain ⟨g0, g1, g2, g3, gf, gl⟩ := (AF.out.box).cells
          have RB : Hid (AxRow w7 (w.heap.size + 1) (.bool false) (.slice none 0 0) (.int .i64 0) (.int .i64 0)) := by
            have r := axNew (w.alloc (.cells #[.slice a n c, .slice p m q, .int .i64 fuel, .bool dead] 39)) (.bool false) (.slice none 0 0) (.int .i64 0) (.int .i64 0)
            rw [alloc_size] at r
            exact rowIn.of_block r (AF.out.base.block _ (by omega))
          obtain ⟨e0, e1, e2, e3, ef, el⟩ := RB.out.cells
          have hlw2 := AF.out.le
          have hne5 : ¬ (w.heap.size + 1 = w4.heap.size) := by omega
          by_cases hj0 : 0 < j
          · have hd : decide (0 < j) = true := by simpa using hj0
            rw [hd] at g0
            have HFX : Hid (OwnY w7 (w4.heap.size + 1) pv j (arL (secF d S F m) b0) (arF (secF d S F m) b0) AA ∧ Below w.heap.size w w7) := ⟨OY.out, HFIN.out _ AF.out.base⟩
            go_wp2
            refine bodyPost_ret (v := .agg #[.bool true, .slice pv j qv, .int .i64 (U : Int), .int .i64 (first + (j : Int))]) (by simp [results, Try.results28, go_sem, e0, e1, e2, e3]) rfl ?_
            rw [HQQ.out]
            refine ⟨pv, qv, AA, ?_, ?_, ?_⟩
            · rw [hd, if_pos hj0, ← HU.out]
            · exact ((((HFX.out.1.setOther (by show w.heap.size + 1 < w4.heap.size + 1; omega) _).setOther (by show w.heap.size + 1 < w4.heap.size + 1; omega) _).setOther (by show w.heap.size + 1 < w4.heap.size + 1; omega) _).setOther (by show w.heap.size + 1 < w4.heap.size + 1; omega) _).mono (by omega)
            · exact (((HFX.out.2.setCell (by show w.heap.size ≤ w.heap.size + 1; omega) _).setCell (by show w.heap.size ≤ w.heap.size + 1; omega) _).setCell (by show w.heap.size ≤ w.heap.size + 1; omega) _).setCell (by show w.heap.size ≤ w.heap.size + 1; omega) _
          · have hd : decide (0 < j) = false := by simpa using hj0
            have hj1 : j = 0 := by omega
            rw [hd] at g0
            have HFX : Hid (Below w.heap.size w w7) := HFIN.out _ AF.out.base
            go_wp2
            refine bodyPost_ret (v := .agg #[.bool false, .slice none 0 0, .int .i64 0, .int .i64 0]) (by simp [results, Try.results28, go_sem, e0, e1, e2, e3]) rfl ?_
            rw [HQQ.out]
            refine ⟨none, 0, fun _ => none, ?_, Or.inl hj1, ?_⟩
            · rw [hd, if_neg hj0, hj1]
              rfl
            · exact (((HFX.out.setCell (by show w.heap.size ≤ w.heap.size + 1; omega) _).setCell (by show w.heap.size ≤ w.heap.size + 1; omega) _).setCell (by show w.heap.size ≤ w.heap.size + 1; omega) _).setCell (by show w.heap.size ≤ w.heap.size + 1; omega) _
        · have z5 := hb5.size
          have B5 : Hid (Below wr.heap.size wr w5) := hb5
          clear hb5 r0 r1 r2 r3 rf rl x0 x1 x2 x3 xl hno
          go_wp2
          go_quiet (fail)
          have AF : Hid (ArSt w w4 a p n c m q fuel dead ((w5.alloc (.cells #[.bool false, .slice none 0 0, .int .i64 0] 35)).drewN nq) (.bool (decide (0 < j))) (.slice pv j qv) (.int .i64 (U : Int)) (.int .i64 (first + (j : Int)))) := by
            show ArSt _ _ _ _ _ _ _ _ _ _ _ _ _ _ _
            rw [HU.out]
            exact HST.out.keep (below_drewN (B5.out.alloc z5 _) nq)
          have OY : Hid (OwnY ((w5.alloc (.cells #[.bool false, .slice none 0 0, .int .i64 0] 35)).drewN nq) (w4.heap.size + 1) pv j (arL (secF d S F m) b0) (arF (secF d S F m) b0) AA) := HOY.out.below (below_drewN (B5.out.alloc z5 _) nq)
          obtain ⟨g0, g1, g2, g3, gf, gl⟩ := (AF.out.box).cells
          have RB : Hid (AxRow ((w5.alloc (.cells #[.bool false, .slice none 0 0, .int .i64 0] 35)).drewN nq) (w.heap.size + 1) (.bool false) (.slice none 0 0) (.int .i64 0) (.int .i64 0)) := by
            have r := axNew (w.alloc (.cells #[.slice a n c, .slice p m q, .int .i64 fuel, .bool dead] 39)) (.bool false) (.slice none 0 0) (.int .i64 0) (.int .i64 0)
            rw [alloc_size] at r
            exact rowIn.of_block r (AF.out.base.block _ (by omega))
          obtain ⟨e0, e1, e2, e3, ef, el⟩ := RB.out.cells
          have hlw2 := AF.out.le
          have hne5 : ¬ (w.heap.size + 1 = w4.heap.size) := by omega
          by_cases hj0 : 0 < j
          · have hd : decide (0 < j) = true := by simpa using hj0
            rw [hd] at g0
            have HFX : Hid (OwnY ((w5.alloc (.cells #[.bool false, .slice none 0 0, .int .i64 0] 35)).drewN nq) (w4.heap.size + 1) pv j (arL (secF d S F m) b0) (arF (secF d S F m) b0) AA ∧ Below w.heap.size w ((w5.alloc (.cells #[.bool false, .slice none 0 0, .int .i64 0] 35)).drewN nq)) := ⟨OY.out, HFIN.out _ AF.out.base⟩
            go_wp2
            refine bodyPost_ret (v := .agg #[.bool true, .slice pv j qv, .int .i64 (U : Int), .int .i64 (first + (j : Int))]) (by simp [results, Try.results28, go_sem, e0, e1, e2, e3]) rfl ?_
            rw [HQQ.out]
            refine ⟨pv, qv, AA, ?_, ?_, ?_⟩
            · rw [hd, if_pos hj0, ← HU.out]
            · exact ((((HFX.out.1.setOther (by show w.heap.size + 1 < w4.heap.size + 1; omega) _).setOther (by show w.heap.size + 1 < w4.heap.size + 1; omega) _).setOther (by show w.heap.size + 1 < w4.heap.size + 1; omega) _).setOther (by show w.heap.size + 1 < w4.heap.size + 1; omega) _).mono (by omega)
            · exact (((HFX.out.2.setCell (by show w.heap.size ≤ w.heap.size + 1; omega) _).setCell (by show w.heap.size ≤ w.heap.size + 1; omega) _).setCell (by show w.heap.size ≤ w.heap.size + 1; omega) _).setCell (by show w.heap.size ≤ w.heap.size + 1; omega) _
          · have hd : decide (0 < j) = false := by simpa using hj0
            have hj1 : j = 0 := by omega
            rw [hd] at g0
            have HFX : Hid (Below w.heap.size w ((w5.alloc (.cells #[.bool false, .slice none 0 0, .int .i64 0] 35)).drewN nq)) := HFIN.out _ AF.out.base
            go_wp2
            refine bodyPost_ret (v := .agg #[.bool false, .slice none 0 0, .int .i64 0, .int .i64 0]) (by simp [results, Try.results28, go_sem, e0, e1, e2, e3]) rfl ?_
            rw [HQQ.out]
            refine ⟨none, 0, fun _ => none, ?_, Or.inl hj1, ?_⟩
            · rw [hd, if_neg hj0, hj1]
              rfl
            · exact (((HFX.out.setCell (by show w.heap.size ≤ w.heap.size + 1; omega) _).setCell (by show w.heap.size ≤ w.heap.size + 1; omega) _).setCell (by show w.heap.size ≤ w.heap.size + 1; omega) _).setCell (by show w.heap.size ≤ w.heap.size + 1; omega) _
      · have hle' : decide (first + (j : Int) ≤ 2000000000) = false := decide_eq_false hle
        have AF : Hid (ArSt w w4 a p n c m q fuel dead wr (.bool (decide (0 < j))) (.slice pv j qv) (.int .i64 (U : Int)) (.int .i64 (first + (j : Int)))) := by
          show ArSt _ _ _ _ _ _ _ _ _ _ _ _ _ _ _
          rw [HU.out]
          exact HST.out
        have OY : Hid (OwnY wr (w4.heap.size + 1) pv j (arL (secF d S F m) b0) (arF (secF d S F m) b0) AA) := hoy
        clear hoy r0 r1 r2 rf rl x0 x1 x2 x3 xl
        obtain ⟨g0, g1, g2, g3, gf, gl⟩ := (AF.out.box).cells
        have RB : Hid (AxRow wr (w.heap.size + 1) (.bool false) (.slice none 0 0) (.int .i64 0) (.int .i64 0)) := by
          have r := axNew (w.alloc (.cells #[.slice a n c, .slice p m q, .int .i64 fuel, .bool dead] 39)) (.bool false) (.slice none 0 0) (.int .i64 0) (.int .i64 0)
          rw [alloc_size] at r
          exact rowIn.of_block r (AF.out.base.block _ (by omega))
        obtain ⟨e0, e1, e2, e3, ef, el⟩ := RB.out.cells
        have hlw2 := AF.out.le
        have hne5 : ¬ (w.heap.size + 1 = w4.heap.size) := by omega
        by_cases hj0 : 0 < j
        · have hd : decide (0 < j) = true := by simpa using hj0
          rw [hd] at g0
          have HFX : Hid (OwnY wr (w4.heap.size + 1) pv j (arL (secF d S F m) b0) (arF (secF d S F m) b0) AA ∧ Below w.heap.size w wr) := ⟨OY.out, HFIN.out _ AF.out.base⟩
          go_wp2
          refine bodyPost_ret (v := .agg #[.bool true, .slice pv j qv, .int .i64 (U : Int), .int .i64 (first + (j : Int))]) (by simp [results, Try.results28, go_sem, e0, e1, e2, e3]) rfl ?_
          rw [HQQ.out]
          refine ⟨pv, qv, AA, ?_, ?_, ?_⟩
          · rw [hd, if_pos hj0, ← HU.out]
          · exact ((((HFX.out.1.setOther (by show w.heap.size + 1 < w4.heap.size + 1; omega) _).setOther (by show w.heap.size + 1 < w4.heap.size + 1; omega) _).setOther (by show w.heap.size + 1 < w4.heap.size + 1; omega) _).setOther (by show w.heap.size + 1 < w4.heap.size + 1; omega) _).mono (by omega)
          · exact (((HFX.out.2.setCell (by show w.heap.size ≤ w.heap.size + 1; omega) _).setCell (by show w.heap.size ≤ w.heap.size + 1; omega) _).setCell (by show w.heap.size ≤ w.heap.size + 1; omega) _).setCell (by show w.heap.size ≤ w.heap.size + 1; omega) _
        · exact absurd (by omega) hle
end Go.Proofs.Ytbpcafcipncloaa
