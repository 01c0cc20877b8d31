import Derived.Test.YtfecgececffdoaaTmTell
namespace Go.Proofs.Ytfecgececffdoaa
open Go.RowKit Go.Deep Go.MapKept
set_option linter.unusedVariables false
set_option maxRecDepth 100000

def upd {T : Type} (f : Nat → T) (k : Nat) (v : T) : Nat → T := fun j => if j = k then v else f j
theorem upd_same {T : Type} (f : Nat → T) (k : Nat) (v : T) : upd f k v k = v := if_pos rfl
theorem upd_ne {T : Type} {f : Nat → T} {k j : Nat} {v : T} (h : j ≠ k) : upd f k v j = f j := if_neg h

theorem upd_upd {T : Type} (f : Nat → T) (k : Nat) (v v' : T) : upd (upd f k v) k v' = upd f k v' := by
  funext j
  unfold upd
  split <;> rfl

/-- The table's blocks are the call's own. -/
structure TabOwn (B0 tb B1 B2 k : Nat) (V : Nat → Nat) : Prop where
  t : B0 ≤ tb
  b1 : B0 ≤ B1
  b2 : B0 ≤ B2
  v : ∀ j, j < k → B0 ≤ V j

theorem len_at {w : World} {B k : Nat} {K V : Nat → Value} (h : MapAt w B k K V) (ty : TypeId) : (Builtin.len_ #[67] ty #[.map (some B)]).run Try.prog w = .ok (.int .i64 k) w := h.len (kt := 9) (et := 73) (by kernel_rfl) ty

def roomB (x : ByteArray) (k : Nat) (next : Int) : Bool := txB x && decide ((k : Int) < 1200) && decide (next < 2000000000)

section
variable {w : World} {tb B1 B2 k : Nat} {next : Int} {I : Nat → Int} {X : Nat → ByteArray} {R : Nat → Int} {V : Nat → Nat}

theorem TabSt.inj (h : TabSt w tb next B1 B2 k I X R V) (hX : ∀ i j, i < k → j < k → X i = X j → i = j) {i j : Nat} (hi : i < k) (hj : j < k) (hne : i ≠ j) : V i ≠ V j := fun e => by
  have h1 := h.each i hi
  have h2 := h.each j hj
  rw [e] at h1
  unfold TermAt at h1 h2
  rw [h1] at h2
  simp at h2
  exact hne (hX i j hi hj h2.2.1)

/-- A term's count changed in its box. -/
theorem TabSt.setRefs (h : TabSt w tb next B1 B2 k I X R V) (hX : ∀ i j, i < k → j < k → X i = X j → i = j) {i : Nat} (hi : i < k) (r : Int) :
    TabSt (w.setCell ⟨V i, 2, none⟩ (.int .i64 r)) tb next B1 B2 k I X (upd R i r) V := by
  have hb : ∀ b, b ≠ V i → (w.setCell ⟨V i, 2, none⟩ (.int .i64 r)).heap[b]? = w.heap[b]? := fun b hb => Below.heap_setCell _ _ _ _ hb
  have hvi := h.each i hi
  refine ⟨(hb _ (fun e => ?_)).trans h.tab, h.m1.kept (hb _ (fun e => (h.m1.ne_cells hvi) e.symm)), h.m2.kept (hb _ (fun e => (h.m2.ne_cells hvi) e.symm)), fun j hj => ?_, h.ne⟩
  · have := h.tab
    rw [e] at this
    unfold TabAt at this
    unfold TermAt at hvi
    rw [hvi] at this
    simp at this
  · by_cases e : j = i
    · subst e
      rw [upd_same]
      unfold TermAt at hvi ⊢
      simp [World.setCell, Array.getElem?_modify, hvi]
    · rw [upd_ne e]
      exact (hb _ (h.inj hX hj hi e)).trans (h.each j hj)

theorem TabSt.setNext (h : TabSt w tb next B1 B2 k I X R V) (m : Int) : TabSt (w.setCell ⟨tb, 0, none⟩ (.int .i64 m)) tb m B1 B2 k I X R V := by
  have hb : ∀ b, b ≠ tb → (w.setCell ⟨tb, 0, none⟩ (.int .i64 m)).heap[b]? = w.heap[b]? := fun b hb => Below.heap_setCell _ _ _ _ hb
  have ht := h.tab
  refine ⟨?_, h.m1.kept (hb _ (fun e => (h.m1.ne_cells ht) e.symm)), h.m2.kept (hb _ (fun e => (h.m2.ne_cells ht) e.symm)), fun j hj => (hb _ (fun e => ?_)).trans (h.each j hj), h.ne⟩
  · unfold TabAt at ht ⊢
    simp [World.setCell, Array.getElem?_modify, ht]
  · have := h.each j hj
    rw [e] at this
    unfold TabAt at ht
    unfold TermAt at this
    rw [ht] at this
    simp at this

/-- What 'put' leaves, as a table. -/
theorem TabSt.putRet {w' : World} {p : Nat} {i r : Int} {x : ByteArray} {e : Ending} {B0 : Nat} (h : TabSt w tb next B1 B2 k I X R V) (ho : TabOwn B0 tb B1 B2 k V) (hp : TermAt w p i x r) (hr : PutRet w B1 B2 k p i x I X V e w') :
    TabSt w' tb next B1 B2 (k + 1) (upd I k i) (upd X k x) (upd R k r) (upd V k p) ∧ Below B0 w w' := by
  obtain ⟨_, ⟨w2, g1, g2⟩, m1, m2⟩ := hr
  have keep : ∀ b, b < w.heap.size → b ≠ B1 → b ≠ B2 → w'.heap[b]? = w.heap[b]? := fun b hb h1 h2 =>
    (g2.block b (Nat.lt_of_lt_of_le hb g1.size) (fun e => h2 (by injection e))).trans (g1.block b hb (fun e => h1 (by injection e)))
  refine ⟨⟨(keep _ h.tab.lt (h.m1.ne_cells h.tab) (h.m2.ne_cells h.tab)).trans h.tab, m1, m2, fun j hj => ?_, h.ne⟩, ?_⟩
  · by_cases e : j = k
    · subst e
      rw [upd_same, upd_same, upd_same, upd_same]
      exact (keep p hp.lt (h.m1.ne_cells hp) (h.m2.ne_cells hp)).trans hp
    · rw [upd_ne e, upd_ne e, upd_ne e, upd_ne e]
      have q := h.each j (by omega)
      exact (keep _ q.lt (h.m1.ne_cells q) (h.m2.ne_cells q)).trans q
  · have z1 : B0 ≤ w.heap.size := Nat.le_trans ho.t (Nat.le_of_lt h.tab.lt)
    exact (((Below.refl _ _).drew.grown g1 z1 (fun b e => by injection e with e; have := ho.b1; omega)).drew).grown g2 (Nat.le_trans z1 g1.size) (fun b e => by injection e with e; have := ho.b2; omega)
end

set_option maxHeartbeats 1000000 in
theorem hasRoom_any (tb B1 B2 k : Nat) (next : Int) (I : Nat → Int) (X : Nat → ByteArray) (R : Nat → Int) (V : Nat → Nat) (x : ByteArray) (w : World) (h : TabSt w tb next B1 B2 k I X R V) :
    Calls Try.prog 48 #[.pointer (some ⟨tb, 0, none⟩), .string x] w fun e w' => e = .returned (.bool (roomB x k next)) ∧ w' = w := by
  obtain ⟨t0, t1, t2⟩ := h.tab.cells
  have hl := fun ty => len_at h.m1 ty
  clear h
  cases h1 : txB x with
  | false =>
    have HE : Hid (roomB x k next = false) := by show _ = _; unfold roomB; rw [h1]; rfl
    go_enter Try.func48, Try.ntmps48
    go_wp2_with (first
      | (go_at_call 55; refine (isText_at _ _ h1 _).mono ?_; rintro e w1 ⟨rfl, rfl⟩)
      | fail)
    go_ret
    exact ⟨by rw [HE.out]; rfl, rfl⟩
  | true =>
    by_cases h2 : (k : Int) < 1200
    · have HE : Hid (roomB x k next = decide (next < 2000000000)) := by show _ = _; unfold roomB; rw [h1, decide_eq_true h2]; rfl
      go_enter Try.func48, Try.ntmps48
      go_wp2_with (first
        | (go_at_call 55; refine (isText_at _ _ h1 _).mono ?_; rintro e w1 ⟨rfl, rfl⟩)
        | fail)
      go_ret
      exact ⟨by rw [HE.out]; rfl, rfl⟩
    · have HE : Hid (roomB x k next = false) := by show _ = _; unfold roomB; rw [h1, decide_eq_false h2]; rfl
      go_enter Try.func48, Try.ntmps48
      go_wp2_with (first
        | (go_at_call 55; refine (isText_at _ _ h1 _).mono ?_; rintro e w1 ⟨rfl, rfl⟩)
        | fail)
      go_ret
      exact ⟨by rw [HE.out]; rfl, rfl⟩

set_option maxHeartbeats 1000000 in
theorem enter_any (B0 tb B1 B2 k : Nat) (next : Int) (I : Nat → Int) (X : Nat → ByteArray) (R : Nat → Int) (V : Nat → Nat) (x : ByteArray) (w : World) (h : TabSt w tb next B1 B2 k I X R V) (ho : TabOwn B0 tb B1 B2 k V) (n1 : ∀ j, j < k → X j ≠ x) (n2 : ∀ j, j < k → I j ≠ next) (hm : next < 2000000000) (hp0 : 0 ≤ next) :
    Calls Try.prog 49 #[.pointer (some ⟨tb, 0, none⟩), .string x] w fun e w' => e = .returned (.pointer (some ⟨w.heap.size, 0, none⟩)) ∧ TabSt w' tb (next + 1) B1 B2 (k + 1) (upd I k next) (upd X k x) (upd R k 0) (upd V k w.heap.size) ∧ Below B0 w w' := by
  obtain ⟨t0, t1, t2⟩ := h.tab.cells
  have htl := h.tab.lt
  have HT : Hid (TabSt (w.alloc (.cells #[.int .i64 next, .string x, .int .i64 0] 51)) tb next B1 B2 k I X R V ∧ TermAt (w.alloc (.cells #[.int .i64 next, .string x, .int .i64 0] 51)) w.heap.size next x 0) := ⟨h.kept (fun b hb => (below_alloc _ _).block b hb), blk_alloc_new _ _⟩
  have HN : Hid ((∀ j, j < k → X j ≠ x) ∧ (∀ j, j < k → I j ≠ next)) := ⟨n1, n2⟩
  have HO : Hid (TabOwn B0 tb B1 B2 k V) := ho
  clear h n1 n2 ho
  go_enter Try.func49, Try.ntmps49
  go_wp2_with fail
  refine (put_any tb B1 B2 k w.heap.size next next 0 x I X V _ HT.out.1.tab HT.out.2 HT.out.1.ne HT.out.1.m1 HT.out.1.m2 HN.out.1 HN.out.2).mono ?_
  intro e w2 hput
  obtain ⟨v4, rfl⟩ := hput.1
  obtain ⟨hst, hbel⟩ := HT.out.1.putRet HO.out HT.out.2 hput
  have HS : Hid (TabSt w2 tb next B1 B2 (k + 1) (upd I k next) (upd X k x) (upd R k 0) (upd V k w.heap.size) ∧ Below B0 w w2) := ⟨hst, (((Below.refl _ _).alloc (by have := HO.out.t; omega) _)).trans hbel⟩
  obtain ⟨u0, u1, u2⟩ := hst.tab.cells
  have uf : ∀ o, w2.frozen? ⟨tb, o, none⟩ = false := fun o => by have := hst.tab; unfold TabAt at this; simp [World.frozen?, this]
  have ul := hst.tab.lt
  clear hput hst hbel HT HN t0 t1 t2
  go_wp2
  go_ret
  refine ⟨rfl, HS.out.1.setNext _, HS.out.2.setCell ?_ _⟩
  exact HO.out.t

/-- What 'intern' does to a table. -/
def InRet (B0 : Nat) (w : World) (tb : Nat) (next : Int) (B1 B2 k : Nat) (I : Nat → Int) (X : Nat → ByteArray) (R : Nat → Int) (V : Nat → Nat) (x : ByteArray) (e : Ending) (w' : World) : Prop :=
  (((∃ i, i < k ∧ X i = x ∧ R i = 2000000000) ∨ ((∀ i, i < k → X i ≠ x) ∧ roomB x k next = false)) ∧ e = .returned (.tuple #[.int .i64 0, .bool false]) ∧ w' = w) ∨
  (∃ i, i < k ∧ X i = x ∧ R i ≠ 2000000000 ∧ e = .returned (.tuple #[.int .i64 (I i), .bool true]) ∧ TabSt w' tb next B1 B2 k I X (upd R i (R i + 1)) V ∧ Below B0 w w') ∨
  ((∀ i, i < k → X i ≠ x) ∧ roomB x k next = true ∧ e = .returned (.tuple #[.int .i64 next, .bool true]) ∧ TabSt w' tb (next + 1) B1 B2 (k + 1) (upd I k next) (upd X k x) (upd R k 1) (upd V k w.heap.size) ∧ Below B0 w w')

set_option maxHeartbeats 2000000 in
theorem intern_any (B0 tb B1 B2 k : Nat) (next : Int) (I : Nat → Int) (X : Nat → ByteArray) (R : Nat → Int) (V : Nat → Nat) (x : ByteArray) (w : World) (h : TabSt w tb next B1 B2 k I X R V) (ho : TabOwn B0 tb B1 B2 k V) (hX : ∀ i j, i < k → j < k → X i = X j → i = j) (hI : ∀ j, j < k → I j < next) (hp0 : 0 ≤ next) (hR : ∀ j, j < k → 1 ≤ R j ∧ R j ≤ 2000000000) :
    Calls Try.prog 32 #[.pointer (some ⟨tb, 0, none⟩), .string x] w (InRet B0 w tb next B1 B2 k I X R V x) := by
  obtain ⟨t0, t1, t2⟩ := h.tab.cells
  have htl := h.tab.lt
  by_cases h5 : ∃ j, j < k ∧ X j = x
  · obtain ⟨i, hi, hix⟩ := h5
    have hl := h.look hX hi hix
    obtain ⟨e0, e1, e2⟩ := (h.each i hi).cells
    have ef : ∀ o, w.frozen? ⟨V i, o, none⟩ = false := fun o => by have := h.each i hi; unfold TermAt at this; simp [World.frozen?, this]
    have el := (h.each i hi).lt
    have HS : Hid (TabSt (w.setCell ⟨V i, 2, none⟩ (.int .i64 (R i + 1))) tb next B1 B2 k I X (upd R i (R i + 1)) V ∧ Below B0 w (w.setCell ⟨V i, 2, none⟩ (.int .i64 (R i + 1)))) := ⟨h.setRefs hX hi _, (Below.refl _ _).setCell (ho.v i hi) _⟩
    have hr := hR i hi
    have HX : Hid (X i = x) := hix
    clear h ho hX hI hR hix
    by_cases hmax : R i = 2000000000
    · have HQ : Hid (R i = 2000000000) := hmax
      have hb : (R i == 2000000000) = true := by rw [hmax]; rfl
      clear hmax
      go_enter Try.func32, Try.ntmps32
      go_wp2
      go_ret2
      exact .inl ⟨.inl ⟨i, hi, HX.out, HQ.out⟩, rfl, rfl⟩
    · have hb : (R i == 2000000000) = false := by simp [hmax]
      have HQ : Hid (R i ≠ 2000000000) := hmax
      clear hmax
      go_enter Try.func32, Try.ntmps32
      go_wp2
      go_ret2
      exact .inr (.inl ⟨i, hi, HX.out, HQ.out, rfl, HS.out⟩)
  · have hno : ∀ i, i < k → X i ≠ x := fun i hi e => h5 ⟨i, hi, e⟩
    have hl : (Instr.lookup 67 (.map (some B1)) (.string x) false).run Try.prog w = .ok (.pointer none) w :=
      h.m1.look_none (kt := 9) (et := 73) (by kernel_rfl) (by kernel_rfl) (d := .string) (show IsKey .string (.string x) from trivial) (fun j _ => show IsKey .string (.string (X j)) from trivial) (fun j hj e => hno j hj (by injection e)) (by kernel_rfl)
    have HT : Hid (TabSt w tb next B1 B2 k I X R V) := h
    have HO : Hid (TabOwn B0 tb B1 B2 k V) := ho
    have HN : Hid (∀ i, i < k → X i ≠ x) := hno
    have HI : Hid (∀ j, j < k → I j ≠ next) := fun j hj e => by have := hI j hj; omega
    have HX : Hid (∀ i j, i < k → j < k → X i = X j → i = j) := hX
    clear h ho hX hI hR hno h5
    cases hroom : roomB x k next with
    | false =>
      go_enter Try.func32, Try.ntmps32
      go_wp2_with (first
        | (go_at_call 48; refine (hasRoom_any tb B1 B2 k next I X R V x w HT.out).mono ?_; rintro e w1 ⟨rfl, rfl⟩; rw [hroom])
        | fail)
      go_ret2
      exact .inl ⟨.inr ⟨HN.out, hroom⟩, rfl, rfl⟩
    | true =>
      have hnm : next < 2000000000 := by unfold roomB at hroom; simp at hroom; exact hroom.2
      go_enter Try.func32, Try.ntmps32
      go_wp2_with (first
        | (go_at_call 48; refine (hasRoom_any tb B1 B2 k next I X R V x w HT.out).mono ?_; rintro e w1 ⟨rfl, rfl⟩; rw [hroom])
        | fail)
      refine (enter_any B0 tb B1 B2 k next I X R V x _ HT.out HO.out HN.out HI.out hnm hp0).mono ?_
      rintro e w2 ⟨rfl, hst, hbel⟩
      have hterm := hst.each k (by omega)
      rw [upd_same, upd_same, upd_same, upd_same] at hterm
      obtain ⟨e0, e1, e2⟩ := hterm.cells
      have ef : ∀ o, w2.frozen? ⟨w1.heap.size, o, none⟩ = false := fun o => by unfold TermAt at hterm; simp [World.frozen?, hterm]
      have el := hterm.lt
      have hinj : ∀ i j, i < k + 1 → j < k + 1 → upd X k x i = upd X k x j → i = j := fun i j hi hj e => by
        by_cases e1 : i = k
        · by_cases e2 : j = k
          · omega
          · subst e1
            rw [upd_same, upd_ne e2] at e
            exact absurd e.symm (HN.out j (by omega))
        · by_cases e2 : j = k
          · subst e2
            rw [upd_same, upd_ne e1] at e
            exact absurd e (HN.out i (by omega))
          · rw [upd_ne e1, upd_ne e2] at e
            exact HX.out i j (by omega) (by omega) e
      have hst2 := hst.setRefs hinj (i := k) (by omega) 1
      rw [upd_same, upd_upd] at hst2
      have HS : Hid (TabSt (w2.setCell ⟨w1.heap.size, 2, none⟩ (.int .i64 1)) tb (next + 1) B1 B2 (k + 1) (upd I k next) (upd X k x) (upd R k 1) (upd V k w1.heap.size) ∧ Below B0 w1 (w2.setCell ⟨w1.heap.size, 2, none⟩ (.int .i64 1))) := ⟨hst2, hbel.setCell (by have := HO.out.t; show B0 ≤ w1.heap.size; omega) _⟩
      clear hst hst2 hbel hterm hinj
      go_wp2
      go_ret2
      exact .inr (.inr ⟨HN.out, hroom, rfl, HS.out⟩)
end Go.Proofs.Ytfecgececffdoaa
