import Derived.Test.YtfecgececffdoaaTmIn
namespace Go.Proofs.Ytfecgececffdoaa
open Go.RowKit Go.Deep Go.MapKept
set_option linter.unusedVariables false
set_option maxRecDepth 100000

def cutAt {T : Type} (f : Nat → T) (i j : Nat) : T := if j < i then f j else f (j + 1)
theorem cutAt_lt {T : Type} {f : Nat → T} {i j : Nat} (h : j < i) : cutAt f i j = f j := if_pos h
theorem cutAt_ge {T : Type} {f : Nat → T} {i j : Nat} (h : ¬ j < i) : cutAt f i j = f (j + 1) := if_neg h

/-- What 'release' does to a table. -/
def ReRet (B0 : Nat) (w : World) (tb : Nat) (next : Int) (B1 B2 k : Nat) (I : Nat → Int) (X : Nat → ByteArray) (R : Nat → Int) (V : Nat → Nat) (x : Int) (e : Ending) (w' : World) : Prop :=
  ((∀ i, i < k → I i ≠ x) ∧ e = .returned (.bool false) ∧ w' = w) ∨
  (∃ i, i < k ∧ I i = x ∧ R i ≠ 1 ∧ e = .returned (.bool true) ∧ TabSt w' tb next B1 B2 k I X (upd R i (R i - 1)) V ∧ Below B0 w w') ∨
  (∃ i, i < k ∧ I i = x ∧ R i = 1 ∧ e = .returned (.bool true) ∧ TabSt w' tb next B1 B2 (k - 1) (cutAt I i) (cutAt X i) (cutAt R i) (cutAt V i) ∧ Below B0 w w')

set_option maxHeartbeats 2000000 in
theorem release_any (B0 tb B1 B2 k : Nat) (next : Int) (I : Nat → Int) (X : Nat → ByteArray) (R : Nat → Int) (V : Nat → Nat) (x : Int) (w : World) (h : TabSt w tb next B1 B2 k I X R V) (ho : TabOwn B0 tb B1 B2 k V) (hX : ∀ i j, i < k → j < k → X i = X j → i = j) (hI : ∀ i j, i < k → j < k → I i = I j → i = j) (hR : ∀ j, j < k → 1 ≤ R j ∧ R j ≤ 2000000000) :
    Calls Try.prog 38 #[.pointer (some ⟨tb, 0, none⟩), .int .i64 x] w (ReRet B0 w tb next B1 B2 k I X R V x) := by
  obtain ⟨t0, t1, t2⟩ := h.tab.cells
  have htl := h.tab.lt
  by_cases h5 : ∃ j, j < k ∧ I j = x
  · obtain ⟨i, hi, hix⟩ := h5
    have hl : (Instr.lookup 68 (.map (some B2)) (.int .i64 x) false).run Try.prog w = .ok (.pointer (some ⟨V i, 0, none⟩)) w :=
      h.m2.look_some (kt := 2) (et := 73) (by kernel_rfl) (by kernel_rfl) (d := .int .i64) (show IsKey (.int .i64) (.int .i64 x) from rfl) (fun j _ => show IsKey (.int .i64) (.int .i64 (I j)) from rfl) hi (by rw [hix]) (fun q hq e => by
        have : I q = I i := by injection e with _ e; rw [e, hix]
        rw [hI q i hq hi this])
    obtain ⟨e0, e1, e2⟩ := (h.each i hi).cells
    have ef : ∀ o, w.frozen? ⟨V i, o, none⟩ = false := fun o => by have := h.each i hi; unfold TermAt at this; simp [World.frozen?, this]
    have el := (h.each i hi).lt
    have hst0 := h.setRefs hX hi (R i - 1)
    have hb00 : Below B0 w (w.setCell ⟨V i, 2, none⟩ (.int .i64 (R i - 1))) := (Below.refl _ _).setCell (ho.v i hi) _
    have hz0 : (w.setCell ⟨V i, 2, none⟩ (.int .i64 (R i - 1))).heap.size = w.heap.size := by simp
    obtain ⟨W1, hW1⟩ : ∃ W1, W1 = w.setCell ⟨V i, 2, none⟩ (.int .i64 (R i - 1)) := ⟨_, rfl⟩
    have hst : TabSt W1 tb next B1 B2 k I X (upd R i (R i - 1)) V := by rw [hW1]; exact hst0
    have hb0 : Below B0 w W1 := by rw [hW1]; exact hb00
    have hzz : W1.heap.size = w.heap.size := by rw [hW1]; exact hz0
    clear hst0 hb00 hz0
    have p1 : W1.cell? ⟨tb, 1, none⟩ = some (.map (some B1)) := hst.tab.cells.2.1
    have p2 : W1.cell? ⟨tb, 2, none⟩ = some (.map (some B2)) := hst.tab.cells.2.2
    have p3 : W1.cell? ⟨V i, 1, none⟩ = some (.string (X i)) := (hst.each i hi).cells.2.1
    have p4 : W1.cell? ⟨V i, 2, none⟩ = some (.int .i64 (R i - 1)) := by have := (hst.each i hi).cells.2.2; rwa [upd_same] at this
    have hr := hR i hi
    have HI : Hid (I i = x) := hix
    by_cases h1 : R i = 1
    · have HQ : Hid (R i = 1) := h1
      have hst1 : TabSt W1.drew tb next B1 B2 k I X (upd R i (R i - 1)) V := hst.kept (fun b hb => rfl)
      obtain ⟨w2, hd1, hm1, hg1⟩ := hst1.m1.drop (t := 67) (kt := 9) (et := 73) (d := .string) (key := .string (X i)) (by kernel_rfl) (by kernel_rfl) trivial (fun _ _ => trivial) hi rfl 0
      have k1 : ∀ b, b < w.heap.size → b ≠ B1 → w2.heap[b]? = W1.heap[b]? := fun b hb hne => hg1.block b (by show b < W1.heap.size; omega) (fun e => hne (by injection e))
      have z2 : w.heap.size ≤ w2.heap.size := by have := hg1.size; have e : W1.drew.heap.size = W1.heap.size := rfl; omega
      have hm2 := hst1.m2.kept (k1 B2 (by have := hst.m2.lt; omega) (fun e => h.ne e.symm))
      obtain ⟨w3, hd2, hm3, hg2⟩ := hm2.drop (t := 68) (kt := 2) (et := 73) (d := .int .i64) (key := .int .i64 x) (by kernel_rfl) (by kernel_rfl) rfl (fun _ _ => rfl) hi (by rw [hix]) 0
      have k2 : ∀ b, b < w.heap.size → b ≠ B1 → b ≠ B2 → w3.heap[b]? = W1.heap[b]? := fun b hb h1 h2 => (hg2.block b (by omega) (fun e => h2 (by injection e))).trans (k1 b hb h1)
      have HS : Hid (TabSt w3 tb next B1 B2 (k - 1) (cutAt I i) (cutAt X i) (cutAt R i) (cutAt V i) ∧ Below B0 w w3) := by
        refine ⟨⟨(k2 _ htl (hst.m1.ne_cells hst.tab) (hst.m2.ne_cells hst.tab)).trans hst.tab, (hm1.kept (hg2.block B1 hm1.lt (fun e => h.ne (by injection e)))).congr (fun j _ => ?_) (fun j _ => ?_), hm3.congr (fun j _ => ?_) (fun j _ => ?_), fun j hj => ?_, h.ne⟩, ?_⟩
        · unfold cutAt; split <;> rfl
        · unfold cutAt; split <;> rfl
        · unfold cutAt; split <;> rfl
        · unfold cutAt; split <;> rfl
        · have key : ∀ m, m < k → m ≠ i → TermAt w3 (V m) (I m) (X m) (R m) := fun m hm hne => by
            have q := hst.each m hm
            rw [upd_ne hne] at q
            exact (k2 _ (h.each m hm).lt (hst.m1.ne_cells q) (hst.m2.ne_cells q)).trans q
          by_cases hji : j < i
          · rw [cutAt_lt hji, cutAt_lt hji, cutAt_lt hji, cutAt_lt hji]
            exact key j (by omega) (by omega)
          · rw [cutAt_ge hji, cutAt_ge hji, cutAt_ge hji, cutAt_ge hji]
            exact key (j + 1) (by omega) (by omega)
        · have z1 : B0 ≤ w.heap.size := Nat.le_trans ho.t (Nat.le_of_lt htl)
          exact ((hb0.drew).grown hg1 (by show B0 ≤ W1.heap.size; omega) (fun b e => by injection e with e; have := ho.b1; omega)).grown hg2 (by omega) (fun b e => by injection e with e; have := ho.b2; omega)
      have q1 : w2.cell? ⟨tb, 1, none⟩ = some (.map (some B1)) := (World.cell?_of_block (a := ⟨tb, 1, none⟩) (k1 tb htl (hst.m1.ne_cells hst.tab))).trans p1
      have q2 : w2.cell? ⟨tb, 2, none⟩ = some (.map (some B2)) := (World.cell?_of_block (a := ⟨tb, 2, none⟩) (k1 tb htl (hst.m1.ne_cells hst.tab))).trans p2
      have q3 : w2.cell? ⟨V i, 1, none⟩ = some (.string (X i)) := (World.cell?_of_block (a := ⟨V i, 1, none⟩) (k1 _ el (hst.m1.ne_cells (hst.each i hi)))).trans p3
      have hz : (R i - 1 == 0) = true := by rw [h1]; rfl
      clear h ho hX hI hR hix hst hst1 hm1 hm2 hm3 hg1 hg2 k1 k2 hb0 h1 hzz
      go_enter Try.func38, Try.ntmps38
      go_upto_region 5 with fail
      rw [← hW1]
      clear hW1
      go_wp2
      go_region_held3 (fun w' => w'.cell? ⟨tb, 1, none⟩ = some (.map (some B1)) ∧ w'.cell? ⟨V i, 1, none⟩ = some (.string (X i))) (go_keep) (fail)
      go_wp2
      go_ret
      exact .inr (.inr ⟨i, hi, HI.out, HQ.out, rfl, HS.out⟩)
    · have HQ : Hid (R i ≠ 1) := h1
      have HS : Hid (TabSt W1 tb next B1 B2 k I X (upd R i (R i - 1)) V ∧ Below B0 w W1) := ⟨hst, hb0⟩
      have hz : (R i - 1 == 0) = false := by simp; omega
      clear h ho hX hI hR hix hst hb0 h1 hzz
      go_enter Try.func38, Try.ntmps38
      go_upto_region 5 with fail
      rw [← hW1]
      clear hW1
      go_wp2
      go_ret
      exact .inr (.inl ⟨i, hi, HI.out, HQ.out, rfl, HS.out⟩)
  · have hno : ∀ i, i < k → I i ≠ x := fun i hi e => h5 ⟨i, hi, e⟩
    have hl : (Instr.lookup 68 (.map (some B2)) (.int .i64 x) false).run Try.prog w = .ok (.pointer none) w :=
      h.m2.look_none (kt := 2) (et := 73) (by kernel_rfl) (by kernel_rfl) (d := .int .i64) (show IsKey (.int .i64) (.int .i64 x) from rfl) (fun j _ => show IsKey (.int .i64) (.int .i64 (I j)) from rfl) (fun j hj e => hno j hj (by injection e)) (by kernel_rfl)
    have HNO : Hid (∀ i, i < k → I i ≠ x) := hno
    clear h ho hX hI hR hno h5
    go_enter Try.func38, Try.ntmps38
    go_wp2
    go_ret
    exact .inl ⟨HNO.out, rfl, rfl⟩
end Go.Proofs.Ytfecgececffdoaa
