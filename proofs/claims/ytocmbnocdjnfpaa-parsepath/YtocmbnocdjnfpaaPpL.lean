import Derived.Test.YtocmbnocdjnfpaaPpK
import Derived.Deep.CutRange
namespace Go.Proofs.Ytocmbnocdjnfpaa
open Go.RowKit Go.Deep
set_option linter.unusedVariables false
set_option maxRecDepth 100000

theorem conv_sb (x : ByteArray) (W : World) : ∃ (c : Nat) (W' : World), (convert 9 33 (.string x)).run Try.prog W = .ok (.slice (some ⟨W.heap.size, 0, none⟩) x.size c) W' ∧ Below W.heap.size W W' ∧ RdL W' (some ⟨W.heap.size, 0, none⟩) (bl x) ∧ W'.heap.size = W.heap.size + 1 := by
  refine ⟨_, _, run_bytes_of_string W _ _ 5 x (by kernel_rfl) (by kernel_rfl) (by kernel_rfl), ((Below.refl _ _).drew).alloc (by exact Nat.le_refl _) _, .inr ⟨W.heap.size, 0, rfl, fun i hi => ?_⟩, by simp⟩
  rw [bl_length] at hi
  rw [Nat.zero_add]
  have := World.cell?_alloc_mark W.drew (bytesRow x (grownCap W x.size 0 5)) 5 ((bytesRow x (grownCap W x.size 0 5)).size, (bytesRow x (grownCap W x.size 0 5)).size + 1) i
  refine this.trans ?_
  unfold bytesRow lf bl
  rw [Array.getElem?_append_left (by simp; exact hi), Array.getElem?_map]
  have hx : x.data[i]? = some x.data[i] := Array.getElem?_eq_getElem hi
  rw [hx, List.getD_eq_getElem?_getD, List.getElem?_map, Array.getElem?_toList, hx]
  rfl
theorem plain_any (b : Nat) (w : World) : Calls Try.prog 128 #[.int .u8 (b : Int)] w fun e w' => e = .returned (.bool (decide (32 ≤ b ∧ b ≤ 126))) ∧ w' = w := by
  by_cases h1 : 32 ≤ b
  · by_cases h2 : b ≤ 126
    · have m1 : (32 : Int) ≤ (b : Int) := by omega
      have m2 : (b : Int) ≤ 126 := by omega
      have HE : Hid (decide (32 ≤ b ∧ b ≤ 126) = true) := decide_eq_true ⟨h1, h2⟩
      go_enter Try.func128, Try.ntmps128
      go_wp2
      go_ret
      (first | exact ⟨by rw [HE.out]; rfl, rfl⟩ | exact ⟨rfl, rfl⟩)
    · have m1 : (32 : Int) ≤ (b : Int) := by omega
      have m2 : ¬ (b : Int) ≤ 126 := by omega
      have m3 : decide ((b : Int) ≤ 126) = false := decide_eq_false m2
      have HE : Hid (decide (32 ≤ b ∧ b ≤ 126) = false) := decide_eq_false (fun h => h2 h.2)
      go_enter Try.func128, Try.ntmps128
      go_wp2
      go_ret
      (first | exact ⟨by rw [HE.out]; rfl, rfl⟩ | exact ⟨rfl, rfl⟩)
  · have m1 : ¬ (32 : Int) ≤ (b : Int) := by omega
    have m3 : decide ((32 : Int) ≤ (b : Int)) = false := decide_eq_false m1
    have HE : Hid (decide (32 ≤ b ∧ b ≤ 126) = false) := decide_eq_false (fun h => h1 h.1)
    go_enter Try.func128, Try.ntmps128
    go_wp2
    go_ret
    (first | exact ⟨by rw [HE.out]; rfl, rfl⟩ | exact ⟨rfl, rfl⟩)
theorem qB_byt (b : Int) (h : 0 ≤ b ∧ b < 256) : Byt (qB b) := by
  unfold qB
  intro x hx
  split at hx
  · simp at hx
    omega
  · split at hx
    · simp at hx
      omega
    · simp at hx
      unfold hexC at hx
      rcases hx with rfl | rfl | rfl | rfl <;> (try split) <;> omega
theorem bl_byt (x : ByteArray) : Byt (bl x) := by
  unfold bl
  intro y hy
  obtain ⟨b, _, rfl⟩ := List.mem_map.1 hy
  have := b.toNat_lt
  omega
theorem qL_byt (x : ByteArray) : Byt (qL (bl x)) := by
  unfold qL
  intro y hy
  simp only [List.mem_cons, List.mem_append, List.mem_flatMap, List.not_mem_nil, or_false] at hy
  rcases hy with rfl | ⟨z, hz, hy⟩ | rfl
  · omega
  · exact qB_byt z (bl_byt x z hz) y hy
  · omega
theorem BdA.below {w w' : World} {B b : Nat} {l : List Int} (h : BdA w B b l) (hb : Below w.heap.size w w') : BdA w' B b l := by
  rcases h with ⟨q1, v, q2, q3, q4⟩ | ⟨q1, v, q2, q3, q4⟩
  · exact .inl ⟨q1, v, (hb.block _ (Array.getElem?_eq_some_iff.1 q2).1).trans q2, q3.kept (w' := w') (row := none) ⟨hb.os, hb.tape, hb.output, hb.size, fun k hk _ => hb.block k hk⟩ (by cases hv : v.ownBlock <;> simp), q4⟩
  · exact .inr ⟨q1, v, (hb.block _ (Array.getElem?_eq_some_iff.1 q2).1).trans q2, q3.kept (w' := w') (row := none) ⟨hb.os, hb.tape, hb.output, hb.size, fun k hk _ => hb.block k hk⟩ (by cases hv : v.ownBlock <;> simp), q4⟩
theorem BdA.lt {w : World} {B b : Nat} {l : List Int} (h : BdA w B b l) : b < w.heap.size := by
  rcases h with ⟨q1, v, q2, q3, q4⟩ | ⟨q1, v, q2, q3, q4⟩ <;> exact (Array.getElem?_eq_some_iff.1 q2).1
/-- The builder of quoted, the text's bytes beside it. -/
def QS (w W : World) (g8 : Nat) (wr : World) (l : List Int) : Prop := BdA wr w.heap.size w.heap.size l ∧ Below w.heap.size w wr ∧ g8 < wr.heap.size ∧ wr.heap[g8]? = W.heap[g8]? ∧ ∀ v, wr.cell? ⟨w.heap.size, 1, none⟩ = some v → v.ownBlock ≠ some g8
theorem QS.below {w W wr W1 : World} {g8 : Nat} {l : List Int} (h : QS w W g8 wr l) (hb : Below wr.heap.size wr W1) : QS w W g8 W1 l := by
  obtain ⟨h1, h2, h3, h4, h5⟩ := h
  refine ⟨h1.below hb, h2.trans (hb.mono h2.size), Nat.lt_of_lt_of_le h3 hb.size, (hb.block _ h3).trans h4, fun v hv => h5 v ?_⟩
  rw [← hv]
  exact (hb.cell (p := ⟨w.heap.size, 1, none⟩) h1.lt).symm
theorem QS.step {w W W1 w2 : World} {g8 : Nat} {l l' : List Int} (h : QS w W g8 W1 l) (hne : g8 ≠ w.heap.size) (hB : BdA w2 w.heap.size w.heap.size l') (hb : Below w.heap.size W1 w2) (ho : ∀ g8, g8 < W1.heap.size → g8 ≠ w.heap.size → (∀ v, W1.cell? ⟨w.heap.size, 1, none⟩ = some v → v.ownBlock ≠ some g8) → w2.heap[g8]? = W1.heap[g8]? ∧ ∀ v, w2.cell? ⟨w.heap.size, 1, none⟩ = some v → v.ownBlock ≠ some g8) : QS w W g8 w2 l' := by
  obtain ⟨h1, h2, h3, h4, h5⟩ := h
  obtain ⟨q1, q2⟩ := ho g8 h3 hne h5
  exact ⟨hB, h2.trans hb, Nat.lt_of_lt_of_le h3 hb.size, q1.trans h4, q2⟩

set_option maxHeartbeats 2000000 in
theorem quoted_any (x : ByteArray) (w : World) (hx : x.size ≤ 1000) : Calls Try.prog 92 #[.string x] w fun e w' => e = .returned (.string (strT (qL (bl x)))) ∧ Below w.heap.size w w' := by
  have HWb : Hid (∀ (W : World) (l : List Int) (c : Int), BdA W w.heap.size w.heap.size l → l.length ≤ 1048576 → w.heap.size ≤ W.heap.size → Calls Try.prog 126 #[.pointer (some ⟨w.heap.size, 0, none⟩), .int .u8 c] W fun e w' => e = .returned .nilIface ∧ BdA w' w.heap.size w.heap.size (l ++ [c]) ∧ Below w.heap.size W w' ∧ (∀ g8, g8 < W.heap.size → g8 ≠ w.heap.size → (∀ v, W.cell? ⟨w.heap.size, 1, none⟩ = some v → v.ownBlock ≠ some g8) → w'.heap[g8]? = W.heap[g8]? ∧ ∀ v, w'.cell? ⟨w.heap.size, 1, none⟩ = some v → v.ownBlock ≠ some g8)) := fun W l c h1 h2 h3 => writeByte_any w.heap.size w.heap.size l c W h1 h2 h3
  have B0 : Hid (BdA (w.alloc (.cells #[.pointer none, .slice none 0 0] 173)) w.heap.size w.heap.size []) := .inl ⟨Nat.le_refl _, .slice none 0 0, Array.getElem?_push_size, ⟨rfl, .inl ⟨rfl, rfl⟩⟩, by simp [Value.ownBlock]⟩
  go_enter Try.func92, Try.ntmps92
  go_wp2_with fail
  refine (HWb.out _ [] 34 B0.out (by simp) (by simp)).mono ?_
  rintro e w1 ⟨rfl, hB1, hb1, _⟩
  have hbb : Below w.heap.size w w1 := (below_alloc _ _).trans hb1
  obtain ⟨c8, W, hcv, hbW, hrW, hzW⟩ := conv_sb x w1
  obtain ⟨g8, hg8⟩ : ∃ g8, g8 = w1.heap.size := ⟨_, rfl⟩
  have hlt1 : w.heap.size < w1.heap.size := by
    have := hb1.size
    simp at this
    omega
  have H0 : Hid (QS w W g8 W [34]) := by
    have hcell : W.cell? ⟨w.heap.size, 1, none⟩ = w1.cell? ⟨w.heap.size, 1, none⟩ := hbW.cell hlt1
    refine ⟨?_, hbb.trans (hbW.mono hbb.size), by omega, rfl, fun v hv e => ?_⟩
    · rcases hB1 with ⟨q1, v, q2, q3, q4⟩ | ⟨q1, v, q2, q3, q4⟩
      · exact .inl ⟨q1, v, (hbW.block _ hlt1).trans q2, q3.kept (w' := W) (row := none) ⟨hbW.os, hbW.tape, hbW.output, hbW.size, fun k hk _ => hbW.block k hk⟩ (by cases hv : v.ownBlock <;> simp), q4⟩
      · exact .inr ⟨q1, v, (hbW.block _ hlt1).trans q2, q3.kept (w' := W) (row := none) ⟨hbW.os, hbW.tape, hbW.output, hbW.size, fun k hk _ => hbW.block k hk⟩ (by cases hv : v.ownBlock <;> simp), q4⟩
    · rw [hcell] at hv
      have hown : w1.ownsRow w.heap.size 5 1 v ([] ++ [(34 : Int)]).length (bv ([] ++ [34])) := by
        rcases hB1 with ⟨q1, v', q2, q3, q4⟩ | ⟨q1, v', q2, q3, q4⟩
        all_goals
          rw [Go.Lib.cell_of_heap q2] at hv
          injection hv with hv
          subst hv
          exact q3
      have := (hown.lt _ e).2
      omega
  have HRd : Hid (RdL W (some ⟨g8, 0, none⟩) (bl x)) := by rw [hg8]; exact hrW
  rw [← hg8] at hcv
  have hgne : g8 ≠ w.heap.size := by omega
  clear hB1 hb1 hbb hbW hrW hzW B0 hlt1 hg8
  go_wp2
  go_loopw [5, 10] (fun _ i wr => ∃ (k : Nat) (l : List Int), k ≤ x.size ∧ i = .int .i64 k ∧ l = 34 :: ((bl x).take k).flatMap qB ∧ QS w W g8 wr l) (fun _ i _ => x.size - (intOf i).toNat)
  case atStart => exact ⟨0, [34], Nat.zero_le _, rfl, by simp, H0.out⟩
  case round =>
    obtain ⟨k, l, hk, rfl, hl, hq⟩ := hrel
    have HQ : Hid (QS w W g8 wr l ∧ l.length ≤ 4001 ∧ l = 34 :: ((bl x).take k).flatMap qB) := by
      refine ⟨hq, ?_, hl⟩
      have h1 := qM_length ((bl x).take k)
      have h2 : ((bl x).take k).length ≤ k := List.length_take_le _ _
      rw [hl, List.length_cons]
      omega
    have hc8 : ∀ j, wr.cell? ⟨g8, j, none⟩ = W.cell? ⟨g8, j, none⟩ := fun j => by unfold World.cell?; rw [hq.2.2.2.1]
    clear hq hl
    by_cases hlt : k < x.size
    · obtain ⟨b, hb1, hb2⟩ := bl_get hlt
      have hbb : b.toNat < 256 := b.toNat_lt
      obtain ⟨bn, hbn⟩ : ∃ bn, bn = b.toNat := ⟨_, rfl⟩
      rw [← hbn] at hb2 hbb
      have hck : wr.cell? ⟨g8, k, none⟩ = some (.int .u8 (bn : Int)) := by
        rw [hc8]
        rcases HRd.out with h0 | ⟨b', o', e, hc⟩
        · rw [bl_length] at h0; omega
        · injection e with e
          injection e with e1 e2
          subst e1 e2
          have := hc k (by rw [bl_length]; exact hlt)
          rw [Nat.zero_add] at this
          rw [this]
          unfold lf
          rw [List.getD_eq_getElem?_getD, hb2]
          rfl
      clear hb1 hbn hc8
      have k0 : (0 : Int) ≤ (k : Int) := by omega
      have k1 : (k : Int) < (x.size : Int) := by omega
      by_cases h1 : bn = 34
      · subst h1
        have HG : Hid ((bl x)[k]? = some 34 ∧ qB 34 = [92, 34]) := ⟨hb2, rfl⟩
        clear hb2
        have HWr : Hid (Calls Try.prog 127 #[.pointer (some ⟨w.heap.size, 0, none⟩), .slice (some ⟨wr.heap.size, 0, none⟩) 2 2] (wr.alloc (.cells #[.int .u8 92, .int .u8 34] 5)) fun e w' => e = .returned (.tuple #[.int .i64 2, .nilIface]) ∧ QS w W g8 w' (l ++ [92, 34])) := by
          have hb1 : Below wr.heap.size wr (wr.alloc (.cells #[.int .u8 92, .int .u8 34] 5)) := below_alloc _ _
          have hq := HQ.out.1.below hb1
          refine (write_any w.heap.size w.heap.size l ⟨wr.heap.size, 0, none⟩ 2 2 [92, 34] (wr.alloc (.cells #[.int .u8 92, .int .u8 34] 5)) hq.1 rfl (by omega) (by omega) (by have := HQ.out.1.1.lt; show wr.heap.size ≠ _; omega) (new_cells wr [.int .u8 92, .int .u8 34] _) (by have := HQ.out.2.1; omega) hq.2.1.size).mono ?_
          rintro e w' ⟨q1, q2, q3, q4⟩
          exact ⟨q1, hq.step hgne q2 q3 q4⟩
        go_wp2_with fail
        refine HWr.out.mono ?_
        rintro e w2 ⟨rfl, hq2⟩
        have H2 : Hid (QS w W g8 w2 (l ++ [92, 34])) := hq2
        clear hq2 HWr
        go_wp2
        go_roundw
        case rel => exact ⟨k + 1, l ++ [92, 34], by omega, by go_num, by rw [qM_take (bl x) k HG.out.1, HG.out.2, ← List.cons_append, ← HQ.out.2.2], H2.out⟩
        case measure => simp [intOf]; omega
      have n1 : ¬ (bn : Int) = 34 := by omega
      have d1 : ((bn : Int) == 34) = false := by simp [n1]
      by_cases h2 : bn = 92
      · subst h2
        have HG : Hid ((bl x)[k]? = some 92 ∧ qB 92 = [92, 92]) := ⟨hb2, rfl⟩
        clear hb2
        have HWr : Hid (Calls Try.prog 127 #[.pointer (some ⟨w.heap.size, 0, none⟩), .slice (some ⟨wr.heap.size, 0, none⟩) 2 2] (wr.alloc (.cells #[.int .u8 92, .int .u8 92] 5)) fun e w' => e = .returned (.tuple #[.int .i64 2, .nilIface]) ∧ QS w W g8 w' (l ++ [92, 92])) := by
          have hb1 : Below wr.heap.size wr (wr.alloc (.cells #[.int .u8 92, .int .u8 92] 5)) := below_alloc _ _
          have hq := HQ.out.1.below hb1
          refine (write_any w.heap.size w.heap.size l ⟨wr.heap.size, 0, none⟩ 2 2 [92, 92] (wr.alloc (.cells #[.int .u8 92, .int .u8 92] 5)) hq.1 rfl (by omega) (by omega) (by have := HQ.out.1.1.lt; show wr.heap.size ≠ _; omega) (new_cells wr [.int .u8 92, .int .u8 92] _) (by have := HQ.out.2.1; omega) hq.2.1.size).mono ?_
          rintro e w' ⟨q1, q2, q3, q4⟩
          exact ⟨q1, hq.step hgne q2 q3 q4⟩
        go_wp2_with fail
        refine HWr.out.mono ?_
        rintro e w2 ⟨rfl, hq2⟩
        have H2 : Hid (QS w W g8 w2 (l ++ [92, 92])) := hq2
        clear hq2 HWr
        go_wp2
        go_roundw
        case rel => exact ⟨k + 1, l ++ [92, 92], by omega, by go_num, by rw [qM_take (bl x) k HG.out.1, HG.out.2, ← List.cons_append, ← HQ.out.2.2], H2.out⟩
        case measure => simp [intOf]; omega
      have n2 : ¬ (bn : Int) = 92 := by omega
      have d2 : ((bn : Int) == 92) = false := by simp [n2]
      obtain ⟨pb, hpb⟩ : ∃ pb, pb = decide (32 ≤ bn ∧ bn ≤ 126) := ⟨_, rfl⟩
      have HPl : Hid (Calls Try.prog 128 #[.int .u8 (bn : Int)] wr fun e w' => e = .returned (.bool pb) ∧ w' = wr) := by rw [hpb]; exact plain_any bn wr
      by_cases h3 : 32 ≤ bn ∧ bn ≤ 126
      · have e3 : pb = true := by rw [hpb]; exact decide_eq_true h3
        subst e3
        have HG : Hid ((bl x)[k]? = some (bn : Int) ∧ qB bn = [(bn : Int)]) := ⟨hb2, by unfold qB; rw [if_neg (by omega), if_pos (by omega)]⟩
        have HWc := HWb.out wr l (bn : Int) HQ.out.1.1 (by have := HQ.out.2.1; omega) HQ.out.1.2.1.size
        have HWd : Hid (Calls Try.prog 126 #[.pointer (some ⟨w.heap.size, 0, none⟩), .int .u8 (bn : Int)] wr fun e w' => e = .returned .nilIface ∧ QS w W g8 w' (l ++ [(bn : Int)])) := HWc.mono fun e w' ⟨q1, q2, q3, q4⟩ => ⟨q1, HQ.out.1.step hgne q2 q3 q4⟩
        clear hb2 hpb HWc
        go_wp2_with fail
        refine HPl.out.mono ?_
        rintro e w2 ⟨rfl, hw2⟩
        subst hw2
        go_wp2_with fail
        refine HWd.out.mono ?_
        rintro e w2 ⟨rfl, hq2⟩
        have H2 : Hid (QS w W g8 w2 (l ++ [(bn : Int)])) := hq2
        clear hq2 HWd HPl
        go_wp2
        go_roundw
        case rel => exact ⟨k + 1, l ++ [(bn : Int)], by omega, by go_num, by rw [qM_take (bl x) k HG.out.1, HG.out.2, ← List.cons_append, ← HQ.out.2.2], H2.out⟩
        case measure => simp [intOf]; omega
      · have e3 : pb = false := by rw [hpb]; exact decide_eq_false h3
        subst e3
        have HG : Hid ((bl x)[k]? = some (bn : Int) ∧ qB bn = [92, 120, hexC (bn / 16), hexC (bn % 16)]) := ⟨hb2, by unfold qB; rw [if_neg (by omega), if_neg (by omega)]; rfl⟩
        clear hb2 hpb
        go_wp2_with fail
        refine HPl.out.mono ?_
        rintro e w2 ⟨rfl, hw2⟩
        subst hw2
        obtain ⟨p1, hp1⟩ : ∃ p1, p1 = bn / 16 := ⟨_, rfl⟩
        obtain ⟨p2, hp2⟩ : ∃ p2, p2 = bn % 16 := ⟨_, rfl⟩
        rw [← hp1, ← hp2] at HG
        obtain ⟨c1, g1, g2⟩ := hex_get p1 (by omega)
        obtain ⟨c2, g3, g4⟩ := hex_get p2 (by omega)
        have hi1 : ∀ W : World, (Instr.index 9 (.string { data := #[48, 49, 50, 51, 52, 53, 54, 55, 56, 57, 97, 98, 99, 100, 101, 102] }) (.int .u8 ((bn : Int) / 16))).run Try.prog W = .ok (.int .u8 (hexC p1)) W := fun W => by
          have e : (bn : Int) / 16 = (p1 : Int) := by omega
          rw [e]
          simp [Instr.index, go_sem, g1, g2]
        have hi2 : ∀ W : World, (Instr.index 9 (.string { data := #[48, 49, 50, 51, 52, 53, 54, 55, 56, 57, 97, 98, 99, 100, 101, 102] }) (.int .u8 ((bn : Int) % 16))).run Try.prog W = .ok (.int .u8 (hexC p2)) W := fun W => by
          have e : (bn : Int) % 16 = (p2 : Int) := by omega
          rw [e]
          simp [Instr.index, go_sem, g3, g4]
        have hand : bits .and .u8 (bn : Int) 15 = (bn : Int) % 16 := u8_and15 (x := (bn : Int)) (by omega) (by omega)
        clear hp1 hp2
        generalize hexC p1 = x1 at *
        generalize hexC p2 = x2 at *
        clear g1 g2 g3 g4
        have HWr : Hid (Calls Try.prog 127 #[.pointer (some ⟨w.heap.size, 0, none⟩), .slice (some ⟨w2.heap.size, 0, none⟩) 4 4] ((w2.alloc (.cells #[.int .u8 92, .int .u8 120, .int .u8 x1, .int .u8 x2] 5)).drew) fun e w' => e = .returned (.tuple #[.int .i64 4, .nilIface]) ∧ QS w W g8 w' (l ++ [92, 120, x1, x2])) := by
          have hb1 : Below w2.heap.size w2 ((w2.alloc (.cells #[.int .u8 92, .int .u8 120, .int .u8 x1, .int .u8 x2] 5)).drew) := (below_alloc _ _).drew
          have hq := HQ.out.1.below hb1
          refine (write_any w.heap.size w.heap.size l ⟨w2.heap.size, 0, none⟩ 4 4 [92, 120, x1, x2] ((w2.alloc (.cells #[.int .u8 92, .int .u8 120, .int .u8 x1, .int .u8 x2] 5)).drew) hq.1 rfl (by omega) (by omega) (by have := HQ.out.1.1.lt; show w2.heap.size ≠ _; omega) (new_cells w2.drew [.int .u8 92, .int .u8 120, .int .u8 x1, .int .u8 x2] _) (by have := HQ.out.2.1; omega) hq.2.1.size).mono ?_
          rintro e w' ⟨q1, q2, q3, q4⟩
          exact ⟨q1, hq.step hgne q2 q3 q4⟩
        go_wp2
        go_region_with (first | (go_at_call 127; (with_reducible refine HWr.out.mono ?_); rintro e w3 ⟨rfl, hq2⟩) | fail)
        all_goals
          have H2 : Hid (QS w W g8 w3 (l ++ [92, 120, x1, x2])) := hq2
          clear hq2 HWr
          go_wp2
          go_roundw
          case rel => exact ⟨k + 1, l ++ [92, 120, x1, x2], by omega, by go_num, by rw [qM_take (bl x) k HG.out.1, HG.out.2, ← List.cons_append, ← HQ.out.2.2], H2.out⟩
          case measure => simp [intOf]; omega
    · have e : k = x.size := by omega
      subst e
      have l1 : ¬ (x.size : Int) < (x.size : Int) := by omega
      have HWc := HWb.out wr l 34 HQ.out.1.1 (by have := HQ.out.2.1; omega) HQ.out.1.2.1.size
      have HWd : Hid (Calls Try.prog 126 #[.pointer (some ⟨w.heap.size, 0, none⟩), .int .u8 34] wr fun e w' => e = .returned .nilIface ∧ BdA w' w.heap.size w.heap.size (qL (bl x)) ∧ Below w.heap.size w w') := HWc.mono fun e w' ⟨q1, q2, q3, q4⟩ => by
        have e2 : l ++ [34] = qL (bl x) := by rw [HQ.out.2.2, ← bl_length, List.take_length]; rfl
        rw [e2] at q2
        exact ⟨q1, q2, HQ.out.1.2.1.trans q3⟩
      clear HWc
      go_wp2_with fail
      refine HWd.out.mono ?_
      rintro e w2 ⟨rfl, hB2, hb2⟩
      have HS : Hid (Calls Try.prog 129 #[.pointer (some ⟨w.heap.size, 0, none⟩)] w2 fun e w' => e = .returned (.string (strT (qL (bl x)))) ∧ Below w.heap.size w w') := (string_any w.heap.size w.heap.size _ w2 hB2 (qL_byt x) (by unfold qL; simp)).mono fun e w' ⟨q1, q2⟩ => ⟨q1, hb2.trans q2⟩
      clear hB2 hb2 HWd
      go_wp2_with fail
      refine HS.out.mono ?_
      rintro e w3 ⟨rfl, hb3⟩
      have HZ : Hid (Below w.heap.size w w3) := hb3
      clear hb3 HS
      go_wp2
      go_ret
      exact ⟨rfl, HZ.out⟩
end Go.Proofs.Ytocmbnocdjnfpaa
