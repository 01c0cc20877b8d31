import Derived.Test.YtbpcafcipncloaaSecI
import Derived.Laws.CopyRow
namespace Go.Proofs.Ytbpcafcipncloaa
open Go.RowKit Go.Deep
set_option linter.unusedVariables false
set_option maxRecDepth 100000

/-- Bytes laid over a sector's. -/
def layN (h : Nat → Int) (o L : Nat) (f : Nat → Int) : Nat → Int := fun j => if o ≤ j ∧ j < o + L then f (j - o) else h j

/-- The head and the piece of a record's sector. -/
def recH (seq i k : Int) (L : Nat) (f : Nat → Int) : Nat → Int :=
  layN (fun j => if j = 10 + 1 then 49 else if j = 10 then 82 else putN (putN (putN (putN (fun _ => 0) 0 4 seq) 4 2 i) 6 2 k) 8 2 (L : Int) j) 12 L f
def recF (seq i k : Int) (L : Nat) (f : Nat → Int) : Nat → Int := sealF (recH seq i k L f)

theorem layN_range {h f : Nat → Int} {o L n : Nat} (hh : ∀ i, i < n → 0 ≤ h i ∧ h i < 256) (hf : ∀ i, i < L → 0 ≤ f i ∧ f i < 256) : ∀ i, i < n → 0 ≤ layN h o L f i ∧ layN h o L f i < 256 := by
  intro i hi
  unfold layN
  split
  · exact hf _ (by omega)
  · exact hh i hi

theorem recH_range (seq i k : Int) (L : Nat) (f : Nat → Int) (hf : ∀ j, j < L → 0 ≤ f j ∧ f j < 256) : ∀ j, j < 64 → 0 ≤ recH seq i k L f j ∧ recH seq i k L f j < 256 := by
  refine layN_range (fun j hj => ?_) hf
  split
  · omega
  · split
    · omega
    · exact putN_range (putN_range (putN_range (putN_range (fun j hj => by omega)))) j hj

/-- 'copy' of readable bytes into a sector. -/
theorem copy_piece (w : World) (g o L dLen dCap sCap : Nat) (ad : Option Addr) (h f : Nat → Int) (hs : Sec w g h) (hrd : Rd .u8 w ad L f) (hle : L ≤ dLen) (hk : o + L ≤ 64) :
    ∃ w', (Builtin.copy_ #[24, 24] 3 #[.slice (some ⟨g, o, none⟩) dLen dCap, .slice ad L sCap]).run Try.prog w = .ok (goInt L) w' ∧ Sec w' g (layN h o L f) ∧ OnlyAt (some ⟨g, 0, none⟩) w w' := by
  have hz : (secA h).size = 64 := secA_size h
  have key : ∀ a : Addr, (∀ j u, (byteRow f L)[j]? = some u → w.cell? (a.add j) = some u) → ∃ w', (Builtin.copy_ #[24, 24] 3 #[.slice (some ⟨g, o, none⟩) dLen dCap, .slice (some a) L sCap]).run Try.prog w = .ok (goInt L) w' ∧ Sec w' g (layN h o L f) ∧ OnlyAt (some ⟨g, 0, none⟩) w w' := by
    intro a hsrc
    have hrun := run_copy_row (P := Try.prog) w 24 24 3 5 g o dLen dCap a L sCap (secA h) 87 (byteRow f L) underBytes (by kernel_rfl) hs (by rw [byteRow_length]; exact (Nat.min_eq_left hle).symm) hsrc (by rw [byteRow_length, hz]; omega)
      (fun u hu => by
        simp only [byteRow, List.mem_map] at hu
        obtain ⟨i, _, rfl⟩ := hu
        rfl)
    rw [byteRow_length] at hrun
    have e : ((secA h).toList.take o ++ byteRow f L ++ (secA h).toList.drop (o + L)).toArray = secA (layN h o L f) := by
      refine secA_ofRow ?_ (fun i hi => ?_)
      · simp [byteRow_length, hz]; omega
      · have hl : ((secA h).toList.take o).length = o := by simp [hz]; omega
        rw [List.getElem?_toArray, List.append_assoc]
        unfold layN
        by_cases h1 : i < o
        · rw [List.getElem?_append_left (by omega), List.getElem?_take, if_pos h1, if_neg (by omega)]
          simpa using secA_get h i hi
        · rw [List.getElem?_append_right (by omega), hl]
          by_cases h2 : i < o + L
          · rw [List.getElem?_append_left (by rw [byteRow_length]; omega), byteRow_get _ _ _ (by omega), if_pos (by omega)]
          · rw [List.getElem?_append_right (by rw [byteRow_length]; omega), byteRow_length, List.getElem?_drop, show o + L + (i - o - L) = i by omega, if_neg (by omega)]
            simpa using secA_get h i hi
    rw [e] at hrun
    obtain ⟨q1, q2⟩ := hs.setRow (layN h o L f)
    exact ⟨_, hrun, q1, q2⟩
  rcases hrd with h0 | ⟨b, off, rfl, hc⟩
  · subst h0
    have hl : layN h o 0 f = h := by
      funext j
      unfold layN
      rw [if_neg (by omega)]
    cases ad with
    | none =>
      refine ⟨w, ?_, by rw [hl]; exact hs, OnlyAt.refl _ _⟩
      simp [Builtin.copy_, run_underlying underBytes, Builtin.lenOf, Builtin.firstCells, storeCells]
    | some a => exact key a (fun j u hj => by simp [byteRow] at hj)
  · exact key _ (fun j u hj => by
      have hjm : j < L := by
        have := (List.getElem?_eq_some_iff.1 hj).1
        rwa [byteRow_length] at this
      rw [byteRow_get f L j hjm] at hj
      injection hj with hj
      subst hj
      have e : (Addr.add ⟨b, off, none⟩ j) = ⟨b, off + j, none⟩ := by
        unfold Addr.add
        by_cases h : j = 0
        · subst h; simp
        · simp [h]
      rw [e]
      exact hc j hjm)

set_option maxHeartbeats 2000000 in
theorem recSector_any (seq i k : Int) (ad : Option Addr) (L cp : Nat) (f : Nat → Int) (w : World) (hrd : Rd .u8 w ad L f) (hf : ∀ j, j < L → 0 ≤ f j ∧ f j < 256) (hL : L ≤ 48) :
    Calls Try.prog 85 #[.int .i64 seq, .int .i64 i, .int .i64 k, .slice ad L cp] w fun e w' => e = .returned (.agg (secA (recF seq i k L f))) ∧ Below w.heap.size w w' := by
  have HRD : Hid (Rd .u8 w ad L f) := hrd
  have HF : Hid (∀ j, j < L → 0 ≤ f j ∧ f j < 256) := hf
  clear hrd hf
  go_enter Try.func85, Try.ntmps85
  go_wp2_with fail
  rw [zeroSec]
  obtain ⟨W, hW⟩ : ∃ W, W = (w.alloc (.cells (secA fun _ => 0) 87)).alloc (.cells (secA fun _ => 0) 87) := ⟨_, rfl⟩
  rw [← hW]
  have BW : Below w.heap.size w W := by rw [hW]; exact ((below_alloc _ _).alloc (by simp) _)
  have S0 : Sec W (w.heap.size + 1) (fun _ => 0) := by
    rw [hW]
    have := Sec.new (w.alloc (.cells (secA fun _ => 0) 87)) (fun _ => 0)
    simp only [World.size_alloc] at this
    exact this
  have R0 : Sec W w.heap.size (fun _ => 0) := by
    rw [hW]
    exact (Sec.new w (fun _ => 0)).below (below_alloc _ _)
  have hz : W.heap.size = w.heap.size + 1 + 1 := by rw [hW]; simp
  have KP : Hid (∀ w' : World, OnlyAt (some ⟨w.heap.size + 1, 0, none⟩) W w' → Sec w' w.heap.size (fun _ => 0) ∧ Below w.heap.size w w') := by
    intro w' ho
    refine ⟨R0.of_block (ho.block _ (fun y e => by injection e with e; subst e; show w.heap.size + 1 ≠ w.heap.size; omega)), BW.trans (ho.below (fun y e => by injection e with e; subst e; show w.heap.size ≤ w.heap.size + 1; omega))⟩
  clear hW BW hz R0
  refine (putNumber_any (w.heap.size + 1) 0 4 seq _ W S0 (by omega) (by omega)).mono ?_
  rintro e w1 ⟨rfl, hs1, ho1⟩
  have S1 : Hid (Sec w1 (w.heap.size + 1) (putN (fun _ => 0) 0 4 seq) ∧ OnlyAt (some ⟨w.heap.size + 1, 0, none⟩) W w1) := ⟨hs1, ho1⟩
  clear hs1 ho1 S0
  go_wp2_with fail
  refine (putNumber_any (w.heap.size + 1) 4 2 i _ w1 S1.out.1 (by omega) (by omega)).mono ?_
  rintro e w2 ⟨rfl, hs2, ho2⟩
  have S2 : Hid (Sec w2 (w.heap.size + 1) _ ∧ OnlyAt (some ⟨w.heap.size + 1, 0, none⟩) W w2) := ⟨hs2, S1.out.2.trans ho2⟩
  clear hs2 ho2 S1
  go_wp2_with fail
  refine (putNumber_any (w.heap.size + 1) 6 2 k _ w2 S2.out.1 (by omega) (by omega)).mono ?_
  rintro e w3 ⟨rfl, hs3, ho3⟩
  have S3 : Hid (Sec w3 (w.heap.size + 1) _ ∧ OnlyAt (some ⟨w.heap.size + 1, 0, none⟩) W w3) := ⟨hs3, S2.out.2.trans ho3⟩
  clear hs3 ho3 S2
  go_wp2_with fail
  refine (putNumber_any (w.heap.size + 1) 8 2 (L : Int) _ w3 S3.out.1 (by omega) (by omega)).mono ?_
  rintro e w4 ⟨rfl, hs4, ho4⟩
  have S4 : Hid (Sec w4 (w.heap.size + 1) _ ∧ OnlyAt (some ⟨w.heap.size + 1, 0, none⟩) W w4) := ⟨hs4, S3.out.2.trans ho4⟩
  clear hs4 ho4 S3
  obtain ⟨w5, hcp, hs5, ho5⟩ := copy_two w4 (w.heap.size + 1) 10 54 54 82 49 _ S4.out.1 (by omega) (by omega)
  have S5 : Hid (Sec w5 (w.heap.size + 1) (fun j => if j = 10 + 1 then 49 else if j = 10 then 82 else putN (putN (putN (putN (fun _ => 0) 0 4 seq) 4 2 i) 6 2 k) 8 2 (L : Int) j) ∧ OnlyAt (some ⟨w.heap.size + 1, 0, none⟩) W w5) := ⟨hs5, S4.out.2.trans ho5⟩
  clear hs5 ho5 S4
  obtain ⟨w6, hcq, hs6, ho6⟩ := copy_piece w5 (w.heap.size + 1) 12 L 48 52 cp ad _ f S5.out.1 (HRD.out.below (KP.out w5 S5.out.2).2) hL (by omega)
  have S6 : Hid (Sec w6 (w.heap.size + 1) (recH seq i k L f) ∧ OnlyAt (some ⟨w.heap.size + 1, 0, none⟩) W w6) := ⟨hs6, S5.out.2.trans ho6⟩
  clear hs6 ho6 S5
  go_wp2_with fail
  clear hcp hcq
  refine (seal_any (w.heap.size + 1) (recH seq i k L f) w6 S6.out.1 (fun j hj => recH_range seq i k L f HF.out j (by omega))).mono ?_
  rintro e w7 ⟨rfl, hs7, ho7⟩
  obtain ⟨hr7, hb7⟩ := KP.out w7 (S6.out.2.trans ho7)
  have S7 : Hid (Sec w7 (w.heap.size + 1) (recF seq i k L f)) := hs7
  have R7 : Hid (Sec w7 w.heap.size (fun _ => 0) ∧ Below w.heap.size w w7) := ⟨hr7, hb7⟩
  clear hs7 ho7 S6 KP hr7 hb7
  go_wp2_with (first | ((with_reducible refine wpList_load_sec (w.heap.size + 1) (recF seq i k L f) ?_ S7.out ?_); rfl) | ((with_reducible refine wpList_store_sec w.heap.size (fun _ => 0) (recF seq i k L f) ?_ ?_ R7.out.1 ?_); rfl; rfl))
  intro w8 hs8 ho8
  have HB8 : Hid (Below w.heap.size w w8) := R7.out.2.trans (ho8.below (fun y e => by injection e with e; subst e; exact Nat.le_refl _))
  have S8 : Hid (Sec w8 w.heap.size (recF seq i k L f)) := hs8
  clear hs8 ho8
  go_wp2
  exact bodyPost_ret (v := .agg (secA (recF seq i k L f))) (retSec rfl _ w8 _ rfl S8.out) rfl ⟨rfl, HB8.out⟩
end Go.Proofs.Ytbpcafcipncloaa
