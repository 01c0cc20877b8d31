import Derived.Test.YtfcffpgiijnmjaaTerm
import Derived.WalkKit
import Derived.Handy
namespace Go.Proofs.Ytfcffpgiijnmjaa
open Go.RowKit Go.Deep
set_option linter.unusedVariables false
set_option maxRecDepth 100000

theorem infoTm : (Try.prog.info? 57).map (fun i => (i.zero, i.size, i.bytes)) = some (some (.agg #[.int .i64 0, .string { data := #[] }, .int .i64 0]), 3, 32) := by kernel_rfl
theorem underTms : Try.prog.underlying 22 = some (.slice 57) := by kernel_rfl

set_option maxHeartbeats 400000 in
theorem toTerm_any (i r : Int) (x : ByteArray) (w : World) :
    Calls Try.prog 54 #[.agg #[.int .i64 i, .string x, .int .i64 r]] w fun e w' => e = .returned (.agg #[.int .i64 i, .string x, .int .i64 r]) ∧ Below w.heap.size w w' := by
  go_enter Try.func54, Try.ntmps54
  go_wp2
  refine bodyPost_ret (v := .agg #[.int .i64 i, .string x, .int .i64 r]) (by simp [results, Try.results54, go_sem]) rfl ⟨rfl, ?_⟩
  exact ((below_alloc _ _).alloc (by simp) _).alloc (by simp; omega) _

set_option maxHeartbeats 1000000 in
theorem toTermS_any (a : Option Addr) (n c : Nat) (I : Nat → Int) (X : Nat → ByteArray) (R : Nat → Int) (w : World) (h : RdT w a n I X R) (hn : n ≤ 1048576) :
    Calls Try.prog 37 #[.slice a n c] w fun e w' => e = .returned (.slice (some ⟨w.heap.size, 0, none⟩) n n) ∧ rowIn w' w.heap.size 57 (n * 3) (termCell I X R) ∧ Below w.heap.size w w' := by
  have hmk : ∀ w : World, (Instr.makeSlice 22 (.int .i64 (n : Int)) (.int .i64 (n : Int))).run Try.prog w = .ok (.slice (some ⟨w.heap.size, 0, none⟩) n n) (w.alloc (.cells (madeCells #[.int .i64 0, .string { data := #[] }, .int .i64 0] (n * 3)) 57)) := by
    intro w
    obtain ⟨i0, hi, hz0, hz1, hz2⟩ := info_parts infoTm
    have := run_make (P := Try.prog) w 22 57 i0 _ underTms hi hz0 .i64 .i64 n n (by omega) (by omega) (by rw [hz2]; omega) (by omega)
    rw [hz1, show (Value.agg #[.int .i64 0, .string { data := #[] }, .int .i64 0]).cells = #[.int .i64 0, .string { data := #[] }, .int .i64 0] from rfl] at this
    simpa using this
  have H0 : Hid (rowIn (w.alloc (.cells (madeCells #[.int .i64 0, .string { data := #[] }, .int .i64 0] (n * 3)) 57)) w.heap.size 57 (n * 3) (fun j => if j < 0 * 3 then termCell I X R j else termCell (fun _ => 0) (fun _ => { data := #[] }) (fun _ => 0) j)) :=
    (madeT w n).congr (fun i _ => by simp)
  go_enter Try.func37, Try.ntmps37
  go_wp2
  go_loopw [4] (fun i wr => ∃ k : Nat, k ≤ n ∧ i = .int .i64 k ∧ rowIn wr w.heap.size 57 (n * 3) (fun j => if j < k * 3 then termCell I X R j else termCell (fun _ => 0) (fun _ => { data := #[] }) (fun _ => 0) j) ∧ Below w.heap.size w wr) (fun i _ => n - (intOf i).toNat)
  case atStart => exact ⟨0, Nat.zero_le _, rfl, H0.out, below_alloc _ _⟩
  case round =>
    obtain ⟨k, hk, rfl, hrow, hbel⟩ := hrel
    clear H0
    by_cases hlt : k < n
    · have hne : ¬ n = 0 := by omega
      have h' := h.below hbel
      have HB : Hid (Below w.heap.size w wr) := hbel
      have HR : Hid (rowIn wr w.heap.size 57 (n * 3) (fun j => if j < k * 3 then termCell I X R j else termCell (fun _ => 0) (fun _ => { data := #[] }) (fun _ => 0) j)) := hrow
      have hsz := hbel.size
      rcases h' with h' | ⟨b, o, rfl, hc⟩
      · exact absurd h' hne
      obtain ⟨c1, c2, c3⟩ := hc k hlt
      clear hc hbel h hrow hmk
      go_wp2_with fail
      refine (toTerm_any (I k) (R k) (X k) _).mono ?_
      rintro e w1 ⟨rfl, hb1⟩
      have hrow := HR.out.of_block (hb1.block _ HR.out.lt)
      have hc1 := hrow.cell (i := k * 3) (by omega)
      have hc2 := hrow.cell (i := k * 3 + 1) (by omega)
      have hc3 := hrow.cell (i := k * 3 + 2) (by omega)
      have hf1 := hrow.frozen (k * 3)
      have hf2 := hrow.frozen (k * 3 + 1)
      have hf3 := hrow.frozen (k * 3 + 2)
      have HX : Hid (rowIn (((w1.setCell ⟨w.heap.size, k * 3, none⟩ (.int .i64 (I k))).setCell ⟨w.heap.size, k * 3 + 1, none⟩ (.string (X k))).setCell ⟨w.heap.size, k * 3 + 2, none⟩ (.int .i64 (R k))) w.heap.size 57 (n * 3) (fun j => if j < (k + 1) * 3 then termCell I X R j else termCell (fun _ => 0) (fun _ => { data := #[] }) (fun _ => 0) j) ∧
          Below w.heap.size w (((w1.setCell ⟨w.heap.size, k * 3, none⟩ (.int .i64 (I k))).setCell ⟨w.heap.size, k * 3 + 1, none⟩ (.string (X k))).setCell ⟨w.heap.size, k * 3 + 2, none⟩ (.int .i64 (R k)))) := by
        refine ⟨(((hrow.set (k * 3) _).set (k * 3 + 1) _).set (k * 3 + 2) _).congr (fun j hj => ?_), (((HB.out.trans (hb1.mono hsz)).setCell (Nat.le_refl _) _).setCell (Nat.le_refl _) _).setCell (Nat.le_refl _) _⟩
        by_cases e2 : j = k * 3 + 2
        · subst e2
          rw [if_pos (by omega : k * 3 + 2 < (k + 1) * 3), termCell_2]; simp
        by_cases e1 : j = k * 3 + 1
        · subst e1
          rw [if_pos (by omega : k * 3 + 1 < (k + 1) * 3), termCell_1]; simp
        by_cases e0 : j = k * 3
        · subst e0
          rw [if_pos (by omega : k * 3 < (k + 1) * 3), termCell_0]; simp
        simp only [if_neg e0, if_neg e1, if_neg e2]
        by_cases e : j < k * 3
        · rw [if_pos e, if_pos (by omega)]
        · rw [if_neg e, if_neg (by omega)]
      clear hrow hb1 HR
      go_wp2
      go_roundw
      case rel => exact ⟨k + 1, by omega, by go_num, HX.out.1, HX.out.2⟩
      case measure => simp [intOf]; omega
    · have e : k = n := by omega
      subst e
      have HX : Hid (rowIn wr w.heap.size 57 (k * 3) (termCell I X R)) := hrow.congr (fun j hj => by simp [hj])
      clear hrow
      go_wp2
      go_ret
      exact ⟨rfl, HX.out, hbel⟩

/-- A dictionary handed back in new memory. -/
def RetDict (w : World) (next : Int) (n : Nat) (I : Nat → Int) (X : Nat → ByteArray) (R : Nat → Int) (e : Ending) (w' : World) : Prop :=
  ∃ g, e = .returned (.agg #[.int .i64 next, .slice (some ⟨g, 0, none⟩) n n]) ∧ w.heap.size ≤ g ∧ rowIn w' g 57 (n * 3) (termCell I X R) ∧ Below w.heap.size w w'

set_option maxHeartbeats 1000000 in
theorem toDict_any (next : Int) (a : Option Addr) (n c : Nat) (I : Nat → Int) (X : Nat → ByteArray) (R : Nat → Int) (w : World) (h : RdT w a n I X R) (hn : n ≤ 1048576) :
    Calls Try.prog 16 #[.agg #[.int .i64 next, .slice a n c]] w (RetDict w next n I X R) := by
  have hbel : ∀ o1 o2 o3, Below w.heap.size w (((w.alloc o1).alloc o2).alloc o3) := fun o1 o2 o3 => (((below_alloc _ _).alloc (by simp) _).alloc (by simp; omega) _)
  have hsz : ∀ o1 o2 o3, (((w.alloc o1).alloc o2).alloc o3).heap.size = w.heap.size + 3 := fun o1 o2 o3 => by simp
  have HH : Hid ((∀ o1 o2 o3, Below w.heap.size w (((w.alloc o1).alloc o2).alloc o3)) ∧ ∀ o1 o2 o3, (((w.alloc o1).alloc o2).alloc o3).heap.size = w.heap.size + 3) := ⟨hbel, hsz⟩
  clear hbel hsz
  go_enter Try.func16, Try.ntmps16
  go_wp2_with fail
  refine (toTermS_any a n c I X R _ (h.below (HH.out.1 _ _ _)) hn).mono ?_
  rintro e w1 ⟨rfl, hr1, hb1⟩
  rw [HH.out.2] at hr1 hb1 ⊢
  have hz : w.heap.size + 2 < w1.heap.size := by have := hr1.lt; omega
  have hc : ∀ b o, b < w.heap.size + 3 → w1.cell? ⟨b, o, none⟩ = _ := fun b o hb => hb1.cell (p := ⟨b, o, none⟩) hb
  have hf : ∀ b o, b < w.heap.size + 3 → w1.frozen? ⟨b, o, none⟩ = _ := fun b o hb => hb1.frozen (p := ⟨b, o, none⟩) hb
  have HE : Hid (rowIn w1 (w.heap.size + 3) 57 (n * 3) (termCell I X R) ∧ Below w.heap.size w w1) := ⟨hr1, (HH.out.1 _ _ _).trans (hb1.mono (by omega))⟩
  clear hr1 hb1
  go_wp2
  refine bodyPost_ret (v := .agg #[.int .i64 next, .slice (some ⟨w.heap.size + 3, 0, none⟩) n n]) (by simp [results, Try.results16, go_sem, hc]) rfl ⟨_, rfl, by omega, ?_, ?_⟩
  · exact ((HE.out.1.setOther (by simp) _).setOther (by simp) _).setOther (by simp) _
  · exact ((HE.out.2.setCell (by simp; omega) _).setCell (by simp) _).setCell (by simp) _
end Go.Proofs.Ytfcffpgiijnmjaa
