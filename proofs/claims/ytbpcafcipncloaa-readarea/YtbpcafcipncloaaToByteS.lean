import Derived.Test.YtbpcafcipncloaaRows
import Derived.Test.YtbpcafcipncloaaBase
namespace Go.Proofs.Ytbpcafcipncloaa
open Go.RowKit Go.Deep

theorem Try.info5 : (Try.prog.info? 5).map (fun i => (i.zero, i.size, i.bytes)) = some (some (.int .u8 0), 1, 1) := by kernel_rfl

set_option maxHeartbeats 1000000 in
theorem toByteS_any (a : Option Addr) (len cap : Nat) (f : Nat → Int) (w : World) (h : Rd .u8 w a len f) (hm : len ≤ 1099511627776) :
    Calls Try.prog 11 #[.slice a len cap] w fun e w' => e = .returned (.slice (some ⟨w.heap.size, 0, none⟩) len len) ∧
      w'.rowIs w.heap.size 5 len (fun i => .int .u8 (f i)) ∧ Below w.heap.size w w' ∧ w'.heap.size = w.heap.size + 1 := by
  have hmk := run_make_row' (P := Try.prog) 24 5 (.int .u8 0) 1 Try.underlying24 Try.info5 rfl .i64 .i64 len (by omega) (by omega)
  have hbel : Below w.heap.size w (w.alloc (.cells (madeCells #[.int .u8 0] len) 5)) := (Below.refl _ _).alloc (Nat.le_refl _) _
  have hrow := (World.rowIs_made w (.int .u8 0) len 5).congr (g := fun j => if j < 0 then .int .u8 (f j) else .int .u8 0) (fun j _ => by simp)
  have hsz : (w.alloc (.cells (madeCells #[.int .u8 0] len) 5)).heap.size = w.heap.size + 1 := by simp
  have HS : Hid (Below w.heap.size w (w.alloc (.cells (madeCells #[.int .u8 0] len) 5)) ∧ (w.alloc (.cells (madeCells #[.int .u8 0] len) 5)).rowIs w.heap.size 5 len (fun j => if j < 0 then .int .u8 (f j) else .int .u8 0)) := ⟨hbel, hrow⟩
  clear hbel hrow hsz
  go_enter Try.func11, Try.ntmps11
  go_wp2
  go_loopw [4] (fun i wr => ∃ k : Nat, k ≤ len ∧ i = .int .i64 k ∧ wr.rowIs w.heap.size 5 len (fun j => if j < k then .int .u8 (f j) else .int .u8 0) ∧ Below w.heap.size w wr ∧ wr.heap.size = w.heap.size + 1) (fun i _ => len - (intOf i).toNat)
  case atStart => exact ⟨0, Nat.zero_le _, rfl, HS.out.2, HS.out.1, by simp⟩
  case round =>
    obtain ⟨k, hk, rfl, hrow, hbel, hsz⟩ := hrel
    clear HS
    by_cases hlt : k < len
    · have hne : ¬ len = 0 := by omega
      rcases h with h | ⟨b, o, rfl, hc⟩
      · exact absurd h hne
      have hb : b < w.heap.size := World.block_lt_of_cell? _ _ (hc k hlt)
      have hcx : wr.cell? ⟨b, o + k, none⟩ = some (.int .u8 (f k)) := (hbel.cell (p := ⟨b, o + k, none⟩) hb).trans (hc k hlt)
      have hcy := hrow.cell hlt
      simp only [Nat.lt_irrefl, if_false] at hcy
      have hfy := hrow.frozen k
      have HX : Hid ((wr.setCell ⟨w.heap.size, k, none⟩ (.int .u8 (f k))).rowIs w.heap.size 5 len (fun j => if j < k + 1 then .int .u8 (f j) else .int .u8 0) ∧ Below w.heap.size w (wr.setCell ⟨w.heap.size, k, none⟩ (.int .u8 (f k))) ∧ (wr.setCell ⟨w.heap.size, k, none⟩ (.int .u8 (f k))).heap.size = w.heap.size + 1) :=
        ⟨rowCopy (f := fun j => .int .u8 (f j)) hrow, hbel.setCell (Nat.le_refl _) _, by simpa using hsz⟩
      clear hrow hbel hc hsz hmk
      go_wp2
      go_roundw
      case rel => exact ⟨k + 1, by omega, by go_num, HX.out⟩
      case measure => simp [intOf]; omega
    · have e : k = len := by omega
      subst e
      clear hmk
      go_wp2
      go_ret
      exact ⟨rfl, hrow.congr (fun i hi => by simp [hi]), hbel, hsz⟩
end Go.Proofs.Ytbpcafcipncloaa
