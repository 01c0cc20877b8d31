import Derived.Test.YtcnollkkigiobaaGreatTnR
namespace Go.Proofs.YtcnollkkigiobaaGreat
open Go.RowKit Go.Deep
set_option linter.unusedVariables false
set_option maxRecDepth 100000

theorem Tryz.info9 : (Tryz.prog.info? 9).map (fun i => (i.zero, i.size, i.bytes)) = some (some (.string { data := #[] }), 1, 16) := by kernel_rfl
theorem Tryz.info2 : (Tryz.prog.info? 2).map (fun i => (i.zero, i.size, i.bytes)) = some (some (.int .i64 0), 1, 8) := by kernel_rfl
theorem Tryz.info168 : (Tryz.prog.info? 168).map (fun i => (i.zero, i.size, i.bytes)) = some (some (.agg #[.bool false, .slice none 0 0, .slice none 0 0, .int .i64 0]), 4, 64) := by kernel_rfl

set_option maxHeartbeats 1000000 in
theorem toStringS_any (a : Option Addr) (len cap : Nat) (f : Nat → ByteArray) (w : World) (h : RdS w a len f) (hm : len ≤ 1048576) :
    Calls Tryz.prog 152 #[.slice a len cap] w fun e w' => e = .returned (.slice (some ⟨w.heap.size, 0, none⟩) len len) ∧
      w'.rowIs w.heap.size 9 len (fun i => .string (f i)) ∧ Below w.heap.size w w' ∧ w'.heap.size = w.heap.size + 1 := by
  have hmk := run_make_row' (P := Tryz.prog) 88 9 (.string { data := #[] }) 16 Tryz.underlying88 Tryz.info9 rfl .i64 .i64 len (by omega) (by omega)
  have hbel : Below w.heap.size w (w.alloc (.cells (madeCells #[.string { data := #[] }] len) 9)) := (Below.refl _ _).alloc (Nat.le_refl _) _
  have hrow := (World.rowIs_made w (.string { data := #[] }) len 9).congr (g := fun j => if j < 0 then .string (f j) else .string { data := #[] }) (fun j _ => by simp)
  have HS : Hid (Below w.heap.size w (w.alloc (.cells (madeCells #[.string { data := #[] }] len) 9)) ∧ (w.alloc (.cells (madeCells #[.string { data := #[] }] len) 9)).rowIs w.heap.size 9 len (fun j => if j < 0 then .string (f j) else .string { data := #[] })) := ⟨hbel, hrow⟩
  clear hbel hrow
  go_enter Tryz.func152, Tryz.ntmps152
  go_wp2
  go_loopw [4] (fun i wr => ∃ k : Nat, k ≤ len ∧ i = .int .i64 k ∧ wr.rowIs w.heap.size 9 len (fun j => if j < k then .string (f j) else .string { data := #[] }) ∧ Below w.heap.size w wr ∧ wr.heap.size = w.heap.size + 1) (fun i _ => len - (intOf i).toNat)
  case atStart => exact ⟨0, Nat.zero_le _, rfl, HS.out.2, HS.out.1, by simp⟩
  case round =>
    obtain ⟨k, hk, rfl, hrow, hbel, hsz⟩ := hrel
    clear HS
    by_cases hlt : k < len
    · have hne : ¬ len = 0 := by omega
      rcases h with h | ⟨b, o, rfl, hc⟩
      · exact absurd h hne
      have hb : b < w.heap.size := World.block_lt_of_cell? _ _ (hc k hlt)
      have hcx : wr.cell? ⟨b, o + k, none⟩ = some (.string (f k)) := (hbel.cell (p := ⟨b, o + k, none⟩) hb).trans (hc k hlt)
      have hcy := hrow.cell hlt
      simp only [Nat.lt_irrefl, if_false] at hcy
      have hfy := hrow.frozen k
      have HX : Hid ((wr.setCell ⟨w.heap.size, k, none⟩ (.string (f k))).rowIs w.heap.size 9 len (fun j => if j < k + 1 then .string (f j) else .string { data := #[] }) ∧ Below w.heap.size w (wr.setCell ⟨w.heap.size, k, none⟩ (.string (f k))) ∧ (wr.setCell ⟨w.heap.size, k, none⟩ (.string (f k))).heap.size = w.heap.size + 1) :=
        ⟨rowCopy (f := fun j => .string (f j)) hrow, hbel.setCell (Nat.le_refl _) _, by simpa using hsz⟩
      clear hrow hbel hc hsz hmk
      go_wp2
      go_roundw
      case rel => exact ⟨k + 1, by omega, by go_num, HX.out⟩
      case measure => simp [intOf]; omega
    · have e : k = len := by omega
      subst e
      clear hmk
      go_wp2
      go_ret
      exact ⟨rfl, hrow.congr (fun i hi => by simp [hi]), hbel, hsz⟩

set_option maxHeartbeats 1000000 in
theorem toInt64S_any (a : Option Addr) (len cap : Nat) (f : Nat → Int) (w : World) (h : Rd .i64 w a len f) (hm : len ≤ 1048576) :
    Calls Tryz.prog 153 #[.slice a len cap] w fun e w' => e = .returned (.slice (some ⟨w.heap.size, 0, none⟩) len len) ∧
      w'.rowIs w.heap.size 2 len (fun i => .int .i64 (f i)) ∧ Below w.heap.size w w' ∧ w'.heap.size = w.heap.size + 1 := by
  have hmk := run_make_row' (P := Tryz.prog) 151 2 (.int .i64 0) 8 Tryz.underlying151 Tryz.info2 rfl .i64 .i64 len (by omega) (by omega)
  have hbel : Below w.heap.size w (w.alloc (.cells (madeCells #[.int .i64 0] len) 2)) := (Below.refl _ _).alloc (Nat.le_refl _) _
  have hrow := (World.rowIs_made w (.int .i64 0) len 2).congr (g := fun j => if j < 0 then .int .i64 (f j) else .int .i64 0) (fun j _ => by simp)
  have HS : Hid (Below w.heap.size w (w.alloc (.cells (madeCells #[.int .i64 0] len) 2)) ∧ (w.alloc (.cells (madeCells #[.int .i64 0] len) 2)).rowIs w.heap.size 2 len (fun j => if j < 0 then .int .i64 (f j) else .int .i64 0)) := ⟨hbel, hrow⟩
  clear hbel hrow
  go_enter Tryz.func153, Tryz.ntmps153
  go_wp2
  go_loopw [4] (fun i wr => ∃ k : Nat, k ≤ len ∧ i = .int .i64 k ∧ wr.rowIs w.heap.size 2 len (fun j => if j < k then .int .i64 (f j) else .int .i64 0) ∧ Below w.heap.size w wr ∧ wr.heap.size = w.heap.size + 1) (fun i _ => len - (intOf i).toNat)
  case atStart => exact ⟨0, Nat.zero_le _, rfl, HS.out.2, HS.out.1, by simp⟩
  case round =>
    obtain ⟨k, hk, rfl, hrow, hbel, hsz⟩ := hrel
    clear HS
    by_cases hlt : k < len
    · have hne : ¬ len = 0 := by omega
      rcases h with h | ⟨b, o, rfl, hc⟩
      · exact absurd h hne
      have hb : b < w.heap.size := World.block_lt_of_cell? _ _ (hc k hlt)
      have hcx : wr.cell? ⟨b, o + k, none⟩ = some (.int .i64 (f k)) := (hbel.cell (p := ⟨b, o + k, none⟩) hb).trans (hc k hlt)
      have hcy := hrow.cell hlt
      simp only [Nat.lt_irrefl, if_false] at hcy
      have hfy := hrow.frozen k
      have HX : Hid ((wr.setCell ⟨w.heap.size, k, none⟩ (.int .i64 (f k))).rowIs w.heap.size 2 len (fun j => if j < k + 1 then .int .i64 (f j) else .int .i64 0) ∧ Below w.heap.size w (wr.setCell ⟨w.heap.size, k, none⟩ (.int .i64 (f k))) ∧ (wr.setCell ⟨w.heap.size, k, none⟩ (.int .i64 (f k))).heap.size = w.heap.size + 1) :=
        ⟨rowCopy (f := fun j => .int .i64 (f j)) hrow, hbel.setCell (Nat.le_refl _) _, by simpa using hsz⟩
      clear hrow hbel hc hsz hmk
      go_wp2
      go_roundw
      case rel => exact ⟨k + 1, by omega, by go_num, HX.out⟩
      case measure => simp [intOf]; omega
    · have e : k = len := by omega
      subst e
      clear hmk
      go_wp2
      go_ret
      exact ⟨rfl, hrow.congr (fun i hi => by simp [hi]), hbel, hsz⟩
end Go.Proofs.YtcnollkkigiobaaGreat
