import Derived.Test.YtfcffpgiijnmjaaVDefs
import Derived.Test.YtfcffpgiijnmjaaMapW
namespace Go.Proofs.Ytfcffpgiijnmjaa
open Go.RowKit Go.Deep Go.MapKept
set_option linter.unusedVariables false
set_option maxRecDepth 100000

def txB (x : ByteArray) : Bool := decide (1 ≤ (x.size : Int)) && decide ((x.size : Int) ≤ 30)

set_option maxHeartbeats 400000 in
theorem isText_any (x : ByteArray) (w : World) : Calls Try.prog 64 #[.string x] w fun e w' => e = .returned (.bool (txB x)) ∧ w' = w := by
  by_cases h1 : 1 ≤ (x.size : Int)
  · have HE : Hid (txB x = decide ((x.size : Int) ≤ 30)) := by show _ = _; unfold txB; rw [decide_eq_true h1]; rfl
    go_enter Try.func64, Try.ntmps64
    go_wp2
    go_ret
    exact ⟨by rw [HE.out]; rfl, rfl⟩
  · have HE : Hid (txB x = false) := by show _ = _; unfold txB; rw [decide_eq_false h1]; rfl
    go_enter Try.func64, Try.ntmps64
    go_wp2
    go_ret
    exact ⟨by rw [HE.out]; rfl, rfl⟩

set_option maxHeartbeats 400000 in
theorem isNu_any (x : Int) (w : World) : Calls Try.prog 55 #[.int .i64 x] w fun e w' => e = .returned (.bool (nuB x)) ∧ w' = w := by
  by_cases h1 : 1 ≤ x
  · have HE : Hid (nuB x = decide (x ≤ 2000000000)) := by show _ = _; unfold nuB; rw [decide_eq_true h1]; rfl
    go_enter Try.func55, Try.ntmps55
    go_wp2
    go_ret
    exact ⟨by rw [HE.out]; rfl, rfl⟩
  · have HE : Hid (nuB x = false) := by show _ = _; unfold nuB; rw [decide_eq_false h1]; rfl
    go_enter Try.func55, Try.ntmps55
    go_wp2
    go_ret
    exact ⟨by rw [HE.out]; rfl, rfl⟩

/-- The table's three cells. -/
def TabAt (w : World) (tb : Nat) (next : Int) (B1 B2 : Nat) : Prop := w.heap[tb]? = some (.cells #[.int .i64 next, .map (some B1), .map (some B2)] 89)
theorem TabAt.cells {w : World} {tb B1 B2 : Nat} {next : Int} (h : TabAt w tb next B1 B2) : w.cell? ⟨tb, 0, none⟩ = some (.int .i64 next) ∧ w.cell? ⟨tb, 1, none⟩ = some (.map (some B1)) ∧ w.cell? ⟨tb, 2, none⟩ = some (.map (some B2)) := by
  unfold TabAt at h
  exact ⟨by simp [World.cell?, h], by simp [World.cell?, h], by simp [World.cell?, h]⟩
theorem TabAt.lt {w : World} {tb B1 B2 : Nat} {next : Int} (h : TabAt w tb next B1 B2) : tb < w.heap.size := (Array.getElem?_eq_some_iff.1 h).1

/-- What mayHold asks. -/
def MayT (next : Int) (k : Nat) (I : Nat → Int) (i : Int) (x : ByteArray) (r : Int) : Prop := txB x = true ∧ nuB r = true ∧ 1 ≤ i ∧ i < next ∧ ∀ j, j < k → I j ≠ i

theorem isText_at (x : ByteArray) (b : Bool) (h : txB x = b) (w : World) : Calls Try.prog 64 #[.string x] w fun e w' => e = .returned (.bool b) ∧ w' = w := by
  rw [← h]; exact isText_any x w
theorem isNu_at (x : Int) (b : Bool) (h : nuB x = b) (w : World) : Calls Try.prog 55 #[.int .i64 x] w fun e w' => e = .returned (.bool b) ∧ w' = w := by
  rw [← h]; exact isNu_any x w

theorem keptDrew {w w' : World} (hb : Below w.heap.size w w') {b : Nat} (h : b < w.heap.size) : w'.heap[b]? = w.heap[b]? := hb.block b h

set_option maxHeartbeats 8000000 in
theorem mayHold_any (tb B1 B2 k : Nat) (next i r : Int) (x : ByteArray) (I : Nat → Int) (V : Nat → Nat) (w : World) (ht : TabAt w tb next B1 B2) (hm : MapAt w B2 k (fun j => .int .i64 (I j)) (fun j => .pointer (some ⟨V j, 0, none⟩))) (hd : ∀ j, j < k → ∀ q, q < k → I j = I q → j = q) :
    Calls Try.prog 56 #[.pointer (some ⟨tb, 0, none⟩), .agg #[.int .i64 i, .string x, .int .i64 r]] w (AnsP w (MayT next k I i x r)) := by
  obtain ⟨t0, t1, t2⟩ := ht.cells
  have htl := ht.lt
  cases h1 : txB x with
  | false =>
    have HBAD : Hid (¬ MayT next k I i x r) := fun q => by have := q.1; rw [h1] at this; cases this
    have h2 : nuB r = nuB r := rfl
    go_enter Try.func56, Try.ntmps56
    go_wp2
    go_quiet ((first
      | (go_at_call 64; exact Calls.quiet_of_same (isText_at _ _ h1 _))
      | (go_at_call 55; exact Calls.quiet_of_same (isNu_at _ _ h2 _))))
    go_wp2
    go_ret
    exact AnsP.no HBAD.out (below_drewN (below_alloc _ _) _)
  | true =>
  cases h2 : nuB r with
  | false =>
    have HBAD : Hid (¬ MayT next k I i x r) := fun q => by have := q.2.1; rw [h2] at this; cases this
    go_enter Try.func56, Try.ntmps56
    go_wp2
    go_quiet ((first
      | (go_at_call 64; exact Calls.quiet_of_same (isText_at _ _ h1 _))
      | (go_at_call 55; exact Calls.quiet_of_same (isNu_at _ _ h2 _))))
    go_wp2
    go_ret
    exact AnsP.no HBAD.out (below_drewN (below_alloc _ _) _)
  | true =>
  by_cases h3 : 1 ≤ i
  case neg =>
    have HBAD : Hid (¬ MayT next k I i x r) := fun q => by have := q.2.2.1; omega
    have hd3 : decide (1 ≤ i) = false := by simp; omega
    go_enter Try.func56, Try.ntmps56
    go_wp2
    go_quiet ((first
      | (go_at_call 64; exact Calls.quiet_of_same (isText_at _ _ h1 _))
      | (go_at_call 55; exact Calls.quiet_of_same (isNu_at _ _ h2 _))))
    go_wp2
    go_ret
    exact AnsP.no HBAD.out (below_drewN (below_alloc _ _) _)
  case pos =>
  have hd3 : decide (1 ≤ i) = true := by simp; omega
  by_cases h4 : i < next
  case neg =>
    have HBAD : Hid (¬ MayT next k I i x r) := fun q => by have := q.2.2.2.1; omega
    have hd4 : decide (i < next) = false := by simp; omega
    go_enter Try.func56, Try.ntmps56
    go_wp2
    go_quiet ((first
      | (go_at_call 64; exact Calls.quiet_of_same (isText_at _ _ h1 _))
      | (go_at_call 55; exact Calls.quiet_of_same (isNu_at _ _ h2 _))))
    go_wp2
    go_ret
    exact AnsP.no HBAD.out (below_drewN (below_alloc _ _) _)
  case pos =>
  have hd4 : decide (i < next) = true := by simp; omega
  by_cases h5 : ∃ j, j < k ∧ I j = i
  case pos =>
    obtain ⟨j, hj, hji⟩ := h5
    have HBAD : Hid (¬ MayT next k I i x r) := fun q => q.2.2.2.2 j hj hji
    have hl : ∀ n, (Instr.lookup 87 (.map (some B2)) (.int .i64 i) false).run Try.prog ((w.alloc (.cells #[.int .i64 i, .string x, .int .i64 r] 57)).drewN n) = .ok (.pointer (some ⟨V j, 0, none⟩)) ((w.alloc (.cells #[.int .i64 i, .string x, .int .i64 r] 57)).drewN n) := fun n =>
      (hm.kept (keptDrew (below_drewN (below_alloc _ _) n) hm.lt)).look_some (kt := 2) (et := 92) (by kernel_rfl) (by kernel_rfl) (d := .int .i64) (show IsKey (.int .i64) (.int .i64 i) from rfl) (fun j _ => show IsKey (.int .i64) (.int .i64 (I j)) from rfl) hj (by rw [hji]) (fun q hq e => by
        have : I q = I j := by injection e with _ e; omega
        rw [hd q hq j hj this])
    go_enter Try.func56, Try.ntmps56
    go_wp2
    go_quiet ((first
      | (go_at_call 64; exact Calls.quiet_of_same (isText_at _ _ h1 _))
      | (go_at_call 55; exact Calls.quiet_of_same (isNu_at _ _ h2 _))))
    go_wp2
    go_ret
    exact AnsP.no HBAD.out (below_drewN (below_alloc _ _) _)
  case neg =>
    have HG : Hid (MayT next k I i x r) := ⟨h1, h2, h3, h4, fun j hj e => h5 ⟨j, hj, e⟩⟩
    have hl : ∀ n, (Instr.lookup 87 (.map (some B2)) (.int .i64 i) false).run Try.prog ((w.alloc (.cells #[.int .i64 i, .string x, .int .i64 r] 57)).drewN n) = .ok (.pointer none) ((w.alloc (.cells #[.int .i64 i, .string x, .int .i64 r] 57)).drewN n) := fun n =>
      (hm.kept (keptDrew (below_drewN (below_alloc _ _) n) hm.lt)).look_none (kt := 2) (et := 92) (by kernel_rfl) (by kernel_rfl) (d := .int .i64) (show IsKey (.int .i64) (.int .i64 i) from rfl) (fun j _ => show IsKey (.int .i64) (.int .i64 (I j)) from rfl) (fun j hj e => h5 ⟨j, hj, by injection e⟩) (by kernel_rfl)
    go_enter Try.func56, Try.ntmps56
    go_wp2
    go_quiet ((first
      | (go_at_call 64; exact Calls.quiet_of_same (isText_at _ _ h1 _))
      | (go_at_call 55; exact Calls.quiet_of_same (isNu_at _ _ h2 _))))
    go_wp2
    go_ret
    exact AnsP.yes HG.out (below_drewN (below_alloc _ _) _)
end Go.Proofs.Ytfcffpgiijnmjaa
