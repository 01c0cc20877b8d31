import Derived.Test.YtnbfgkichineiaaRows
import Derived.Test.YtnbfgkichineiaaOwnP
import Derived.Deep.QuietTactic
import Derived.BigQuiet
namespace Go.Proofs.Ytnbfgkichineiaa
open Go.RowKit Go.Deep
set_option linter.unusedVariables false
set_option maxRecDepth 100000

/-- A slice of bools that can be read. -/
def RdBl (w : World) (a : Option Addr) (n : Nat) (f : Nat → Bool) : Prop :=
  n = 0 ∨ ∃ b o, a = some ⟨b, o, none⟩ ∧ ∀ i, i < n → w.cell? ⟨b, o + i, none⟩ = some (.bool (f i))

theorem RdBl.below {w w' : World} {a : Option Addr} {n : Nat} {f : Nat → Bool} (h : RdBl w a n f) (hb : Below w.heap.size w w') : RdBl w' a n f := by
  rcases h with h | ⟨b, o, rfl, hc⟩
  · exact Or.inl h
  · refine Or.inr ⟨b, o, rfl, fun i hi => ?_⟩
    have hlt := World.block_lt_of_cell? _ _ (hc i hi)
    rw [hb.cell (p := ⟨b, o + i, none⟩) hlt]
    exact hc i hi

theorem RdBl.ofRow {w : World} {g : Nat} {t : TypeId} {n : Nat} {f : Nat → Bool} (h : rowIn w g t n (fun i => .bool (f i))) : RdBl w (some ⟨g, 0, none⟩) n f :=
  Or.inr ⟨g, 0, rfl, fun i hi => by rw [Nat.zero_add]; exact h.cell hi⟩

theorem Try.info4 : (Try.prog.info? 4).map (fun i => (i.zero, i.size, i.bytes)) = some (some (.bool false), 1, 1) := by kernel_rfl

set_option maxHeartbeats 1000000 in
theorem toBoolS_any (a : Option Addr) (len cap : Nat) (f : Nat → Bool) (w : World) (h : RdBl w a len f) (hm : len ≤ 1048576) :
    Calls Try.prog 29 #[.slice a len cap] w fun e w' => e = .returned (.slice (some ⟨w.heap.size, 0, none⟩) len len) ∧
      rowIn w' w.heap.size 4 len (fun i => .bool (f i)) ∧ Below w.heap.size w w' ∧ w.heap.size < w'.heap.size := by
  have hmk := run_make_row' (P := Try.prog) 45 4 (.bool false) 1 Try.underlying45 Try.info4 rfl .i64 .i64 len (by omega) (by omega)
  have HS : Hid (Below w.heap.size w (w.alloc (.cells (madeCells #[.bool false] len) 4)) ∧ rowIn (w.alloc (.cells (madeCells #[.bool false] len) 4)) w.heap.size 4 len (fun j => if j < 0 then .bool (f j) else .bool false)) :=
    ⟨below_alloc _ _, (rowIn.ofIs (World.rowIs_made w (.bool false) len 4)).congr (fun j _ => by simp)⟩
  go_enter Try.func29, Try.ntmps29
  go_wp2
  go_loopw [4] (fun i wr => ∃ k : Nat, k ≤ len ∧ i = .int .i64 k ∧ rowIn wr w.heap.size 4 len (fun j => if j < k then .bool (f j) else .bool false) ∧ Below w.heap.size w wr) (fun i _ => len - (intOf i).toNat)
  case atStart => exact ⟨0, Nat.zero_le _, rfl, HS.out.2, HS.out.1⟩
  case round =>
    obtain ⟨k, hk, rfl, hrow, hbel⟩ := hrel
    clear HS
    by_cases hlt : k < len
    · have hne : ¬ len = 0 := by omega
      rcases h with h | ⟨b, o, rfl, hc⟩
      · exact absurd h hne
      have hb : b < w.heap.size := World.block_lt_of_cell? _ _ (hc k hlt)
      have hcx : wr.cell? ⟨b, o + k, none⟩ = some (.bool (f k)) := (hbel.cell (p := ⟨b, o + k, none⟩) hb).trans (hc k hlt)
      have hcy := hrow.cell hlt
      simp only [Nat.lt_irrefl, if_false] at hcy
      have hfy := hrow.frozen k
      have HX : Hid (rowIn (wr.setCell ⟨w.heap.size, k, none⟩ (.bool (f k))) w.heap.size 4 len (fun j => if j < k + 1 then .bool (f j) else .bool false) ∧ Below w.heap.size w (wr.setCell ⟨w.heap.size, k, none⟩ (.bool (f k)))) :=
        ⟨(hrow.set k _).congr (fun j _ => by
            by_cases e : j = k
            · subst e; simp
            · by_cases hl : j < k
              · have : j < k + 1 := by omega
                simp [e, hl, this]
              · have : ¬ j < k + 1 := by omega
                simp [e, hl, this]), hbel.setCell (Nat.le_refl _) _⟩
      clear hrow hbel hc hmk
      go_wp2
      go_roundw
      case rel => exact ⟨k + 1, by omega, by go_num, HX.out⟩
      case measure => simp [intOf]; omega
    · have e : k = len := by omega
      subst e
      clear hmk
      go_wp2
      go_ret
      exact ⟨rfl, hrow.congr (fun i hi => by simp [hi]), hbel, hrow.lt⟩

set_option maxHeartbeats 1000000 in
theorem eqBoolS_yes (a b : Option Addr) (len ca cb : Nat) (f : Nat → Bool) (w : World) (ha : RdBl w a len f) (hb : RdBl w b len f) (hm : len ≤ 1048576) :
    Calls Try.prog 31 #[.slice a len ca, .slice b len cb] w fun e w' => e = .returned (.bool true) ∧ Below w.heap.size w w' := by
  have hll : ((len : Int) != (len : Int)) = false := by simp
  go_enter Try.func31, Try.ntmps31
  go_wp2
  go_loopw [5] (fun i wr => ∃ k n : Nat, k ≤ len ∧ i = .int .i64 k ∧ wr = w.drewN n) (fun i _ => len - (intOf i).toNat)
  case atStart => exact ⟨0, 0, Nat.zero_le _, rfl, rfl⟩
  case round =>
    obtain ⟨k, n, hk, rfl, rfl⟩ := hrel
    by_cases hlt : k < len
    · have hne : ¬ len = 0 := by omega
      rcases ha with h | ⟨ba, oa, rfl, hca⟩
      · exact absurd h hne
      rcases hb with h | ⟨bb, ob, rfl, hcb⟩
      · exact absurd h hne
      have h1 := hca k hlt
      have h2 := hcb k hlt
      clear hca hcb
      generalize f k = fk at *
      have hff : (!(fk == fk)) = false := by simp
      go_wp2
      go_quiet (fail)
      go_wp2
      go_roundw
      case rel => exact ⟨k + 1, _, by omega, by go_num, rfl⟩
      case measure => simp [intOf]; omega
    · have e : k = len := by omega
      subst e
      go_wp2
      go_ret
      exact ⟨rfl, below_drewN (Below.refl _ _) n⟩

set_option maxHeartbeats 1000000 in
theorem markBoolS_row (g n cap : Nat) (f : Nat → Bool) (w : World) (k0 : Int) (h : rowIn w g 4 n (fun i => .bool (f i))) (hn : n ≤ 1048576) (h0 : 0 ≤ k0) (h1 : k0 ≤ 4611686018427387904) :
    Calls Try.prog 32 #[.slice (some ⟨g, 0, none⟩) n cap, .int .i64 k0] w fun e w' => e = .returned (.int .i64 (k0 + n)) ∧ OnlyAt (some ⟨g, 0, none⟩) w w' := by
  go_enter Try.func32, Try.ntmps32
  go_wp2
  go_loopw [1, 5] (fun q i wr => ∃ (k : Nat) (f' : Nat → Bool), k ≤ n ∧ i = .int .i64 k ∧ q = .int .i64 (k0 + k) ∧ rowIn wr g 4 n (fun j => .bool (f' j)) ∧ OnlyAt (some ⟨g, 0, none⟩) w wr) (fun _ i _ => n - (intOf i).toNat)
  case atStart => exact ⟨0, f, Nat.zero_le _, rfl, by simp, h, OnlyAt.refl _ _⟩
  case round =>
    obtain ⟨k, f', hk, rfl, rfl, hrow, honly⟩ := hrel
    by_cases hlt : k < n
    · have hcy := hrow.cell hlt
      have hfy := hrow.frozen k
      have HX : Hid (∀ bb : Bool, rowIn (wr.setCell ⟨g, k, none⟩ (.bool bb)) g 4 n (fun j => .bool (if j = k then bb else f' j)) ∧ OnlyAt (some ⟨g, 0, none⟩) w (wr.setCell ⟨g, k, none⟩ (.bool bb))) :=
        fun bb => ⟨(hrow.set k _).congr (fun j _ => by by_cases e : j = k <;> simp [e]), honly.setCell k _⟩
      clear hrow honly h
      go_wp2
      go_roundw
      case rel => exact ⟨k + 1, _, by omega, by go_num, by go_num, HX.out _⟩
      case measure => simp [intOf]; omega
    · have e : k = n := by omega
      subst e
      go_wp2
      go_ret
      exact ⟨rfl, honly⟩
end Go.Proofs.Ytnbfgkichineiaa
