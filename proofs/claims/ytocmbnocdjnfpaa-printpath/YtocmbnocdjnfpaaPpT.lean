import Derived.Test.YtocmbnocdjnfpaaRows
import Derived.Test.YtocmbnocdjnfpaaOwn
namespace Go.Proofs.Ytocmbnocdjnfpaa
open Go.RowKit Go.Deep

/-- A row whose first n cells are not frozen, with a mark behind them. -/
def rowM (w : World) (g n : Nat) (F : Nat → Value) : Prop := ∃ (cur : Array Value) (fr : Nat × Nat), w.heap[g]? = some (.cells cur 5 fr) ∧ n ≤ cur.size ∧ n ≤ fr.1 ∧ ∀ i, i < n → cur[i]? = some (F i)
theorem rowM.cell {w : World} {g n : Nat} {F : Nat → Value} (h : rowM w g n F) {i : Nat} (hi : i < n) : w.cell? ⟨g, i, none⟩ = some (F i) := by
  obtain ⟨c, fr, hb, _, _, hc⟩ := h
  simp [World.cell?, hb, hc i hi]
theorem rowM.frozen {w : World} {g n : Nat} {F : Nat → Value} (h : rowM w g n F) (i : Nat) (hi : i < n) : w.frozen? ⟨g, i, none⟩ = false := by
  obtain ⟨c, fr, hb, _, hf, _⟩ := h
  simp [World.frozen?, hb]
  omega
theorem rowM.congr {w : World} {g n : Nat} {F G : Nat → Value} (h : rowM w g n F) (e : ∀ i, i < n → F i = G i) : rowM w g n G := by
  obtain ⟨c, fr, hb, hn, hf, hc⟩ := h
  exact ⟨c, fr, hb, hn, hf, fun i hi => by rw [hc i hi, e i hi]⟩
theorem rowM.set {w : World} {g n : Nat} {F : Nat → Value} (h : rowM w g n F) (i : Nat) (v : Value) : rowM (w.setCell ⟨g, i, none⟩ v) g n (fun j => if j = i then v else F j) := by
  obtain ⟨c, fr, hb, hn, hf, hc⟩ := h
  refine ⟨c.setIfInBounds i v, fr, ?_, by simpa using hn, hf, fun j hj => ?_⟩
  · simp [World.setCell, Array.getElem?_modify, hb]
  · rw [Array.getElem?_setIfInBounds]
    by_cases e : j = i
    · subst e
      have : j < c.size := by omega
      simp [this]
    · rw [if_neg (fun h => e h.symm)]
      show c[j]? = some (if j = i then v else F j)
      rw [if_neg e]
      exact hc j hj
theorem rowM.rd {w : World} {g n : Nat} {f : Nat → Int} (h : rowM w g n (fun i => .int .u8 (f i))) : Rd .u8 w (some ⟨g, 0, none⟩) n f := .inr ⟨g, 0, rfl, fun i hi => by rw [Nat.zero_add]; exact h.cell hi⟩

set_option maxHeartbeats 1000000 in
theorem markByteS_m (g n cap : Nat) (f : Nat → Int) (w : World) (k0 : Int) (h : rowM w g n (fun i => .int .u8 (f i))) (hn : n ≤ 1099511627776) (h0 : 0 ≤ k0) (h1 : k0 ≤ 4611686018427387904) :
    Calls Try.prog 18 #[.slice (some ⟨g, 0, none⟩) n cap, .int .i64 k0] w fun e w' => e = .returned (.int .i64 (k0 + n)) ∧
      rowM w' g n (fun i => .int .u8 (IntKind.u8.wrap (k0 + i))) ∧ OnlyAt (some ⟨g, 0, none⟩) w w' := by
  go_enter Try.func18, Try.ntmps18
  go_wp2
  go_loopw [1, 5] (fun q i wr => ∃ k : Nat, k ≤ n ∧ i = .int .i64 k ∧ q = .int .i64 (k0 + k) ∧ rowM wr g n (fun j => if j < k then .int .u8 (IntKind.u8.wrap (k0 + j)) else .int .u8 (f j)) ∧ OnlyAt (some ⟨g, 0, none⟩) w wr) (fun _ i _ => n - (intOf i).toNat)
  case atStart => exact ⟨0, Nat.zero_le _, rfl, by simp, h.congr (fun j _ => by simp), OnlyAt.refl _ _⟩
  case round =>
    obtain ⟨k, hk, rfl, rfl, hrow, honly⟩ := hrel
    by_cases hlt : k < n
    · have hcy := hrow.cell hlt
      simp only [Nat.lt_irrefl, if_false] at hcy
      have hfy := hrow.frozen k hlt
      have HX : Hid (rowM (wr.setCell ⟨g, k, none⟩ (.int .u8 (IntKind.u8.wrap (k0 + k)))) g n (fun j => if j < k + 1 then .int .u8 (IntKind.u8.wrap (k0 + j)) else .int .u8 (f j)) ∧ OnlyAt (some ⟨g, 0, none⟩) w (wr.setCell ⟨g, k, none⟩ (.int .u8 (IntKind.u8.wrap (k0 + k))))) :=
        ⟨(hrow.set k _).congr (fun j _ => by
            by_cases e : j = k
            · subst e; simp
            · by_cases hl : j < k
              · have : j < k + 1 := by omega
                simp [e, hl, this]
              · have : ¬ j < k + 1 := by omega
                simp [e, hl, this]), honly.setCell k _⟩
      clear hrow honly h
      go_wp2
      go_roundw
      case rel => exact ⟨k + 1, by omega, by go_num, by go_num, HX.out⟩
      case measure => simp [intOf]; omega
    · have e : k = n := by omega
      subst e
      go_wp2
      go_ret
      exact ⟨rfl, hrow.congr (fun i hi => by simp [hi]), honly⟩

set_option maxHeartbeats 1000000 in
theorem heldByteS_yes (a : Option Addr) (n cap : Nat) (w : World) (k0 : Int) (h : Rd .u8 w a n (fun i => IntKind.u8.wrap (k0 + i))) (hn : n ≤ 1099511627776) (h0 : 0 ≤ k0) (h1 : k0 ≤ 4611686018427387904) :
    Calls Try.prog 19 #[.slice a n cap, .int .i64 k0] w fun e w' => e = .returned (.int .i64 (k0 + n)) ∧ w' = w := by
  go_enter Try.func19, Try.ntmps19
  go_wp2
  go_loop [1, 5] (fun q i => ∃ k : Nat, k ≤ n ∧ i = .int .i64 k ∧ q = .int .i64 (k0 + k)) (fun _ i => n - (intOf i).toNat)
  case atStart => exact ⟨0, Nat.zero_le _, rfl, by simp⟩
  case round =>
    obtain ⟨k, hk, rfl, rfl⟩ := hrel
    by_cases hlt : k < n
    · have hne : ¬ n = 0 := by omega
      rcases h with h | ⟨b, o, rfl, hc⟩
      · exact absurd h hne
      have hcx := hc k hlt
      have hq : (IntKind.u8.wrap (k0 + k) != IntKind.u8.wrap (k0 + k)) = false := by simp
      clear hc
      go_wp2
      go_round
      case rel => exact ⟨k + 1, by omega, by go_num, by go_num⟩
      case measure => simp [intOf]; omega
    · have e : k = n := by omega
      subst e
      go_wp2
      go_ret
      exact ⟨rfl, rfl⟩
end Go.Proofs.Ytocmbnocdjnfpaa
