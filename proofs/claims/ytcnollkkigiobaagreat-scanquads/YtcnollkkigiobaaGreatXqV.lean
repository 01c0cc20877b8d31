import Derived.Test.YtcnollkkigiobaaGreatXqS
import Derived.Test.YtcnollkkigiobaaGreatXiR
import Derived.Test.YtcnollkkigiobaaGreatTrV
import Derived.Test.YtcnollkkigiobaaGreatEligE
import Derived.Deep.QuietTactic
import Derived.BigQuiet
namespace Go.Proofs.YtcnollkkigiobaaGreat
open Go.RowKit Go.Deep
set_option linter.unusedVariables false
set_option maxRecDepth 100000

theorem Tryz.info34 : (Tryz.prog.info? 34).map (fun i => (i.zero, i.size, i.bytes)) = some (some (.agg #[.int .i64 0, .int .i64 0, .int .i64 0, .int .i64 0]), 4, 32) := by kernel_rfl

/-- The cells of quads. -/
def quadL : List Qd → List Value
  | [] => []
  | q :: L => .int .i64 q.s :: .int .i64 q.p :: .int .i64 q.o :: .int .i64 q.g :: quadL L
theorem quadL_app : ∀ (L M : List Qd), quadL (L ++ M) = quadL L ++ quadL M
  | [], M => rfl
  | q :: L, M => by
    show _ :: _ :: _ :: _ :: quadL (L ++ M) = _
    rw [quadL_app L M]
    rfl
theorem quadL_get : ∀ (L : List Qd) (i : Nat) (h : i < L.length), (quadL L)[i * 4]? = some (.int .i64 L[i].s) ∧ (quadL L)[i * 4 + 1]? = some (.int .i64 L[i].p) ∧ (quadL L)[i * 4 + 2]? = some (.int .i64 L[i].o) ∧ (quadL L)[i * 4 + 3]? = some (.int .i64 L[i].g)
  | [], i, h => absurd h (Nat.not_lt_zero _)
  | q :: L, 0, h => ⟨rfl, rfl, rfl, rfl⟩
  | q :: L, i + 1, h => by
    have hh := quadL_get L i (by simpa using h)
    have e : ∀ t, (quadL (q :: L))[(i + 1) * 4 + t]? = (quadL L)[i * 4 + t]? := fun t => by
      rw [show (i + 1) * 4 + t = (i * 4 + t) + 1 + 1 + 1 + 1 by omega]
      rfl
    have e0 := e 0
    rw [Nat.add_zero, Nat.add_zero] at e0
    exact ⟨e0.trans hh.1, (e 1).trans hh.2.1, (e 2).trans hh.2.2.1, (e 3).trans hh.2.2.2⟩
/-- A slice of quads that can be read. -/
def RdQ (w : World) (a : Option Addr) (L : List Qd) : Prop :=
  L.length = 0 ∨ ∃ b, a = some ⟨b, 0, none⟩ ∧ ∀ i (h : i < L.length), w.cell? ⟨b, i * 4, none⟩ = some (.int .i64 L[i].s) ∧ w.cell? ⟨b, i * 4 + 1, none⟩ = some (.int .i64 L[i].p) ∧ w.cell? ⟨b, i * 4 + 2, none⟩ = some (.int .i64 L[i].o) ∧ w.cell? ⟨b, i * 4 + 3, none⟩ = some (.int .i64 L[i].g)
theorem RdQ.below {w w' : World} {a : Option Addr} {L : List Qd} (h : RdQ w a L) (hb : Below w.heap.size w w') : RdQ w' a L := by
  rcases h with h | ⟨b, rfl, hc⟩
  · exact Or.inl h
  · refine Or.inr ⟨b, rfl, fun i hi => ?_⟩
    obtain ⟨h0, h1, h2, h3⟩ := hc i hi
    exact ⟨by rw [hb.cell (World.block_lt_of_cell? _ _ h0)]; exact h0, by rw [hb.cell (World.block_lt_of_cell? _ _ h1)]; exact h1, by rw [hb.cell (World.block_lt_of_cell? _ _ h2)]; exact h2, by rw [hb.cell (World.block_lt_of_cell? _ _ h3)]; exact h3⟩
theorem own_rdq {w : World} {B : Nat} {a : Option Addr} {c : Nat} {L : List Qd} (h : w.ownsRow B 34 4 (.slice a L.length c) L.length (quadL L)) : RdQ w a L := by
  obtain ⟨a', c', e, hf⟩ := own_form h
  injection e with e
  subst e
  by_cases h0 : L.length = 0
  · exact .inl h0
  · obtain ⟨g, rfl, _, _, hc⟩ := hf h0
    refine .inr ⟨g, rfl, fun i hi => ?_⟩
    obtain ⟨q0, q1, q2, q3⟩ := quadL_get L i hi
    exact ⟨hc _ _ q0, hc _ _ q1, hc _ _ q2, hc _ _ q3⟩
theorem qd_eq {x y : Qd} : (x.s == y.s && (x.p == y.p && (x.o == y.o && x.g == y.g))) = true ↔ x = y := by
  obtain ⟨a, b, c, d⟩ := x
  obtain ⟨a', b', c', d'⟩ := y
  simp

set_option maxHeartbeats 2000000 in
theorem l5Has_any (a : Option Addr) (n c : Nat) (L : List Qd) (q : Qd) (w : World) (h : RdQ w a L) (hn : n = L.length) (hn2 : n ≤ 1048576) :
    Calls Tryz.prog 43 #[.slice a n c, qv q] w fun e w' => ∃ b : Bool, e = .returned (.bool b) ∧ (b = true ↔ q ∈ L) ∧ Below w.heap.size w w' := by
  have HR : Hid (RdQ w a L ∧ n = L.length) := ⟨h, hn⟩
  clear h hn
  have hEq := eqQ
  unfold qv
  go_enter Tryz.func43, Tryz.ntmps43
  go_wp2
  go_loopw [5] (fun i wr => ∃ k : Nat, k ≤ n ∧ i = .int .i64 k ∧ (∀ j (h : j < L.length), j < k → L[j] ≠ q) ∧ Below w.heap.size w wr ∧ Bx wr w.heap.size 34 #[.int .i64 q.s, .int .i64 q.p, .int .i64 q.o, .int .i64 q.g]) (fun i _ => n - (intOf i).toNat)
  case atStart => exact ⟨0, Nat.zero_le _, rfl, fun j _ hj => absurd hj (Nat.not_lt_zero _), below_alloc _ _, Bx.new _ _ _⟩
  case round =>
    obtain ⟨k, hk, rfl, hall, hbel, hbx⟩ := hrel
    have HS : Hid ((∀ j (h : j < L.length), j < k → L[j] ≠ q) ∧ Below w.heap.size w wr ∧ Bx wr w.heap.size 34 #[.int .i64 q.s, .int .i64 q.p, .int .i64 q.o, .int .i64 q.g]) := ⟨hall, hbel, hbx⟩
    by_cases hlt : k < n
    · have hkL : k < L.length := by rw [← HR.out.2]; exact hlt
      rcases HR.out.1.below hbel with h0 | ⟨b, rfl, hc⟩
      · omega
      obtain ⟨s0, s1, s2, s3⟩ := hc k hkL
      have z0 := hbx.cell 0
      have z1 := hbx.cell 1
      have z2 := hbx.cell 2
      have z3 := hbx.cell 3
      simp at z0 z1 z2 z3
      have i0 : (0 : Int) ≤ (k : Int) := by omega
      have i1 : (k : Int) < (n : Int) := by omega
      have HE := qd_eq (x := L[k]) (y := q)
      clear hc hall hbel hbx
      obtain ⟨x, hx⟩ : ∃ x, x = L[k] := ⟨_, rfl⟩
      have HXk : Hid (L[k] = x) := hx.symm
      rw [← hx] at s0 s1 s2 s3 HE
      clear hx
      by_cases he : x = q
      · have HY : Hid (L[k] = q) := HXk.out.trans he
        have hE : ∀ W : World, (Op.equalIn 10000 34 (.agg #[.int .i64 x.s, .int .i64 x.p, .int .i64 x.o, .int .i64 x.g]) (.agg #[.int .i64 q.s, .int .i64 q.p, .int .i64 q.o, .int .i64 q.g])).run Tryz.prog W = .ok true W := fun W => by rw [hEq, HE.2 he]
        clear hEq HE he
        go_wp2
        go_quiet (fail)
        go_wp2
        go_ret
        exact ⟨true, rfl, by simp only [true_iff]; rw [← HY.out]; exact List.getElem_mem _, below_drewN HS.out.2.1 _⟩
      · have hE : ∀ W : World, (Op.equalIn 10000 34 (.agg #[.int .i64 x.s, .int .i64 x.p, .int .i64 x.o, .int .i64 x.g]) (.agg #[.int .i64 q.s, .int .i64 q.p, .int .i64 q.o, .int .i64 q.g])).run Tryz.prog W = .ok false W := fun W => by
          have e : (x.s == q.s && (x.p == q.p && (x.o == q.o && x.g == q.g))) = false := by
            cases hb : (x.s == q.s && (x.p == q.p && (x.o == q.o && x.g == q.g))) with
            | false => rfl
            | true => exact absurd (HE.1 hb) he
          rw [hEq, e]
        have HN : Hid (∀ j (h : j < L.length), j < k + 1 → L[j] ≠ q) := fun j hj hj2 => by
          by_cases e : j = k
          · subst e
            rw [HXk.out]
            exact he
          · exact HS.out.1 j hj (by omega)
        clear hEq HE he
        go_wp2
        go_quiet (fail)
        go_wp2
        go_roundw
        case rel => exact ⟨k + 1, by omega, by go_num, HN.out, below_drewN HS.out.2.1 _, HS.out.2.2⟩
        case measure => simp [intOf]; omega
    · obtain rfl : k = n := by omega
      have HN : Hid (q ∉ L) := fun hm => by
        obtain ⟨j, hj, e⟩ := List.getElem_of_mem hm
        exact HS.out.1 j hj (by rw [HR.out.2]; exact hj) e
      clear hall hbel hbx
      go_wp2
      go_ret
      exact ⟨false, rfl, by simp [HN.out], HS.out.2.1⟩
end Go.Proofs.YtcnollkkigiobaaGreat
