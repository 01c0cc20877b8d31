import Derived.Test.YtcnollkkigiobaaGreatEligB
import Derived.Test.YtcnollkkigiobaaGreatEligE
import Derived.Test.YtcnollkkigiobaaGreatXqM
import Derived.Test.YtcnollkkigiobaaGreatXoQ
import Derived.Laws.BytesString
namespace Go.Proofs.YtcnollkkigiobaaGreat
open Go.RowKit Go.Deep
set_option linter.unusedVariables false
set_option maxRecDepth 100000


set_option maxHeartbeats 4000000 in
theorem lead_1 (a b c d : Int) (w : World) :
    Calls Tryz.prog 63 #[.func (.func 101) #[] #[], .agg #[.int .i64 a, .int .i64 b, .int .i64 c, .int .i64 d]] w fun e w' => e = .returned (.agg #[.int .i64 (a), .int .i64 (if a = 0 then 0 else b), .int .i64 (if a = 0 ∨ b = 0 then 0 else c), .int .i64 (if a = 0 ∨ b = 0 ∨ c = 0 then 0 else d)]) ∧ Below w.heap.size w w' := by
  go_enter Tryz.func63, Tryz.ntmps63
  go_wp2_with fail
  refine (lay_1 _ _).mono ?_
  rintro e w1 ⟨rfl, hb1⟩
  go_wp2_with fail
  refine (lay_1 _ _).mono ?_
  rintro e w2 ⟨rfl, hb2⟩
  simp only [World.size_alloc] at hb1
  obtain ⟨cA, cB, cC, f1, f2, z2, bel⟩ := box3 (hb1.trans (hb2.mono (by have := hb1.size; simp at this; omega)))
  clear hb1 hb2
  have HS : Hid ((∀ o, w2.cell? ⟨w.heap.size, o, none⟩ = (#[.int .i64 a, .int .i64 b, .int .i64 c, .int .i64 d] : Array Value)[o]?) ∧ (∀ o, w2.cell? ⟨w.heap.size + 1, o, none⟩ = (#[.int .i64 0, .int .i64 0, .int .i64 0, .int .i64 0] : Array Value)[o]?) ∧ (∀ o, w2.cell? ⟨w.heap.size + 1 + 1, o, none⟩ = (#[.int .i64 0, .int .i64 0, .int .i64 0, .int .i64 0] : Array Value)[o]?) ∧ (∀ o, w2.frozen? ⟨w.heap.size + 1, o, none⟩ = false) ∧ (∀ o, w2.frozen? ⟨w.heap.size + 1 + 1, o, none⟩ = false) ∧ Below w.heap.size w w2) := ⟨cA, cB, cC, f1, f2, bel⟩
  clear cA cB cC f1 f2 bel
  go_wp2
  go_loopw [8] (fun i wr => ∃ k : Nat, k ≤ 4 ∧ i = .int .i64 k ∧ ((0 < k → a ≠ 0) ∧ (1 < k → b ≠ 0) ∧ (2 < k → c ≠ 0) ∧ (3 < k → d ≠ 0)) ∧ (wr.cell? ⟨w.heap.size + 1 + 1, 0, none⟩ = some (.int .i64 (if 0 < k then a else 0)) ∧ wr.cell? ⟨w.heap.size + 1 + 1, 1, none⟩ = some (.int .i64 (if 1 < k then b else 0)) ∧ wr.cell? ⟨w.heap.size + 1 + 1, 2, none⟩ = some (.int .i64 (if 2 < k then c else 0)) ∧ wr.cell? ⟨w.heap.size + 1 + 1, 3, none⟩ = some (.int .i64 (if 3 < k then d else 0))) ∧ (wr.cell? ⟨w.heap.size, 0, none⟩ = some (.int .i64 a) ∧ wr.cell? ⟨w.heap.size, 1, none⟩ = some (.int .i64 b) ∧ wr.cell? ⟨w.heap.size, 2, none⟩ = some (.int .i64 c) ∧ wr.cell? ⟨w.heap.size, 3, none⟩ = some (.int .i64 d) ∧ wr.cell? ⟨w2.heap.size, 0, none⟩ = some (.pointer (some ⟨w.heap.size, 0, none⟩)) ∧ wr.cell? ⟨w2.heap.size, 1, none⟩ = some (.pointer (some ⟨w.heap.size, 1, none⟩)) ∧ wr.cell? ⟨w2.heap.size, 2, none⟩ = some (.pointer (some ⟨w.heap.size, 2, none⟩)) ∧ wr.cell? ⟨w2.heap.size, 3, none⟩ = some (.pointer (some ⟨w.heap.size, 3, none⟩)) ∧ wr.cell? ⟨w2.heap.size + 1, 0, none⟩ = some (.pointer (some ⟨w.heap.size + 1 + 1, 0, none⟩)) ∧ wr.cell? ⟨w2.heap.size + 1, 1, none⟩ = some (.pointer (some ⟨w.heap.size + 1 + 1, 1, none⟩)) ∧ wr.cell? ⟨w2.heap.size + 1, 2, none⟩ = some (.pointer (some ⟨w.heap.size + 1 + 1, 2, none⟩)) ∧ wr.cell? ⟨w2.heap.size + 1, 3, none⟩ = some (.pointer (some ⟨w.heap.size + 1 + 1, 3, none⟩)) ∧ wr.cell? ⟨w.heap.size + 1, 0, none⟩ = some (.int .i64 0) ∧ wr.cell? ⟨w.heap.size + 1, 1, none⟩ = some (.int .i64 0) ∧ wr.cell? ⟨w.heap.size + 1, 2, none⟩ = some (.int .i64 0) ∧ wr.cell? ⟨w.heap.size + 1, 3, none⟩ = some (.int .i64 0)) ∧ (∀ o, wr.frozen? ⟨w.heap.size + 1, o, none⟩ = false) ∧ (∀ o, wr.frozen? ⟨w.heap.size + 1 + 1, o, none⟩ = false) ∧ w2.heap.size + 2 ≤ wr.heap.size ∧ Below w.heap.size w wr) (fun i _ => 4 - (intOf i).toNat)
  case atStart =>
    obtain ⟨cA, cB, cC, f1, f2, bel⟩ := HS.out
    have q := box2 (w := w2) (A := #[.pointer (some ⟨w.heap.size, 0, none⟩), .pointer (some ⟨w.heap.size, 1, none⟩), .pointer (some ⟨w.heap.size, 2, none⟩), .pointer (some ⟨w.heap.size, 3, none⟩)]) (B := #[.pointer (some ⟨w.heap.size + 1 + 1, 0, none⟩), .pointer (some ⟨w.heap.size + 1 + 1, 1, none⟩), .pointer (some ⟨w.heap.size + 1 + 1, 2, none⟩), .pointer (some ⟨w.heap.size + 1 + 1, 3, none⟩)]) (t := 156)
    exact ⟨0, Nat.zero_le _, rfl, by simp, ⟨(q.2.2.1 _ _ (by omega)).trans (cC 0), (q.2.2.1 _ _ (by omega)).trans (cC 1), (q.2.2.1 _ _ (by omega)).trans (cC 2), (q.2.2.1 _ _ (by omega)).trans (cC 3)⟩,
      ⟨(q.2.2.1 _ _ (by omega)).trans (cA 0), (q.2.2.1 _ _ (by omega)).trans (cA 1), (q.2.2.1 _ _ (by omega)).trans (cA 2), (q.2.2.1 _ _ (by omega)).trans (cA 3), q.1 0, q.1 1, q.1 2, q.1 3, q.2.1 0, q.2.1 1, q.2.1 2, q.2.1 3, (q.2.2.1 _ _ (by omega)).trans (cB 0), (q.2.2.1 _ _ (by omega)).trans (cB 1), (q.2.2.1 _ _ (by omega)).trans (cB 2), (q.2.2.1 _ _ (by omega)).trans (cB 3)⟩,
      fun o => (q.2.2.2.1 _ _ (by omega)).trans (f1 o), fun o => (q.2.2.2.1 _ _ (by omega)).trans (f2 o), by simp, bA (bA bel)⟩
  case round =>
    clear HS
    obtain ⟨k, hk, rfl, ⟨z0, z1, z2', z3⟩, ⟨l0, l1, l2, l3⟩, ⟨c0, c1, c2, c3, F0, F1, F2, F3, T0, T1, T2, T3, r0, r1, r2, r3⟩, f1, f2, zw, bel⟩ := hrel
    have n1 : ¬ (w.heap.size + 1 + 1 = w2.heap.size) := by omega
    have n2 : ¬ (w.heap.size + 1 + 1 = w2.heap.size + 1) := by omega
    have n3 : ¬ (w2.heap.size = w.heap.size + 1 + 1) := by omega
    have n4 : ¬ (w2.heap.size + 1 = w.heap.size + 1 + 1) := by omega
    have g1 : w.heap.size + 1 < wr.heap.size := by omega
    have g2 : w.heap.size + 1 + 1 < wr.heap.size := by omega
    have BE : Hid (Below w.heap.size w wr) := bel
    have ZW : Hid (w2.heap.size + 2 ≤ wr.heap.size) := zw
    clear bel zw
    have hk5 : k = 0 ∨ k = 1 ∨ k = 2 ∨ k = 3 ∨ k = 4 := by omega
    rcases hk5 with rfl | rfl | rfl | rfl | rfl
    · simp at l0 l1 l2 l3
      clear z0 z1 z2' z3
      by_cases hx : a = 0
      · have hxb : (a != 0) = false := by simp [hx]
        go_wp2
        refine bodyPost_ret (v := .agg #[.int .i64 0, .int .i64 0, .int .i64 0, .int .i64 0]) (by simp [results, Tryz.results63, go_sem, r0, r1, r2, r3]) rfl ⟨by simp_all, ?_⟩
        have HB := BE.out
        repeat (first | refine bA ?_ | refine bS (by omega) ?_ | refine bD ?_)
        exact HB
      · have hxb : (a != 0) = true := by simp [hx]
        go_wp2
        go_region_held3 (fun w' => w'.cell? ⟨w2.heap.size, 0, none⟩ = some (.pointer (some ⟨w.heap.size, 0, none⟩)) ∧ w'.cell? ⟨w2.heap.size + 1, 0, none⟩ = some (.pointer (some ⟨w.heap.size + 1 + 1, 0, none⟩)) ∧ w'.cell? ⟨w.heap.size, 0, none⟩ = some (.int .i64 a)) (first | exact ⟨keepFar n1 F0, keepFar n2 T0, keepFar (by omega) c0⟩ | go_keep) (fail)
        go_wp2
        go_roundw
        case rel =>
          exact ⟨1, by omega, by go_num, ⟨fun _ => hx, fun h => by omega, fun h => by omega, fun h => by omega⟩,
            ⟨(putIn l0).trans (by simp), (keepOff (by omega) l1).trans (by simp), (keepOff (by omega) l2).trans (by simp), (keepOff (by omega) l3).trans (by simp)⟩,
            ⟨keepFar (by omega) c0, keepFar (by omega) c1, keepFar (by omega) c2, keepFar (by omega) c3, keepFar (by omega) F0, keepFar (by omega) F1, keepFar (by omega) F2, keepFar (by omega) F3, keepFar (by omega) T0, keepFar (by omega) T1, keepFar (by omega) T2, keepFar (by omega) T3, keepFar (by omega) r0, keepFar (by omega) r1, keepFar (by omega) r2, keepFar (by omega) r3⟩,
            fun o => by simpa using f1 o, fun o => by simpa using f2 o, by simpa using ZW.out, bD (bS (by omega) BE.out)⟩
        case measure => simp [intOf]
    · simp at l0 l1 l2 l3
      have y0 : a ≠ 0 := z0 (by omega)
      clear z0 z1 z2' z3
      by_cases hx : b = 0
      · have hxb : (b != 0) = false := by simp [hx]
        go_wp2
        refine bodyPost_ret (v := .agg #[.int .i64 a, .int .i64 0, .int .i64 0, .int .i64 0]) (by simp [results, Tryz.results63, go_sem, r0, r1, r2, r3]) rfl ⟨by simp_all, ?_⟩
        have HB := BE.out
        repeat (first | refine bA ?_ | refine bS (by omega) ?_ | refine bD ?_)
        exact HB
      · have hxb : (b != 0) = true := by simp [hx]
        go_wp2
        go_region_held3 (fun w' => w'.cell? ⟨w2.heap.size, 1, none⟩ = some (.pointer (some ⟨w.heap.size, 1, none⟩)) ∧ w'.cell? ⟨w2.heap.size + 1, 1, none⟩ = some (.pointer (some ⟨w.heap.size + 1 + 1, 1, none⟩)) ∧ w'.cell? ⟨w.heap.size, 1, none⟩ = some (.int .i64 b)) (first | exact ⟨keepFar n1 F1, keepFar n2 T1, keepFar (by omega) c1⟩ | go_keep) (fail)
        go_wp2
        go_roundw
        case rel =>
          exact ⟨2, by omega, by go_num, ⟨fun _ => y0, fun _ => hx, fun h => by omega, fun h => by omega⟩,
            ⟨(keepOff (by omega) l0).trans (by simp), (putIn l1).trans (by simp), (keepOff (by omega) l2).trans (by simp), (keepOff (by omega) l3).trans (by simp)⟩,
            ⟨keepFar (by omega) c0, keepFar (by omega) c1, keepFar (by omega) c2, keepFar (by omega) c3, keepFar (by omega) F0, keepFar (by omega) F1, keepFar (by omega) F2, keepFar (by omega) F3, keepFar (by omega) T0, keepFar (by omega) T1, keepFar (by omega) T2, keepFar (by omega) T3, keepFar (by omega) r0, keepFar (by omega) r1, keepFar (by omega) r2, keepFar (by omega) r3⟩,
            fun o => by simpa using f1 o, fun o => by simpa using f2 o, by simpa using ZW.out, bD (bS (by omega) BE.out)⟩
        case measure => simp [intOf]
    · simp at l0 l1 l2 l3
      have y0 : a ≠ 0 := z0 (by omega)
      have y1 : b ≠ 0 := z1 (by omega)
      clear z0 z1 z2' z3
      by_cases hx : c = 0
      · have hxb : (c != 0) = false := by simp [hx]
        go_wp2
        refine bodyPost_ret (v := .agg #[.int .i64 a, .int .i64 b, .int .i64 0, .int .i64 0]) (by simp [results, Tryz.results63, go_sem, r0, r1, r2, r3]) rfl ⟨by simp_all, ?_⟩
        have HB := BE.out
        repeat (first | refine bA ?_ | refine bS (by omega) ?_ | refine bD ?_)
        exact HB
      · have hxb : (c != 0) = true := by simp [hx]
        go_wp2
        go_region_held3 (fun w' => w'.cell? ⟨w2.heap.size, 2, none⟩ = some (.pointer (some ⟨w.heap.size, 2, none⟩)) ∧ w'.cell? ⟨w2.heap.size + 1, 2, none⟩ = some (.pointer (some ⟨w.heap.size + 1 + 1, 2, none⟩)) ∧ w'.cell? ⟨w.heap.size, 2, none⟩ = some (.int .i64 c)) (first | exact ⟨keepFar n1 F2, keepFar n2 T2, keepFar (by omega) c2⟩ | go_keep) (fail)
        go_wp2
        go_roundw
        case rel =>
          exact ⟨3, by omega, by go_num, ⟨fun _ => y0, fun _ => y1, fun _ => hx, fun h => by omega⟩,
            ⟨(keepOff (by omega) l0).trans (by simp), (keepOff (by omega) l1).trans (by simp), (putIn l2).trans (by simp), (keepOff (by omega) l3).trans (by simp)⟩,
            ⟨keepFar (by omega) c0, keepFar (by omega) c1, keepFar (by omega) c2, keepFar (by omega) c3, keepFar (by omega) F0, keepFar (by omega) F1, keepFar (by omega) F2, keepFar (by omega) F3, keepFar (by omega) T0, keepFar (by omega) T1, keepFar (by omega) T2, keepFar (by omega) T3, keepFar (by omega) r0, keepFar (by omega) r1, keepFar (by omega) r2, keepFar (by omega) r3⟩,
            fun o => by simpa using f1 o, fun o => by simpa using f2 o, by simpa using ZW.out, bD (bS (by omega) BE.out)⟩
        case measure => simp [intOf]
    · simp at l0 l1 l2 l3
      have y0 : a ≠ 0 := z0 (by omega)
      have y1 : b ≠ 0 := z1 (by omega)
      have y2 : c ≠ 0 := z2' (by omega)
      clear z0 z1 z2' z3
      by_cases hx : d = 0
      · have hxb : (d != 0) = false := by simp [hx]
        go_wp2
        refine bodyPost_ret (v := .agg #[.int .i64 a, .int .i64 b, .int .i64 c, .int .i64 0]) (by simp [results, Tryz.results63, go_sem, r0, r1, r2, r3]) rfl ⟨by simp_all, ?_⟩
        have HB := BE.out
        repeat (first | refine bA ?_ | refine bS (by omega) ?_ | refine bD ?_)
        exact HB
      · have hxb : (d != 0) = true := by simp [hx]
        go_wp2
        go_region_held3 (fun w' => w'.cell? ⟨w2.heap.size, 3, none⟩ = some (.pointer (some ⟨w.heap.size, 3, none⟩)) ∧ w'.cell? ⟨w2.heap.size + 1, 3, none⟩ = some (.pointer (some ⟨w.heap.size + 1 + 1, 3, none⟩)) ∧ w'.cell? ⟨w.heap.size, 3, none⟩ = some (.int .i64 d)) (first | exact ⟨keepFar n1 F3, keepFar n2 T3, keepFar (by omega) c3⟩ | go_keep) (fail)
        go_wp2
        go_roundw
        case rel =>
          exact ⟨4, by omega, by go_num, ⟨fun _ => y0, fun _ => y1, fun _ => y2, fun _ => hx⟩,
            ⟨(keepOff (by omega) l0).trans (by simp), (keepOff (by omega) l1).trans (by simp), (keepOff (by omega) l2).trans (by simp), (putIn l3).trans (by simp)⟩,
            ⟨keepFar (by omega) c0, keepFar (by omega) c1, keepFar (by omega) c2, keepFar (by omega) c3, keepFar (by omega) F0, keepFar (by omega) F1, keepFar (by omega) F2, keepFar (by omega) F3, keepFar (by omega) T0, keepFar (by omega) T1, keepFar (by omega) T2, keepFar (by omega) T3, keepFar (by omega) r0, keepFar (by omega) r1, keepFar (by omega) r2, keepFar (by omega) r3⟩,
            fun o => by simpa using f1 o, fun o => by simpa using f2 o, by simpa using ZW.out, bD (bS (by omega) BE.out)⟩
        case measure => simp [intOf]
    · simp at l0 l1 l2 l3
      have y0 : a ≠ 0 := z0 (by omega)
      have y1 : b ≠ 0 := z1 (by omega)
      have y2 : c ≠ 0 := z2' (by omega)
      have y3 : d ≠ 0 := z3 (by omega)
      clear z0 z1 z2' z3
      go_wp2
      refine bodyPost_ret (v := .agg #[.int .i64 a, .int .i64 b, .int .i64 c, .int .i64 d]) (by simp [results, Tryz.results63, go_sem, r0, r1, r2, r3]) rfl ⟨by simp_all, ?_⟩
      have HB := BE.out
      repeat (first | refine bA ?_ | refine bS (by omega) ?_ | refine bD ?_)
      exact HB


end Go.Proofs.YtcnollkkigiobaaGreat

namespace Go.Proofs.YtcnollkkigiobaaGreat
open Go.RowKit Go.Deep
set_option linter.unusedVariables false
set_option maxRecDepth 100000


set_option maxHeartbeats 4000000 in
theorem lead_2 (a b c d : Int) (w : World) :
    Calls Tryz.prog 63 #[.func (.func 102) #[] #[], .agg #[.int .i64 a, .int .i64 b, .int .i64 c, .int .i64 d]] w fun e w' => e = .returned (.agg #[.int .i64 (if b = 0 ∨ c = 0 then 0 else a), .int .i64 (b), .int .i64 (if b = 0 then 0 else c), .int .i64 (if b = 0 ∨ c = 0 ∨ a = 0 then 0 else d)]) ∧ Below w.heap.size w w' := by
  go_enter Tryz.func63, Tryz.ntmps63
  go_wp2_with fail
  refine (lay_2 _ _).mono ?_
  rintro e w1 ⟨rfl, hb1⟩
  go_wp2_with fail
  refine (lay_2 _ _).mono ?_
  rintro e w2 ⟨rfl, hb2⟩
  simp only [World.size_alloc] at hb1
  obtain ⟨cA, cB, cC, f1, f2, z2, bel⟩ := box3 (hb1.trans (hb2.mono (by have := hb1.size; simp at this; omega)))
  clear hb1 hb2
  have HS : Hid ((∀ o, w2.cell? ⟨w.heap.size, o, none⟩ = (#[.int .i64 a, .int .i64 b, .int .i64 c, .int .i64 d] : Array Value)[o]?) ∧ (∀ o, w2.cell? ⟨w.heap.size + 1, o, none⟩ = (#[.int .i64 0, .int .i64 0, .int .i64 0, .int .i64 0] : Array Value)[o]?) ∧ (∀ o, w2.cell? ⟨w.heap.size + 1 + 1, o, none⟩ = (#[.int .i64 0, .int .i64 0, .int .i64 0, .int .i64 0] : Array Value)[o]?) ∧ (∀ o, w2.frozen? ⟨w.heap.size + 1, o, none⟩ = false) ∧ (∀ o, w2.frozen? ⟨w.heap.size + 1 + 1, o, none⟩ = false) ∧ Below w.heap.size w w2) := ⟨cA, cB, cC, f1, f2, bel⟩
  clear cA cB cC f1 f2 bel
  go_wp2
  go_loopw [8] (fun i wr => ∃ k : Nat, k ≤ 4 ∧ i = .int .i64 k ∧ ((0 < k → b ≠ 0) ∧ (1 < k → c ≠ 0) ∧ (2 < k → a ≠ 0) ∧ (3 < k → d ≠ 0)) ∧ (wr.cell? ⟨w.heap.size + 1 + 1, 0, none⟩ = some (.int .i64 (if 2 < k then a else 0)) ∧ wr.cell? ⟨w.heap.size + 1 + 1, 1, none⟩ = some (.int .i64 (if 0 < k then b else 0)) ∧ wr.cell? ⟨w.heap.size + 1 + 1, 2, none⟩ = some (.int .i64 (if 1 < k then c else 0)) ∧ wr.cell? ⟨w.heap.size + 1 + 1, 3, none⟩ = some (.int .i64 (if 3 < k then d else 0))) ∧ (wr.cell? ⟨w.heap.size, 0, none⟩ = some (.int .i64 a) ∧ wr.cell? ⟨w.heap.size, 1, none⟩ = some (.int .i64 b) ∧ wr.cell? ⟨w.heap.size, 2, none⟩ = some (.int .i64 c) ∧ wr.cell? ⟨w.heap.size, 3, none⟩ = some (.int .i64 d) ∧ wr.cell? ⟨w2.heap.size, 0, none⟩ = some (.pointer (some ⟨w.heap.size, 1, none⟩)) ∧ wr.cell? ⟨w2.heap.size, 1, none⟩ = some (.pointer (some ⟨w.heap.size, 2, none⟩)) ∧ wr.cell? ⟨w2.heap.size, 2, none⟩ = some (.pointer (some ⟨w.heap.size, 0, none⟩)) ∧ wr.cell? ⟨w2.heap.size, 3, none⟩ = some (.pointer (some ⟨w.heap.size, 3, none⟩)) ∧ wr.cell? ⟨w2.heap.size + 1, 0, none⟩ = some (.pointer (some ⟨w.heap.size + 1 + 1, 1, none⟩)) ∧ wr.cell? ⟨w2.heap.size + 1, 1, none⟩ = some (.pointer (some ⟨w.heap.size + 1 + 1, 2, none⟩)) ∧ wr.cell? ⟨w2.heap.size + 1, 2, none⟩ = some (.pointer (some ⟨w.heap.size + 1 + 1, 0, none⟩)) ∧ wr.cell? ⟨w2.heap.size + 1, 3, none⟩ = some (.pointer (some ⟨w.heap.size + 1 + 1, 3, none⟩)) ∧ wr.cell? ⟨w.heap.size + 1, 0, none⟩ = some (.int .i64 0) ∧ wr.cell? ⟨w.heap.size + 1, 1, none⟩ = some (.int .i64 0) ∧ wr.cell? ⟨w.heap.size + 1, 2, none⟩ = some (.int .i64 0) ∧ wr.cell? ⟨w.heap.size + 1, 3, none⟩ = some (.int .i64 0)) ∧ (∀ o, wr.frozen? ⟨w.heap.size + 1, o, none⟩ = false) ∧ (∀ o, wr.frozen? ⟨w.heap.size + 1 + 1, o, none⟩ = false) ∧ w2.heap.size + 2 ≤ wr.heap.size ∧ Below w.heap.size w wr) (fun i _ => 4 - (intOf i).toNat)
  case atStart =>
    obtain ⟨cA, cB, cC, f1, f2, bel⟩ := HS.out
    have q := box2 (w := w2) (A := #[.pointer (some ⟨w.heap.size, 1, none⟩), .pointer (some ⟨w.heap.size, 2, none⟩), .pointer (some ⟨w.heap.size, 0, none⟩), .pointer (some ⟨w.heap.size, 3, none⟩)]) (B := #[.pointer (some ⟨w.heap.size + 1 + 1, 1, none⟩), .pointer (some ⟨w.heap.size + 1 + 1, 2, none⟩), .pointer (some ⟨w.heap.size + 1 + 1, 0, none⟩), .pointer (some ⟨w.heap.size + 1 + 1, 3, none⟩)]) (t := 156)
    exact ⟨0, Nat.zero_le _, rfl, by simp, ⟨(q.2.2.1 _ _ (by omega)).trans (cC 0), (q.2.2.1 _ _ (by omega)).trans (cC 1), (q.2.2.1 _ _ (by omega)).trans (cC 2), (q.2.2.1 _ _ (by omega)).trans (cC 3)⟩,
      ⟨(q.2.2.1 _ _ (by omega)).trans (cA 0), (q.2.2.1 _ _ (by omega)).trans (cA 1), (q.2.2.1 _ _ (by omega)).trans (cA 2), (q.2.2.1 _ _ (by omega)).trans (cA 3), q.1 0, q.1 1, q.1 2, q.1 3, q.2.1 0, q.2.1 1, q.2.1 2, q.2.1 3, (q.2.2.1 _ _ (by omega)).trans (cB 0), (q.2.2.1 _ _ (by omega)).trans (cB 1), (q.2.2.1 _ _ (by omega)).trans (cB 2), (q.2.2.1 _ _ (by omega)).trans (cB 3)⟩,
      fun o => (q.2.2.2.1 _ _ (by omega)).trans (f1 o), fun o => (q.2.2.2.1 _ _ (by omega)).trans (f2 o), by simp, bA (bA bel)⟩
  case round =>
    clear HS
    obtain ⟨k, hk, rfl, ⟨z0, z1, z2', z3⟩, ⟨l0, l1, l2, l3⟩, ⟨c0, c1, c2, c3, F0, F1, F2, F3, T0, T1, T2, T3, r0, r1, r2, r3⟩, f1, f2, zw, bel⟩ := hrel
    have n1 : ¬ (w.heap.size + 1 + 1 = w2.heap.size) := by omega
    have n2 : ¬ (w.heap.size + 1 + 1 = w2.heap.size + 1) := by omega
    have n3 : ¬ (w2.heap.size = w.heap.size + 1 + 1) := by omega
    have n4 : ¬ (w2.heap.size + 1 = w.heap.size + 1 + 1) := by omega
    have g1 : w.heap.size + 1 < wr.heap.size := by omega
    have g2 : w.heap.size + 1 + 1 < wr.heap.size := by omega
    have BE : Hid (Below w.heap.size w wr) := bel
    have ZW : Hid (w2.heap.size + 2 ≤ wr.heap.size) := zw
    clear bel zw
    have hk5 : k = 0 ∨ k = 1 ∨ k = 2 ∨ k = 3 ∨ k = 4 := by omega
    rcases hk5 with rfl | rfl | rfl | rfl | rfl
    · simp at l0 l1 l2 l3
      clear z0 z1 z2' z3
      by_cases hx : b = 0
      · have hxb : (b != 0) = false := by simp [hx]
        go_wp2
        refine bodyPost_ret (v := .agg #[.int .i64 0, .int .i64 0, .int .i64 0, .int .i64 0]) (by simp [results, Tryz.results63, go_sem, r0, r1, r2, r3]) rfl ⟨by simp_all, ?_⟩
        have HB := BE.out
        repeat (first | refine bA ?_ | refine bS (by omega) ?_ | refine bD ?_)
        exact HB
      · have hxb : (b != 0) = true := by simp [hx]
        go_wp2
        go_region_held3 (fun w' => w'.cell? ⟨w2.heap.size, 0, none⟩ = some (.pointer (some ⟨w.heap.size, 1, none⟩)) ∧ w'.cell? ⟨w2.heap.size + 1, 0, none⟩ = some (.pointer (some ⟨w.heap.size + 1 + 1, 1, none⟩)) ∧ w'.cell? ⟨w.heap.size, 1, none⟩ = some (.int .i64 b)) (first | exact ⟨keepFar n1 F0, keepFar n2 T0, keepFar (by omega) c1⟩ | go_keep) (fail)
        go_wp2
        go_roundw
        case rel =>
          exact ⟨1, by omega, by go_num, ⟨fun _ => hx, fun h => by omega, fun h => by omega, fun h => by omega⟩,
            ⟨(keepOff (by omega) l0).trans (by simp), (putIn l1).trans (by simp), (keepOff (by omega) l2).trans (by simp), (keepOff (by omega) l3).trans (by simp)⟩,
            ⟨keepFar (by omega) c0, keepFar (by omega) c1, keepFar (by omega) c2, keepFar (by omega) c3, keepFar (by omega) F0, keepFar (by omega) F1, keepFar (by omega) F2, keepFar (by omega) F3, keepFar (by omega) T0, keepFar (by omega) T1, keepFar (by omega) T2, keepFar (by omega) T3, keepFar (by omega) r0, keepFar (by omega) r1, keepFar (by omega) r2, keepFar (by omega) r3⟩,
            fun o => by simpa using f1 o, fun o => by simpa using f2 o, by simpa using ZW.out, bD (bS (by omega) BE.out)⟩
        case measure => simp [intOf]
    · simp at l0 l1 l2 l3
      have y0 : b ≠ 0 := z0 (by omega)
      clear z0 z1 z2' z3
      by_cases hx : c = 0
      · have hxb : (c != 0) = false := by simp [hx]
        go_wp2
        refine bodyPost_ret (v := .agg #[.int .i64 0, .int .i64 b, .int .i64 0, .int .i64 0]) (by simp [results, Tryz.results63, go_sem, r0, r1, r2, r3]) rfl ⟨by simp_all, ?_⟩
        have HB := BE.out
        repeat (first | refine bA ?_ | refine bS (by omega) ?_ | refine bD ?_)
        exact HB
      · have hxb : (c != 0) = true := by simp [hx]
        go_wp2
        go_region_held3 (fun w' => w'.cell? ⟨w2.heap.size, 1, none⟩ = some (.pointer (some ⟨w.heap.size, 2, none⟩)) ∧ w'.cell? ⟨w2.heap.size + 1, 1, none⟩ = some (.pointer (some ⟨w.heap.size + 1 + 1, 2, none⟩)) ∧ w'.cell? ⟨w.heap.size, 2, none⟩ = some (.int .i64 c)) (first | exact ⟨keepFar n1 F1, keepFar n2 T1, keepFar (by omega) c2⟩ | go_keep) (fail)
        go_wp2
        go_roundw
        case rel =>
          exact ⟨2, by omega, by go_num, ⟨fun _ => y0, fun _ => hx, fun h => by omega, fun h => by omega⟩,
            ⟨(keepOff (by omega) l0).trans (by simp), (keepOff (by omega) l1).trans (by simp), (putIn l2).trans (by simp), (keepOff (by omega) l3).trans (by simp)⟩,
            ⟨keepFar (by omega) c0, keepFar (by omega) c1, keepFar (by omega) c2, keepFar (by omega) c3, keepFar (by omega) F0, keepFar (by omega) F1, keepFar (by omega) F2, keepFar (by omega) F3, keepFar (by omega) T0, keepFar (by omega) T1, keepFar (by omega) T2, keepFar (by omega) T3, keepFar (by omega) r0, keepFar (by omega) r1, keepFar (by omega) r2, keepFar (by omega) r3⟩,
            fun o => by simpa using f1 o, fun o => by simpa using f2 o, by simpa using ZW.out, bD (bS (by omega) BE.out)⟩
        case measure => simp [intOf]
    · simp at l0 l1 l2 l3
      have y0 : b ≠ 0 := z0 (by omega)
      have y1 : c ≠ 0 := z1 (by omega)
      clear z0 z1 z2' z3
      by_cases hx : a = 0
      · have hxb : (a != 0) = false := by simp [hx]
        go_wp2
        refine bodyPost_ret (v := .agg #[.int .i64 0, .int .i64 b, .int .i64 c, .int .i64 0]) (by simp [results, Tryz.results63, go_sem, r0, r1, r2, r3]) rfl ⟨by simp_all, ?_⟩
        have HB := BE.out
        repeat (first | refine bA ?_ | refine bS (by omega) ?_ | refine bD ?_)
        exact HB
      · have hxb : (a != 0) = true := by simp [hx]
        go_wp2
        go_region_held3 (fun w' => w'.cell? ⟨w2.heap.size, 2, none⟩ = some (.pointer (some ⟨w.heap.size, 0, none⟩)) ∧ w'.cell? ⟨w2.heap.size + 1, 2, none⟩ = some (.pointer (some ⟨w.heap.size + 1 + 1, 0, none⟩)) ∧ w'.cell? ⟨w.heap.size, 0, none⟩ = some (.int .i64 a)) (first | exact ⟨keepFar n1 F2, keepFar n2 T2, keepFar (by omega) c0⟩ | go_keep) (fail)
        go_wp2
        go_roundw
        case rel =>
          exact ⟨3, by omega, by go_num, ⟨fun _ => y0, fun _ => y1, fun _ => hx, fun h => by omega⟩,
            ⟨(putIn l0).trans (by simp), (keepOff (by omega) l1).trans (by simp), (keepOff (by omega) l2).trans (by simp), (keepOff (by omega) l3).trans (by simp)⟩,
            ⟨keepFar (by omega) c0, keepFar (by omega) c1, keepFar (by omega) c2, keepFar (by omega) c3, keepFar (by omega) F0, keepFar (by omega) F1, keepFar (by omega) F2, keepFar (by omega) F3, keepFar (by omega) T0, keepFar (by omega) T1, keepFar (by omega) T2, keepFar (by omega) T3, keepFar (by omega) r0, keepFar (by omega) r1, keepFar (by omega) r2, keepFar (by omega) r3⟩,
            fun o => by simpa using f1 o, fun o => by simpa using f2 o, by simpa using ZW.out, bD (bS (by omega) BE.out)⟩
        case measure => simp [intOf]
    · simp at l0 l1 l2 l3
      have y0 : b ≠ 0 := z0 (by omega)
      have y1 : c ≠ 0 := z1 (by omega)
      have y2 : a ≠ 0 := z2' (by omega)
      clear z0 z1 z2' z3
      by_cases hx : d = 0
      · have hxb : (d != 0) = false := by simp [hx]
        go_wp2
        refine bodyPost_ret (v := .agg #[.int .i64 a, .int .i64 b, .int .i64 c, .int .i64 0]) (by simp [results, Tryz.results63, go_sem, r0, r1, r2, r3]) rfl ⟨by simp_all, ?_⟩
        have HB := BE.out
        repeat (first | refine bA ?_ | refine bS (by omega) ?_ | refine bD ?_)
        exact HB
      · have hxb : (d != 0) = true := by simp [hx]
        go_wp2
        go_region_held3 (fun w' => w'.cell? ⟨w2.heap.size, 3, none⟩ = some (.pointer (some ⟨w.heap.size, 3, none⟩)) ∧ w'.cell? ⟨w2.heap.size + 1, 3, none⟩ = some (.pointer (some ⟨w.heap.size + 1 + 1, 3, none⟩)) ∧ w'.cell? ⟨w.heap.size, 3, none⟩ = some (.int .i64 d)) (first | exact ⟨keepFar n1 F3, keepFar n2 T3, keepFar (by omega) c3⟩ | go_keep) (fail)
        go_wp2
        go_roundw
        case rel =>
          exact ⟨4, by omega, by go_num, ⟨fun _ => y0, fun _ => y1, fun _ => y2, fun _ => hx⟩,
            ⟨(keepOff (by omega) l0).trans (by simp), (keepOff (by omega) l1).trans (by simp), (keepOff (by omega) l2).trans (by simp), (putIn l3).trans (by simp)⟩,
            ⟨keepFar (by omega) c0, keepFar (by omega) c1, keepFar (by omega) c2, keepFar (by omega) c3, keepFar (by omega) F0, keepFar (by omega) F1, keepFar (by omega) F2, keepFar (by omega) F3, keepFar (by omega) T0, keepFar (by omega) T1, keepFar (by omega) T2, keepFar (by omega) T3, keepFar (by omega) r0, keepFar (by omega) r1, keepFar (by omega) r2, keepFar (by omega) r3⟩,
            fun o => by simpa using f1 o, fun o => by simpa using f2 o, by simpa using ZW.out, bD (bS (by omega) BE.out)⟩
        case measure => simp [intOf]
    · simp at l0 l1 l2 l3
      have y0 : b ≠ 0 := z0 (by omega)
      have y1 : c ≠ 0 := z1 (by omega)
      have y2 : a ≠ 0 := z2' (by omega)
      have y3 : d ≠ 0 := z3 (by omega)
      clear z0 z1 z2' z3
      go_wp2
      refine bodyPost_ret (v := .agg #[.int .i64 a, .int .i64 b, .int .i64 c, .int .i64 d]) (by simp [results, Tryz.results63, go_sem, r0, r1, r2, r3]) rfl ⟨by simp_all, ?_⟩
      have HB := BE.out
      repeat (first | refine bA ?_ | refine bS (by omega) ?_ | refine bD ?_)
      exact HB


end Go.Proofs.YtcnollkkigiobaaGreat

namespace Go.Proofs.YtcnollkkigiobaaGreat
open Go.RowKit Go.Deep
set_option linter.unusedVariables false
set_option maxRecDepth 100000


set_option maxHeartbeats 4000000 in
theorem lead_3 (a b c d : Int) (w : World) :
    Calls Tryz.prog 63 #[.func (.func 103) #[] #[], .agg #[.int .i64 a, .int .i64 b, .int .i64 c, .int .i64 d]] w fun e w' => e = .returned (.agg #[.int .i64 (if c = 0 then 0 else a), .int .i64 (if c = 0 ∨ a = 0 then 0 else b), .int .i64 (c), .int .i64 (if c = 0 ∨ a = 0 ∨ b = 0 then 0 else d)]) ∧ Below w.heap.size w w' := by
  go_enter Tryz.func63, Tryz.ntmps63
  go_wp2_with fail
  refine (lay_3 _ _).mono ?_
  rintro e w1 ⟨rfl, hb1⟩
  go_wp2_with fail
  refine (lay_3 _ _).mono ?_
  rintro e w2 ⟨rfl, hb2⟩
  simp only [World.size_alloc] at hb1
  obtain ⟨cA, cB, cC, f1, f2, z2, bel⟩ := box3 (hb1.trans (hb2.mono (by have := hb1.size; simp at this; omega)))
  clear hb1 hb2
  have HS : Hid ((∀ o, w2.cell? ⟨w.heap.size, o, none⟩ = (#[.int .i64 a, .int .i64 b, .int .i64 c, .int .i64 d] : Array Value)[o]?) ∧ (∀ o, w2.cell? ⟨w.heap.size + 1, o, none⟩ = (#[.int .i64 0, .int .i64 0, .int .i64 0, .int .i64 0] : Array Value)[o]?) ∧ (∀ o, w2.cell? ⟨w.heap.size + 1 + 1, o, none⟩ = (#[.int .i64 0, .int .i64 0, .int .i64 0, .int .i64 0] : Array Value)[o]?) ∧ (∀ o, w2.frozen? ⟨w.heap.size + 1, o, none⟩ = false) ∧ (∀ o, w2.frozen? ⟨w.heap.size + 1 + 1, o, none⟩ = false) ∧ Below w.heap.size w w2) := ⟨cA, cB, cC, f1, f2, bel⟩
  clear cA cB cC f1 f2 bel
  go_wp2
  go_loopw [8] (fun i wr => ∃ k : Nat, k ≤ 4 ∧ i = .int .i64 k ∧ ((0 < k → c ≠ 0) ∧ (1 < k → a ≠ 0) ∧ (2 < k → b ≠ 0) ∧ (3 < k → d ≠ 0)) ∧ (wr.cell? ⟨w.heap.size + 1 + 1, 0, none⟩ = some (.int .i64 (if 1 < k then a else 0)) ∧ wr.cell? ⟨w.heap.size + 1 + 1, 1, none⟩ = some (.int .i64 (if 2 < k then b else 0)) ∧ wr.cell? ⟨w.heap.size + 1 + 1, 2, none⟩ = some (.int .i64 (if 0 < k then c else 0)) ∧ wr.cell? ⟨w.heap.size + 1 + 1, 3, none⟩ = some (.int .i64 (if 3 < k then d else 0))) ∧ (wr.cell? ⟨w.heap.size, 0, none⟩ = some (.int .i64 a) ∧ wr.cell? ⟨w.heap.size, 1, none⟩ = some (.int .i64 b) ∧ wr.cell? ⟨w.heap.size, 2, none⟩ = some (.int .i64 c) ∧ wr.cell? ⟨w.heap.size, 3, none⟩ = some (.int .i64 d) ∧ wr.cell? ⟨w2.heap.size, 0, none⟩ = some (.pointer (some ⟨w.heap.size, 2, none⟩)) ∧ wr.cell? ⟨w2.heap.size, 1, none⟩ = some (.pointer (some ⟨w.heap.size, 0, none⟩)) ∧ wr.cell? ⟨w2.heap.size, 2, none⟩ = some (.pointer (some ⟨w.heap.size, 1, none⟩)) ∧ wr.cell? ⟨w2.heap.size, 3, none⟩ = some (.pointer (some ⟨w.heap.size, 3, none⟩)) ∧ wr.cell? ⟨w2.heap.size + 1, 0, none⟩ = some (.pointer (some ⟨w.heap.size + 1 + 1, 2, none⟩)) ∧ wr.cell? ⟨w2.heap.size + 1, 1, none⟩ = some (.pointer (some ⟨w.heap.size + 1 + 1, 0, none⟩)) ∧ wr.cell? ⟨w2.heap.size + 1, 2, none⟩ = some (.pointer (some ⟨w.heap.size + 1 + 1, 1, none⟩)) ∧ wr.cell? ⟨w2.heap.size + 1, 3, none⟩ = some (.pointer (some ⟨w.heap.size + 1 + 1, 3, none⟩)) ∧ wr.cell? ⟨w.heap.size + 1, 0, none⟩ = some (.int .i64 0) ∧ wr.cell? ⟨w.heap.size + 1, 1, none⟩ = some (.int .i64 0) ∧ wr.cell? ⟨w.heap.size + 1, 2, none⟩ = some (.int .i64 0) ∧ wr.cell? ⟨w.heap.size + 1, 3, none⟩ = some (.int .i64 0)) ∧ (∀ o, wr.frozen? ⟨w.heap.size + 1, o, none⟩ = false) ∧ (∀ o, wr.frozen? ⟨w.heap.size + 1 + 1, o, none⟩ = false) ∧ w2.heap.size + 2 ≤ wr.heap.size ∧ Below w.heap.size w wr) (fun i _ => 4 - (intOf i).toNat)
  case atStart =>
    obtain ⟨cA, cB, cC, f1, f2, bel⟩ := HS.out
    have q := box2 (w := w2) (A := #[.pointer (some ⟨w.heap.size, 2, none⟩), .pointer (some ⟨w.heap.size, 0, none⟩), .pointer (some ⟨w.heap.size, 1, none⟩), .pointer (some ⟨w.heap.size, 3, none⟩)]) (B := #[.pointer (some ⟨w.heap.size + 1 + 1, 2, none⟩), .pointer (some ⟨w.heap.size + 1 + 1, 0, none⟩), .pointer (some ⟨w.heap.size + 1 + 1, 1, none⟩), .pointer (some ⟨w.heap.size + 1 + 1, 3, none⟩)]) (t := 156)
    exact ⟨0, Nat.zero_le _, rfl, by simp, ⟨(q.2.2.1 _ _ (by omega)).trans (cC 0), (q.2.2.1 _ _ (by omega)).trans (cC 1), (q.2.2.1 _ _ (by omega)).trans (cC 2), (q.2.2.1 _ _ (by omega)).trans (cC 3)⟩,
      ⟨(q.2.2.1 _ _ (by omega)).trans (cA 0), (q.2.2.1 _ _ (by omega)).trans (cA 1), (q.2.2.1 _ _ (by omega)).trans (cA 2), (q.2.2.1 _ _ (by omega)).trans (cA 3), q.1 0, q.1 1, q.1 2, q.1 3, q.2.1 0, q.2.1 1, q.2.1 2, q.2.1 3, (q.2.2.1 _ _ (by omega)).trans (cB 0), (q.2.2.1 _ _ (by omega)).trans (cB 1), (q.2.2.1 _ _ (by omega)).trans (cB 2), (q.2.2.1 _ _ (by omega)).trans (cB 3)⟩,
      fun o => (q.2.2.2.1 _ _ (by omega)).trans (f1 o), fun o => (q.2.2.2.1 _ _ (by omega)).trans (f2 o), by simp, bA (bA bel)⟩
  case round =>
    clear HS
    obtain ⟨k, hk, rfl, ⟨z0, z1, z2', z3⟩, ⟨l0, l1, l2, l3⟩, ⟨c0, c1, c2, c3, F0, F1, F2, F3, T0, T1, T2, T3, r0, r1, r2, r3⟩, f1, f2, zw, bel⟩ := hrel
    have n1 : ¬ (w.heap.size + 1 + 1 = w2.heap.size) := by omega
    have n2 : ¬ (w.heap.size + 1 + 1 = w2.heap.size + 1) := by omega
    have n3 : ¬ (w2.heap.size = w.heap.size + 1 + 1) := by omega
    have n4 : ¬ (w2.heap.size + 1 = w.heap.size + 1 + 1) := by omega
    have g1 : w.heap.size + 1 < wr.heap.size := by omega
    have g2 : w.heap.size + 1 + 1 < wr.heap.size := by omega
    have BE : Hid (Below w.heap.size w wr) := bel
    have ZW : Hid (w2.heap.size + 2 ≤ wr.heap.size) := zw
    clear bel zw
    have hk5 : k = 0 ∨ k = 1 ∨ k = 2 ∨ k = 3 ∨ k = 4 := by omega
    rcases hk5 with rfl | rfl | rfl | rfl | rfl
    · simp at l0 l1 l2 l3
      clear z0 z1 z2' z3
      by_cases hx : c = 0
      · have hxb : (c != 0) = false := by simp [hx]
        go_wp2
        refine bodyPost_ret (v := .agg #[.int .i64 0, .int .i64 0, .int .i64 0, .int .i64 0]) (by simp [results, Tryz.results63, go_sem, r0, r1, r2, r3]) rfl ⟨by simp_all, ?_⟩
        have HB := BE.out
        repeat (first | refine bA ?_ | refine bS (by omega) ?_ | refine bD ?_)
        exact HB
      · have hxb : (c != 0) = true := by simp [hx]
        go_wp2
        go_region_held3 (fun w' => w'.cell? ⟨w2.heap.size, 0, none⟩ = some (.pointer (some ⟨w.heap.size, 2, none⟩)) ∧ w'.cell? ⟨w2.heap.size + 1, 0, none⟩ = some (.pointer (some ⟨w.heap.size + 1 + 1, 2, none⟩)) ∧ w'.cell? ⟨w.heap.size, 2, none⟩ = some (.int .i64 c)) (first | exact ⟨keepFar n1 F0, keepFar n2 T0, keepFar (by omega) c2⟩ | go_keep) (fail)
        go_wp2
        go_roundw
        case rel =>
          exact ⟨1, by omega, by go_num, ⟨fun _ => hx, fun h => by omega, fun h => by omega, fun h => by omega⟩,
            ⟨(keepOff (by omega) l0).trans (by simp), (keepOff (by omega) l1).trans (by simp), (putIn l2).trans (by simp), (keepOff (by omega) l3).trans (by simp)⟩,
            ⟨keepFar (by omega) c0, keepFar (by omega) c1, keepFar (by omega) c2, keepFar (by omega) c3, keepFar (by omega) F0, keepFar (by omega) F1, keepFar (by omega) F2, keepFar (by omega) F3, keepFar (by omega) T0, keepFar (by omega) T1, keepFar (by omega) T2, keepFar (by omega) T3, keepFar (by omega) r0, keepFar (by omega) r1, keepFar (by omega) r2, keepFar (by omega) r3⟩,
            fun o => by simpa using f1 o, fun o => by simpa using f2 o, by simpa using ZW.out, bD (bS (by omega) BE.out)⟩
        case measure => simp [intOf]
    · simp at l0 l1 l2 l3
      have y0 : c ≠ 0 := z0 (by omega)
      clear z0 z1 z2' z3
      by_cases hx : a = 0
      · have hxb : (a != 0) = false := by simp [hx]
        go_wp2
        refine bodyPost_ret (v := .agg #[.int .i64 0, .int .i64 0, .int .i64 c, .int .i64 0]) (by simp [results, Tryz.results63, go_sem, r0, r1, r2, r3]) rfl ⟨by simp_all, ?_⟩
        have HB := BE.out
        repeat (first | refine bA ?_ | refine bS (by omega) ?_ | refine bD ?_)
        exact HB
      · have hxb : (a != 0) = true := by simp [hx]
        go_wp2
        go_region_held3 (fun w' => w'.cell? ⟨w2.heap.size, 1, none⟩ = some (.pointer (some ⟨w.heap.size, 0, none⟩)) ∧ w'.cell? ⟨w2.heap.size + 1, 1, none⟩ = some (.pointer (some ⟨w.heap.size + 1 + 1, 0, none⟩)) ∧ w'.cell? ⟨w.heap.size, 0, none⟩ = some (.int .i64 a)) (first | exact ⟨keepFar n1 F1, keepFar n2 T1, keepFar (by omega) c0⟩ | go_keep) (fail)
        go_wp2
        go_roundw
        case rel =>
          exact ⟨2, by omega, by go_num, ⟨fun _ => y0, fun _ => hx, fun h => by omega, fun h => by omega⟩,
            ⟨(putIn l0).trans (by simp), (keepOff (by omega) l1).trans (by simp), (keepOff (by omega) l2).trans (by simp), (keepOff (by omega) l3).trans (by simp)⟩,
            ⟨keepFar (by omega) c0, keepFar (by omega) c1, keepFar (by omega) c2, keepFar (by omega) c3, keepFar (by omega) F0, keepFar (by omega) F1, keepFar (by omega) F2, keepFar (by omega) F3, keepFar (by omega) T0, keepFar (by omega) T1, keepFar (by omega) T2, keepFar (by omega) T3, keepFar (by omega) r0, keepFar (by omega) r1, keepFar (by omega) r2, keepFar (by omega) r3⟩,
            fun o => by simpa using f1 o, fun o => by simpa using f2 o, by simpa using ZW.out, bD (bS (by omega) BE.out)⟩
        case measure => simp [intOf]
    · simp at l0 l1 l2 l3
      have y0 : c ≠ 0 := z0 (by omega)
      have y1 : a ≠ 0 := z1 (by omega)
      clear z0 z1 z2' z3
      by_cases hx : b = 0
      · have hxb : (b != 0) = false := by simp [hx]
        go_wp2
        refine bodyPost_ret (v := .agg #[.int .i64 a, .int .i64 0, .int .i64 c, .int .i64 0]) (by simp [results, Tryz.results63, go_sem, r0, r1, r2, r3]) rfl ⟨by simp_all, ?_⟩
        have HB := BE.out
        repeat (first | refine bA ?_ | refine bS (by omega) ?_ | refine bD ?_)
        exact HB
      · have hxb : (b != 0) = true := by simp [hx]
        go_wp2
        go_region_held3 (fun w' => w'.cell? ⟨w2.heap.size, 2, none⟩ = some (.pointer (some ⟨w.heap.size, 1, none⟩)) ∧ w'.cell? ⟨w2.heap.size + 1, 2, none⟩ = some (.pointer (some ⟨w.heap.size + 1 + 1, 1, none⟩)) ∧ w'.cell? ⟨w.heap.size, 1, none⟩ = some (.int .i64 b)) (first | exact ⟨keepFar n1 F2, keepFar n2 T2, keepFar (by omega) c1⟩ | go_keep) (fail)
        go_wp2
        go_roundw
        case rel =>
          exact ⟨3, by omega, by go_num, ⟨fun _ => y0, fun _ => y1, fun _ => hx, fun h => by omega⟩,
            ⟨(keepOff (by omega) l0).trans (by simp), (putIn l1).trans (by simp), (keepOff (by omega) l2).trans (by simp), (keepOff (by omega) l3).trans (by simp)⟩,
            ⟨keepFar (by omega) c0, keepFar (by omega) c1, keepFar (by omega) c2, keepFar (by omega) c3, keepFar (by omega) F0, keepFar (by omega) F1, keepFar (by omega) F2, keepFar (by omega) F3, keepFar (by omega) T0, keepFar (by omega) T1, keepFar (by omega) T2, keepFar (by omega) T3, keepFar (by omega) r0, keepFar (by omega) r1, keepFar (by omega) r2, keepFar (by omega) r3⟩,
            fun o => by simpa using f1 o, fun o => by simpa using f2 o, by simpa using ZW.out, bD (bS (by omega) BE.out)⟩
        case measure => simp [intOf]
    · simp at l0 l1 l2 l3
      have y0 : c ≠ 0 := z0 (by omega)
      have y1 : a ≠ 0 := z1 (by omega)
      have y2 : b ≠ 0 := z2' (by omega)
      clear z0 z1 z2' z3
      by_cases hx : d = 0
      · have hxb : (d != 0) = false := by simp [hx]
        go_wp2
        refine bodyPost_ret (v := .agg #[.int .i64 a, .int .i64 b, .int .i64 c, .int .i64 0]) (by simp [results, Tryz.results63, go_sem, r0, r1, r2, r3]) rfl ⟨by simp_all, ?_⟩
        have HB := BE.out
        repeat (first | refine bA ?_ | refine bS (by omega) ?_ | refine bD ?_)
        exact HB
      · have hxb : (d != 0) = true := by simp [hx]
        go_wp2
        go_region_held3 (fun w' => w'.cell? ⟨w2.heap.size, 3, none⟩ = some (.pointer (some ⟨w.heap.size, 3, none⟩)) ∧ w'.cell? ⟨w2.heap.size + 1, 3, none⟩ = some (.pointer (some ⟨w.heap.size + 1 + 1, 3, none⟩)) ∧ w'.cell? ⟨w.heap.size, 3, none⟩ = some (.int .i64 d)) (first | exact ⟨keepFar n1 F3, keepFar n2 T3, keepFar (by omega) c3⟩ | go_keep) (fail)
        go_wp2
        go_roundw
        case rel =>
          exact ⟨4, by omega, by go_num, ⟨fun _ => y0, fun _ => y1, fun _ => y2, fun _ => hx⟩,
            ⟨(keepOff (by omega) l0).trans (by simp), (keepOff (by omega) l1).trans (by simp), (keepOff (by omega) l2).trans (by simp), (putIn l3).trans (by simp)⟩,
            ⟨keepFar (by omega) c0, keepFar (by omega) c1, keepFar (by omega) c2, keepFar (by omega) c3, keepFar (by omega) F0, keepFar (by omega) F1, keepFar (by omega) F2, keepFar (by omega) F3, keepFar (by omega) T0, keepFar (by omega) T1, keepFar (by omega) T2, keepFar (by omega) T3, keepFar (by omega) r0, keepFar (by omega) r1, keepFar (by omega) r2, keepFar (by omega) r3⟩,
            fun o => by simpa using f1 o, fun o => by simpa using f2 o, by simpa using ZW.out, bD (bS (by omega) BE.out)⟩
        case measure => simp [intOf]
    · simp at l0 l1 l2 l3
      have y0 : c ≠ 0 := z0 (by omega)
      have y1 : a ≠ 0 := z1 (by omega)
      have y2 : b ≠ 0 := z2' (by omega)
      have y3 : d ≠ 0 := z3 (by omega)
      clear z0 z1 z2' z3
      go_wp2
      refine bodyPost_ret (v := .agg #[.int .i64 a, .int .i64 b, .int .i64 c, .int .i64 d]) (by simp [results, Tryz.results63, go_sem, r0, r1, r2, r3]) rfl ⟨by simp_all, ?_⟩
      have HB := BE.out
      repeat (first | refine bA ?_ | refine bS (by omega) ?_ | refine bD ?_)
      exact HB


end Go.Proofs.YtcnollkkigiobaaGreat

namespace Go.Proofs.YtcnollkkigiobaaGreat
open Go.RowKit Go.Deep
set_option linter.unusedVariables false
set_option maxRecDepth 100000


set_option maxHeartbeats 4000000 in
theorem lead_4 (a b c d : Int) (w : World) :
    Calls Tryz.prog 63 #[.func (.func 104) #[] #[], .agg #[.int .i64 a, .int .i64 b, .int .i64 c, .int .i64 d]] w fun e w' => e = .returned (.agg #[.int .i64 (if d = 0 then 0 else a), .int .i64 (if d = 0 ∨ a = 0 then 0 else b), .int .i64 (if d = 0 ∨ a = 0 ∨ b = 0 then 0 else c), .int .i64 (d)]) ∧ Below w.heap.size w w' := by
  go_enter Tryz.func63, Tryz.ntmps63
  go_wp2_with fail
  refine (lay_4 _ _).mono ?_
  rintro e w1 ⟨rfl, hb1⟩
  go_wp2_with fail
  refine (lay_4 _ _).mono ?_
  rintro e w2 ⟨rfl, hb2⟩
  simp only [World.size_alloc] at hb1
  obtain ⟨cA, cB, cC, f1, f2, z2, bel⟩ := box3 (hb1.trans (hb2.mono (by have := hb1.size; simp at this; omega)))
  clear hb1 hb2
  have HS : Hid ((∀ o, w2.cell? ⟨w.heap.size, o, none⟩ = (#[.int .i64 a, .int .i64 b, .int .i64 c, .int .i64 d] : Array Value)[o]?) ∧ (∀ o, w2.cell? ⟨w.heap.size + 1, o, none⟩ = (#[.int .i64 0, .int .i64 0, .int .i64 0, .int .i64 0] : Array Value)[o]?) ∧ (∀ o, w2.cell? ⟨w.heap.size + 1 + 1, o, none⟩ = (#[.int .i64 0, .int .i64 0, .int .i64 0, .int .i64 0] : Array Value)[o]?) ∧ (∀ o, w2.frozen? ⟨w.heap.size + 1, o, none⟩ = false) ∧ (∀ o, w2.frozen? ⟨w.heap.size + 1 + 1, o, none⟩ = false) ∧ Below w.heap.size w w2) := ⟨cA, cB, cC, f1, f2, bel⟩
  clear cA cB cC f1 f2 bel
  go_wp2
  go_loopw [8] (fun i wr => ∃ k : Nat, k ≤ 4 ∧ i = .int .i64 k ∧ ((0 < k → d ≠ 0) ∧ (1 < k → a ≠ 0) ∧ (2 < k → b ≠ 0) ∧ (3 < k → c ≠ 0)) ∧ (wr.cell? ⟨w.heap.size + 1 + 1, 0, none⟩ = some (.int .i64 (if 1 < k then a else 0)) ∧ wr.cell? ⟨w.heap.size + 1 + 1, 1, none⟩ = some (.int .i64 (if 2 < k then b else 0)) ∧ wr.cell? ⟨w.heap.size + 1 + 1, 2, none⟩ = some (.int .i64 (if 3 < k then c else 0)) ∧ wr.cell? ⟨w.heap.size + 1 + 1, 3, none⟩ = some (.int .i64 (if 0 < k then d else 0))) ∧ (wr.cell? ⟨w.heap.size, 0, none⟩ = some (.int .i64 a) ∧ wr.cell? ⟨w.heap.size, 1, none⟩ = some (.int .i64 b) ∧ wr.cell? ⟨w.heap.size, 2, none⟩ = some (.int .i64 c) ∧ wr.cell? ⟨w.heap.size, 3, none⟩ = some (.int .i64 d) ∧ wr.cell? ⟨w2.heap.size, 0, none⟩ = some (.pointer (some ⟨w.heap.size, 3, none⟩)) ∧ wr.cell? ⟨w2.heap.size, 1, none⟩ = some (.pointer (some ⟨w.heap.size, 0, none⟩)) ∧ wr.cell? ⟨w2.heap.size, 2, none⟩ = some (.pointer (some ⟨w.heap.size, 1, none⟩)) ∧ wr.cell? ⟨w2.heap.size, 3, none⟩ = some (.pointer (some ⟨w.heap.size, 2, none⟩)) ∧ wr.cell? ⟨w2.heap.size + 1, 0, none⟩ = some (.pointer (some ⟨w.heap.size + 1 + 1, 3, none⟩)) ∧ wr.cell? ⟨w2.heap.size + 1, 1, none⟩ = some (.pointer (some ⟨w.heap.size + 1 + 1, 0, none⟩)) ∧ wr.cell? ⟨w2.heap.size + 1, 2, none⟩ = some (.pointer (some ⟨w.heap.size + 1 + 1, 1, none⟩)) ∧ wr.cell? ⟨w2.heap.size + 1, 3, none⟩ = some (.pointer (some ⟨w.heap.size + 1 + 1, 2, none⟩)) ∧ wr.cell? ⟨w.heap.size + 1, 0, none⟩ = some (.int .i64 0) ∧ wr.cell? ⟨w.heap.size + 1, 1, none⟩ = some (.int .i64 0) ∧ wr.cell? ⟨w.heap.size + 1, 2, none⟩ = some (.int .i64 0) ∧ wr.cell? ⟨w.heap.size + 1, 3, none⟩ = some (.int .i64 0)) ∧ (∀ o, wr.frozen? ⟨w.heap.size + 1, o, none⟩ = false) ∧ (∀ o, wr.frozen? ⟨w.heap.size + 1 + 1, o, none⟩ = false) ∧ w2.heap.size + 2 ≤ wr.heap.size ∧ Below w.heap.size w wr) (fun i _ => 4 - (intOf i).toNat)
  case atStart =>
    obtain ⟨cA, cB, cC, f1, f2, bel⟩ := HS.out
    have q := box2 (w := w2) (A := #[.pointer (some ⟨w.heap.size, 3, none⟩), .pointer (some ⟨w.heap.size, 0, none⟩), .pointer (some ⟨w.heap.size, 1, none⟩), .pointer (some ⟨w.heap.size, 2, none⟩)]) (B := #[.pointer (some ⟨w.heap.size + 1 + 1, 3, none⟩), .pointer (some ⟨w.heap.size + 1 + 1, 0, none⟩), .pointer (some ⟨w.heap.size + 1 + 1, 1, none⟩), .pointer (some ⟨w.heap.size + 1 + 1, 2, none⟩)]) (t := 156)
    exact ⟨0, Nat.zero_le _, rfl, by simp, ⟨(q.2.2.1 _ _ (by omega)).trans (cC 0), (q.2.2.1 _ _ (by omega)).trans (cC 1), (q.2.2.1 _ _ (by omega)).trans (cC 2), (q.2.2.1 _ _ (by omega)).trans (cC 3)⟩,
      ⟨(q.2.2.1 _ _ (by omega)).trans (cA 0), (q.2.2.1 _ _ (by omega)).trans (cA 1), (q.2.2.1 _ _ (by omega)).trans (cA 2), (q.2.2.1 _ _ (by omega)).trans (cA 3), q.1 0, q.1 1, q.1 2, q.1 3, q.2.1 0, q.2.1 1, q.2.1 2, q.2.1 3, (q.2.2.1 _ _ (by omega)).trans (cB 0), (q.2.2.1 _ _ (by omega)).trans (cB 1), (q.2.2.1 _ _ (by omega)).trans (cB 2), (q.2.2.1 _ _ (by omega)).trans (cB 3)⟩,
      fun o => (q.2.2.2.1 _ _ (by omega)).trans (f1 o), fun o => (q.2.2.2.1 _ _ (by omega)).trans (f2 o), by simp, bA (bA bel)⟩
  case round =>
    clear HS
    obtain ⟨k, hk, rfl, ⟨z0, z1, z2', z3⟩, ⟨l0, l1, l2, l3⟩, ⟨c0, c1, c2, c3, F0, F1, F2, F3, T0, T1, T2, T3, r0, r1, r2, r3⟩, f1, f2, zw, bel⟩ := hrel
    have n1 : ¬ (w.heap.size + 1 + 1 = w2.heap.size) := by omega
    have n2 : ¬ (w.heap.size + 1 + 1 = w2.heap.size + 1) := by omega
    have n3 : ¬ (w2.heap.size = w.heap.size + 1 + 1) := by omega
    have n4 : ¬ (w2.heap.size + 1 = w.heap.size + 1 + 1) := by omega
    have g1 : w.heap.size + 1 < wr.heap.size := by omega
    have g2 : w.heap.size + 1 + 1 < wr.heap.size := by omega
    have BE : Hid (Below w.heap.size w wr) := bel
    have ZW : Hid (w2.heap.size + 2 ≤ wr.heap.size) := zw
    clear bel zw
    have hk5 : k = 0 ∨ k = 1 ∨ k = 2 ∨ k = 3 ∨ k = 4 := by omega
    rcases hk5 with rfl | rfl | rfl | rfl | rfl
    · simp at l0 l1 l2 l3
      clear z0 z1 z2' z3
      by_cases hx : d = 0
      · have hxb : (d != 0) = false := by simp [hx]
        go_wp2
        refine bodyPost_ret (v := .agg #[.int .i64 0, .int .i64 0, .int .i64 0, .int .i64 0]) (by simp [results, Tryz.results63, go_sem, r0, r1, r2, r3]) rfl ⟨by simp_all, ?_⟩
        have HB := BE.out
        repeat (first | refine bA ?_ | refine bS (by omega) ?_ | refine bD ?_)
        exact HB
      · have hxb : (d != 0) = true := by simp [hx]
        go_wp2
        go_region_held3 (fun w' => w'.cell? ⟨w2.heap.size, 0, none⟩ = some (.pointer (some ⟨w.heap.size, 3, none⟩)) ∧ w'.cell? ⟨w2.heap.size + 1, 0, none⟩ = some (.pointer (some ⟨w.heap.size + 1 + 1, 3, none⟩)) ∧ w'.cell? ⟨w.heap.size, 3, none⟩ = some (.int .i64 d)) (first | exact ⟨keepFar n1 F0, keepFar n2 T0, keepFar (by omega) c3⟩ | go_keep) (fail)
        go_wp2
        go_roundw
        case rel =>
          exact ⟨1, by omega, by go_num, ⟨fun _ => hx, fun h => by omega, fun h => by omega, fun h => by omega⟩,
            ⟨(keepOff (by omega) l0).trans (by simp), (keepOff (by omega) l1).trans (by simp), (keepOff (by omega) l2).trans (by simp), (putIn l3).trans (by simp)⟩,
            ⟨keepFar (by omega) c0, keepFar (by omega) c1, keepFar (by omega) c2, keepFar (by omega) c3, keepFar (by omega) F0, keepFar (by omega) F1, keepFar (by omega) F2, keepFar (by omega) F3, keepFar (by omega) T0, keepFar (by omega) T1, keepFar (by omega) T2, keepFar (by omega) T3, keepFar (by omega) r0, keepFar (by omega) r1, keepFar (by omega) r2, keepFar (by omega) r3⟩,
            fun o => by simpa using f1 o, fun o => by simpa using f2 o, by simpa using ZW.out, bD (bS (by omega) BE.out)⟩
        case measure => simp [intOf]
    · simp at l0 l1 l2 l3
      have y0 : d ≠ 0 := z0 (by omega)
      clear z0 z1 z2' z3
      by_cases hx : a = 0
      · have hxb : (a != 0) = false := by simp [hx]
        go_wp2
        refine bodyPost_ret (v := .agg #[.int .i64 0, .int .i64 0, .int .i64 0, .int .i64 d]) (by simp [results, Tryz.results63, go_sem, r0, r1, r2, r3]) rfl ⟨by simp_all, ?_⟩
        have HB := BE.out
        repeat (first | refine bA ?_ | refine bS (by omega) ?_ | refine bD ?_)
        exact HB
      · have hxb : (a != 0) = true := by simp [hx]
        go_wp2
        go_region_held3 (fun w' => w'.cell? ⟨w2.heap.size, 1, none⟩ = some (.pointer (some ⟨w.heap.size, 0, none⟩)) ∧ w'.cell? ⟨w2.heap.size + 1, 1, none⟩ = some (.pointer (some ⟨w.heap.size + 1 + 1, 0, none⟩)) ∧ w'.cell? ⟨w.heap.size, 0, none⟩ = some (.int .i64 a)) (first | exact ⟨keepFar n1 F1, keepFar n2 T1, keepFar (by omega) c0⟩ | go_keep) (fail)
        go_wp2
        go_roundw
        case rel =>
          exact ⟨2, by omega, by go_num, ⟨fun _ => y0, fun _ => hx, fun h => by omega, fun h => by omega⟩,
            ⟨(putIn l0).trans (by simp), (keepOff (by omega) l1).trans (by simp), (keepOff (by omega) l2).trans (by simp), (keepOff (by omega) l3).trans (by simp)⟩,
            ⟨keepFar (by omega) c0, keepFar (by omega) c1, keepFar (by omega) c2, keepFar (by omega) c3, keepFar (by omega) F0, keepFar (by omega) F1, keepFar (by omega) F2, keepFar (by omega) F3, keepFar (by omega) T0, keepFar (by omega) T1, keepFar (by omega) T2, keepFar (by omega) T3, keepFar (by omega) r0, keepFar (by omega) r1, keepFar (by omega) r2, keepFar (by omega) r3⟩,
            fun o => by simpa using f1 o, fun o => by simpa using f2 o, by simpa using ZW.out, bD (bS (by omega) BE.out)⟩
        case measure => simp [intOf]
    · simp at l0 l1 l2 l3
      have y0 : d ≠ 0 := z0 (by omega)
      have y1 : a ≠ 0 := z1 (by omega)
      clear z0 z1 z2' z3
      by_cases hx : b = 0
      · have hxb : (b != 0) = false := by simp [hx]
        go_wp2
        refine bodyPost_ret (v := .agg #[.int .i64 a, .int .i64 0, .int .i64 0, .int .i64 d]) (by simp [results, Tryz.results63, go_sem, r0, r1, r2, r3]) rfl ⟨by simp_all, ?_⟩
        have HB := BE.out
        repeat (first | refine bA ?_ | refine bS (by omega) ?_ | refine bD ?_)
        exact HB
      · have hxb : (b != 0) = true := by simp [hx]
        go_wp2
        go_region_held3 (fun w' => w'.cell? ⟨w2.heap.size, 2, none⟩ = some (.pointer (some ⟨w.heap.size, 1, none⟩)) ∧ w'.cell? ⟨w2.heap.size + 1, 2, none⟩ = some (.pointer (some ⟨w.heap.size + 1 + 1, 1, none⟩)) ∧ w'.cell? ⟨w.heap.size, 1, none⟩ = some (.int .i64 b)) (first | exact ⟨keepFar n1 F2, keepFar n2 T2, keepFar (by omega) c1⟩ | go_keep) (fail)
        go_wp2
        go_roundw
        case rel =>
          exact ⟨3, by omega, by go_num, ⟨fun _ => y0, fun _ => y1, fun _ => hx, fun h => by omega⟩,
            ⟨(keepOff (by omega) l0).trans (by simp), (putIn l1).trans (by simp), (keepOff (by omega) l2).trans (by simp), (keepOff (by omega) l3).trans (by simp)⟩,
            ⟨keepFar (by omega) c0, keepFar (by omega) c1, keepFar (by omega) c2, keepFar (by omega) c3, keepFar (by omega) F0, keepFar (by omega) F1, keepFar (by omega) F2, keepFar (by omega) F3, keepFar (by omega) T0, keepFar (by omega) T1, keepFar (by omega) T2, keepFar (by omega) T3, keepFar (by omega) r0, keepFar (by omega) r1, keepFar (by omega) r2, keepFar (by omega) r3⟩,
            fun o => by simpa using f1 o, fun o => by simpa using f2 o, by simpa using ZW.out, bD (bS (by omega) BE.out)⟩
        case measure => simp [intOf]
    · simp at l0 l1 l2 l3
      have y0 : d ≠ 0 := z0 (by omega)
      have y1 : a ≠ 0 := z1 (by omega)
      have y2 : b ≠ 0 := z2' (by omega)
      clear z0 z1 z2' z3
      by_cases hx : c = 0
      · have hxb : (c != 0) = false := by simp [hx]
        go_wp2
        refine bodyPost_ret (v := .agg #[.int .i64 a, .int .i64 b, .int .i64 0, .int .i64 d]) (by simp [results, Tryz.results63, go_sem, r0, r1, r2, r3]) rfl ⟨by simp_all, ?_⟩
        have HB := BE.out
        repeat (first | refine bA ?_ | refine bS (by omega) ?_ | refine bD ?_)
        exact HB
      · have hxb : (c != 0) = true := by simp [hx]
        go_wp2
        go_region_held3 (fun w' => w'.cell? ⟨w2.heap.size, 3, none⟩ = some (.pointer (some ⟨w.heap.size, 2, none⟩)) ∧ w'.cell? ⟨w2.heap.size + 1, 3, none⟩ = some (.pointer (some ⟨w.heap.size + 1 + 1, 2, none⟩)) ∧ w'.cell? ⟨w.heap.size, 2, none⟩ = some (.int .i64 c)) (first | exact ⟨keepFar n1 F3, keepFar n2 T3, keepFar (by omega) c2⟩ | go_keep) (fail)
        go_wp2
        go_roundw
        case rel =>
          exact ⟨4, by omega, by go_num, ⟨fun _ => y0, fun _ => y1, fun _ => y2, fun _ => hx⟩,
            ⟨(keepOff (by omega) l0).trans (by simp), (keepOff (by omega) l1).trans (by simp), (putIn l2).trans (by simp), (keepOff (by omega) l3).trans (by simp)⟩,
            ⟨keepFar (by omega) c0, keepFar (by omega) c1, keepFar (by omega) c2, keepFar (by omega) c3, keepFar (by omega) F0, keepFar (by omega) F1, keepFar (by omega) F2, keepFar (by omega) F3, keepFar (by omega) T0, keepFar (by omega) T1, keepFar (by omega) T2, keepFar (by omega) T3, keepFar (by omega) r0, keepFar (by omega) r1, keepFar (by omega) r2, keepFar (by omega) r3⟩,
            fun o => by simpa using f1 o, fun o => by simpa using f2 o, by simpa using ZW.out, bD (bS (by omega) BE.out)⟩
        case measure => simp [intOf]
    · simp at l0 l1 l2 l3
      have y0 : d ≠ 0 := z0 (by omega)
      have y1 : a ≠ 0 := z1 (by omega)
      have y2 : b ≠ 0 := z2' (by omega)
      have y3 : c ≠ 0 := z3 (by omega)
      clear z0 z1 z2' z3
      go_wp2
      refine bodyPost_ret (v := .agg #[.int .i64 a, .int .i64 b, .int .i64 c, .int .i64 d]) (by simp [results, Tryz.results63, go_sem, r0, r1, r2, r3]) rfl ⟨by simp_all, ?_⟩
      have HB := BE.out
      repeat (first | refine bA ?_ | refine bS (by omega) ?_ | refine bD ?_)
      exact HB


end Go.Proofs.YtcnollkkigiobaaGreat

namespace Go.Proofs.YtcnollkkigiobaaGreat
open Go.RowKit Go.Deep
set_option linter.unusedVariables false
set_option maxRecDepth 100000


set_option maxHeartbeats 4000000 in
theorem lead_5 (a b c d : Int) (w : World) :
    Calls Tryz.prog 63 #[.func (.func 105) #[] #[], .agg #[.int .i64 a, .int .i64 b, .int .i64 c, .int .i64 d]] w fun e w' => e = .returned (.agg #[.int .i64 (if d = 0 ∨ b = 0 ∨ c = 0 then 0 else a), .int .i64 (if d = 0 then 0 else b), .int .i64 (if d = 0 ∨ b = 0 then 0 else c), .int .i64 (d)]) ∧ Below w.heap.size w w' := by
  go_enter Tryz.func63, Tryz.ntmps63
  go_wp2_with fail
  refine (lay_5 _ _).mono ?_
  rintro e w1 ⟨rfl, hb1⟩
  go_wp2_with fail
  refine (lay_5 _ _).mono ?_
  rintro e w2 ⟨rfl, hb2⟩
  simp only [World.size_alloc] at hb1
  obtain ⟨cA, cB, cC, f1, f2, z2, bel⟩ := box3 (hb1.trans (hb2.mono (by have := hb1.size; simp at this; omega)))
  clear hb1 hb2
  have HS : Hid ((∀ o, w2.cell? ⟨w.heap.size, o, none⟩ = (#[.int .i64 a, .int .i64 b, .int .i64 c, .int .i64 d] : Array Value)[o]?) ∧ (∀ o, w2.cell? ⟨w.heap.size + 1, o, none⟩ = (#[.int .i64 0, .int .i64 0, .int .i64 0, .int .i64 0] : Array Value)[o]?) ∧ (∀ o, w2.cell? ⟨w.heap.size + 1 + 1, o, none⟩ = (#[.int .i64 0, .int .i64 0, .int .i64 0, .int .i64 0] : Array Value)[o]?) ∧ (∀ o, w2.frozen? ⟨w.heap.size + 1, o, none⟩ = false) ∧ (∀ o, w2.frozen? ⟨w.heap.size + 1 + 1, o, none⟩ = false) ∧ Below w.heap.size w w2) := ⟨cA, cB, cC, f1, f2, bel⟩
  clear cA cB cC f1 f2 bel
  go_wp2
  go_loopw [8] (fun i wr => ∃ k : Nat, k ≤ 4 ∧ i = .int .i64 k ∧ ((0 < k → d ≠ 0) ∧ (1 < k → b ≠ 0) ∧ (2 < k → c ≠ 0) ∧ (3 < k → a ≠ 0)) ∧ (wr.cell? ⟨w.heap.size + 1 + 1, 0, none⟩ = some (.int .i64 (if 3 < k then a else 0)) ∧ wr.cell? ⟨w.heap.size + 1 + 1, 1, none⟩ = some (.int .i64 (if 1 < k then b else 0)) ∧ wr.cell? ⟨w.heap.size + 1 + 1, 2, none⟩ = some (.int .i64 (if 2 < k then c else 0)) ∧ wr.cell? ⟨w.heap.size + 1 + 1, 3, none⟩ = some (.int .i64 (if 0 < k then d else 0))) ∧ (wr.cell? ⟨w.heap.size, 0, none⟩ = some (.int .i64 a) ∧ wr.cell? ⟨w.heap.size, 1, none⟩ = some (.int .i64 b) ∧ wr.cell? ⟨w.heap.size, 2, none⟩ = some (.int .i64 c) ∧ wr.cell? ⟨w.heap.size, 3, none⟩ = some (.int .i64 d) ∧ wr.cell? ⟨w2.heap.size, 0, none⟩ = some (.pointer (some ⟨w.heap.size, 3, none⟩)) ∧ wr.cell? ⟨w2.heap.size, 1, none⟩ = some (.pointer (some ⟨w.heap.size, 1, none⟩)) ∧ wr.cell? ⟨w2.heap.size, 2, none⟩ = some (.pointer (some ⟨w.heap.size, 2, none⟩)) ∧ wr.cell? ⟨w2.heap.size, 3, none⟩ = some (.pointer (some ⟨w.heap.size, 0, none⟩)) ∧ wr.cell? ⟨w2.heap.size + 1, 0, none⟩ = some (.pointer (some ⟨w.heap.size + 1 + 1, 3, none⟩)) ∧ wr.cell? ⟨w2.heap.size + 1, 1, none⟩ = some (.pointer (some ⟨w.heap.size + 1 + 1, 1, none⟩)) ∧ wr.cell? ⟨w2.heap.size + 1, 2, none⟩ = some (.pointer (some ⟨w.heap.size + 1 + 1, 2, none⟩)) ∧ wr.cell? ⟨w2.heap.size + 1, 3, none⟩ = some (.pointer (some ⟨w.heap.size + 1 + 1, 0, none⟩)) ∧ wr.cell? ⟨w.heap.size + 1, 0, none⟩ = some (.int .i64 0) ∧ wr.cell? ⟨w.heap.size + 1, 1, none⟩ = some (.int .i64 0) ∧ wr.cell? ⟨w.heap.size + 1, 2, none⟩ = some (.int .i64 0) ∧ wr.cell? ⟨w.heap.size + 1, 3, none⟩ = some (.int .i64 0)) ∧ (∀ o, wr.frozen? ⟨w.heap.size + 1, o, none⟩ = false) ∧ (∀ o, wr.frozen? ⟨w.heap.size + 1 + 1, o, none⟩ = false) ∧ w2.heap.size + 2 ≤ wr.heap.size ∧ Below w.heap.size w wr) (fun i _ => 4 - (intOf i).toNat)
  case atStart =>
    obtain ⟨cA, cB, cC, f1, f2, bel⟩ := HS.out
    have q := box2 (w := w2) (A := #[.pointer (some ⟨w.heap.size, 3, none⟩), .pointer (some ⟨w.heap.size, 1, none⟩), .pointer (some ⟨w.heap.size, 2, none⟩), .pointer (some ⟨w.heap.size, 0, none⟩)]) (B := #[.pointer (some ⟨w.heap.size + 1 + 1, 3, none⟩), .pointer (some ⟨w.heap.size + 1 + 1, 1, none⟩), .pointer (some ⟨w.heap.size + 1 + 1, 2, none⟩), .pointer (some ⟨w.heap.size + 1 + 1, 0, none⟩)]) (t := 156)
    exact ⟨0, Nat.zero_le _, rfl, by simp, ⟨(q.2.2.1 _ _ (by omega)).trans (cC 0), (q.2.2.1 _ _ (by omega)).trans (cC 1), (q.2.2.1 _ _ (by omega)).trans (cC 2), (q.2.2.1 _ _ (by omega)).trans (cC 3)⟩,
      ⟨(q.2.2.1 _ _ (by omega)).trans (cA 0), (q.2.2.1 _ _ (by omega)).trans (cA 1), (q.2.2.1 _ _ (by omega)).trans (cA 2), (q.2.2.1 _ _ (by omega)).trans (cA 3), q.1 0, q.1 1, q.1 2, q.1 3, q.2.1 0, q.2.1 1, q.2.1 2, q.2.1 3, (q.2.2.1 _ _ (by omega)).trans (cB 0), (q.2.2.1 _ _ (by omega)).trans (cB 1), (q.2.2.1 _ _ (by omega)).trans (cB 2), (q.2.2.1 _ _ (by omega)).trans (cB 3)⟩,
      fun o => (q.2.2.2.1 _ _ (by omega)).trans (f1 o), fun o => (q.2.2.2.1 _ _ (by omega)).trans (f2 o), by simp, bA (bA bel)⟩
  case round =>
    clear HS
    obtain ⟨k, hk, rfl, ⟨z0, z1, z2', z3⟩, ⟨l0, l1, l2, l3⟩, ⟨c0, c1, c2, c3, F0, F1, F2, F3, T0, T1, T2, T3, r0, r1, r2, r3⟩, f1, f2, zw, bel⟩ := hrel
    have n1 : ¬ (w.heap.size + 1 + 1 = w2.heap.size) := by omega
    have n2 : ¬ (w.heap.size + 1 + 1 = w2.heap.size + 1) := by omega
    have n3 : ¬ (w2.heap.size = w.heap.size + 1 + 1) := by omega
    have n4 : ¬ (w2.heap.size + 1 = w.heap.size + 1 + 1) := by omega
    have g1 : w.heap.size + 1 < wr.heap.size := by omega
    have g2 : w.heap.size + 1 + 1 < wr.heap.size := by omega
    have BE : Hid (Below w.heap.size w wr) := bel
    have ZW : Hid (w2.heap.size + 2 ≤ wr.heap.size) := zw
    clear bel zw
    have hk5 : k = 0 ∨ k = 1 ∨ k = 2 ∨ k = 3 ∨ k = 4 := by omega
    rcases hk5 with rfl | rfl | rfl | rfl | rfl
    · simp at l0 l1 l2 l3
      clear z0 z1 z2' z3
      by_cases hx : d = 0
      · have hxb : (d != 0) = false := by simp [hx]
        go_wp2
        refine bodyPost_ret (v := .agg #[.int .i64 0, .int .i64 0, .int .i64 0, .int .i64 0]) (by simp [results, Tryz.results63, go_sem, r0, r1, r2, r3]) rfl ⟨by simp_all, ?_⟩
        have HB := BE.out
        repeat (first | refine bA ?_ | refine bS (by omega) ?_ | refine bD ?_)
        exact HB
      · have hxb : (d != 0) = true := by simp [hx]
        go_wp2
        go_region_held3 (fun w' => w'.cell? ⟨w2.heap.size, 0, none⟩ = some (.pointer (some ⟨w.heap.size, 3, none⟩)) ∧ w'.cell? ⟨w2.heap.size + 1, 0, none⟩ = some (.pointer (some ⟨w.heap.size + 1 + 1, 3, none⟩)) ∧ w'.cell? ⟨w.heap.size, 3, none⟩ = some (.int .i64 d)) (first | exact ⟨keepFar n1 F0, keepFar n2 T0, keepFar (by omega) c3⟩ | go_keep) (fail)
        go_wp2
        go_roundw
        case rel =>
          exact ⟨1, by omega, by go_num, ⟨fun _ => hx, fun h => by omega, fun h => by omega, fun h => by omega⟩,
            ⟨(keepOff (by omega) l0).trans (by simp), (keepOff (by omega) l1).trans (by simp), (keepOff (by omega) l2).trans (by simp), (putIn l3).trans (by simp)⟩,
            ⟨keepFar (by omega) c0, keepFar (by omega) c1, keepFar (by omega) c2, keepFar (by omega) c3, keepFar (by omega) F0, keepFar (by omega) F1, keepFar (by omega) F2, keepFar (by omega) F3, keepFar (by omega) T0, keepFar (by omega) T1, keepFar (by omega) T2, keepFar (by omega) T3, keepFar (by omega) r0, keepFar (by omega) r1, keepFar (by omega) r2, keepFar (by omega) r3⟩,
            fun o => by simpa using f1 o, fun o => by simpa using f2 o, by simpa using ZW.out, bD (bS (by omega) BE.out)⟩
        case measure => simp [intOf]
    · simp at l0 l1 l2 l3
      have y0 : d ≠ 0 := z0 (by omega)
      clear z0 z1 z2' z3
      by_cases hx : b = 0
      · have hxb : (b != 0) = false := by simp [hx]
        go_wp2
        refine bodyPost_ret (v := .agg #[.int .i64 0, .int .i64 0, .int .i64 0, .int .i64 d]) (by simp [results, Tryz.results63, go_sem, r0, r1, r2, r3]) rfl ⟨by simp_all, ?_⟩
        have HB := BE.out
        repeat (first | refine bA ?_ | refine bS (by omega) ?_ | refine bD ?_)
        exact HB
      · have hxb : (b != 0) = true := by simp [hx]
        go_wp2
        go_region_held3 (fun w' => w'.cell? ⟨w2.heap.size, 1, none⟩ = some (.pointer (some ⟨w.heap.size, 1, none⟩)) ∧ w'.cell? ⟨w2.heap.size + 1, 1, none⟩ = some (.pointer (some ⟨w.heap.size + 1 + 1, 1, none⟩)) ∧ w'.cell? ⟨w.heap.size, 1, none⟩ = some (.int .i64 b)) (first | exact ⟨keepFar n1 F1, keepFar n2 T1, keepFar (by omega) c1⟩ | go_keep) (fail)
        go_wp2
        go_roundw
        case rel =>
          exact ⟨2, by omega, by go_num, ⟨fun _ => y0, fun _ => hx, fun h => by omega, fun h => by omega⟩,
            ⟨(keepOff (by omega) l0).trans (by simp), (putIn l1).trans (by simp), (keepOff (by omega) l2).trans (by simp), (keepOff (by omega) l3).trans (by simp)⟩,
            ⟨keepFar (by omega) c0, keepFar (by omega) c1, keepFar (by omega) c2, keepFar (by omega) c3, keepFar (by omega) F0, keepFar (by omega) F1, keepFar (by omega) F2, keepFar (by omega) F3, keepFar (by omega) T0, keepFar (by omega) T1, keepFar (by omega) T2, keepFar (by omega) T3, keepFar (by omega) r0, keepFar (by omega) r1, keepFar (by omega) r2, keepFar (by omega) r3⟩,
            fun o => by simpa using f1 o, fun o => by simpa using f2 o, by simpa using ZW.out, bD (bS (by omega) BE.out)⟩
        case measure => simp [intOf]
    · simp at l0 l1 l2 l3
      have y0 : d ≠ 0 := z0 (by omega)
      have y1 : b ≠ 0 := z1 (by omega)
      clear z0 z1 z2' z3
      by_cases hx : c = 0
      · have hxb : (c != 0) = false := by simp [hx]
        go_wp2
        refine bodyPost_ret (v := .agg #[.int .i64 0, .int .i64 b, .int .i64 0, .int .i64 d]) (by simp [results, Tryz.results63, go_sem, r0, r1, r2, r3]) rfl ⟨by simp_all, ?_⟩
        have HB := BE.out
        repeat (first | refine bA ?_ | refine bS (by omega) ?_ | refine bD ?_)
        exact HB
      · have hxb : (c != 0) = true := by simp [hx]
        go_wp2
        go_region_held3 (fun w' => w'.cell? ⟨w2.heap.size, 2, none⟩ = some (.pointer (some ⟨w.heap.size, 2, none⟩)) ∧ w'.cell? ⟨w2.heap.size + 1, 2, none⟩ = some (.pointer (some ⟨w.heap.size + 1 + 1, 2, none⟩)) ∧ w'.cell? ⟨w.heap.size, 2, none⟩ = some (.int .i64 c)) (first | exact ⟨keepFar n1 F2, keepFar n2 T2, keepFar (by omega) c2⟩ | go_keep) (fail)
        go_wp2
        go_roundw
        case rel =>
          exact ⟨3, by omega, by go_num, ⟨fun _ => y0, fun _ => y1, fun _ => hx, fun h => by omega⟩,
            ⟨(keepOff (by omega) l0).trans (by simp), (keepOff (by omega) l1).trans (by simp), (putIn l2).trans (by simp), (keepOff (by omega) l3).trans (by simp)⟩,
            ⟨keepFar (by omega) c0, keepFar (by omega) c1, keepFar (by omega) c2, keepFar (by omega) c3, keepFar (by omega) F0, keepFar (by omega) F1, keepFar (by omega) F2, keepFar (by omega) F3, keepFar (by omega) T0, keepFar (by omega) T1, keepFar (by omega) T2, keepFar (by omega) T3, keepFar (by omega) r0, keepFar (by omega) r1, keepFar (by omega) r2, keepFar (by omega) r3⟩,
            fun o => by simpa using f1 o, fun o => by simpa using f2 o, by simpa using ZW.out, bD (bS (by omega) BE.out)⟩
        case measure => simp [intOf]
    · simp at l0 l1 l2 l3
      have y0 : d ≠ 0 := z0 (by omega)
      have y1 : b ≠ 0 := z1 (by omega)
      have y2 : c ≠ 0 := z2' (by omega)
      clear z0 z1 z2' z3
      by_cases hx : a = 0
      · have hxb : (a != 0) = false := by simp [hx]
        go_wp2
        refine bodyPost_ret (v := .agg #[.int .i64 0, .int .i64 b, .int .i64 c, .int .i64 d]) (by simp [results, Tryz.results63, go_sem, r0, r1, r2, r3]) rfl ⟨by simp_all, ?_⟩
        have HB := BE.out
        repeat (first | refine bA ?_ | refine bS (by omega) ?_ | refine bD ?_)
        exact HB
      · have hxb : (a != 0) = true := by simp [hx]
        go_wp2
        go_region_held3 (fun w' => w'.cell? ⟨w2.heap.size, 3, none⟩ = some (.pointer (some ⟨w.heap.size, 0, none⟩)) ∧ w'.cell? ⟨w2.heap.size + 1, 3, none⟩ = some (.pointer (some ⟨w.heap.size + 1 + 1, 0, none⟩)) ∧ w'.cell? ⟨w.heap.size, 0, none⟩ = some (.int .i64 a)) (first | exact ⟨keepFar n1 F3, keepFar n2 T3, keepFar (by omega) c0⟩ | go_keep) (fail)
        go_wp2
        go_roundw
        case rel =>
          exact ⟨4, by omega, by go_num, ⟨fun _ => y0, fun _ => y1, fun _ => y2, fun _ => hx⟩,
            ⟨(putIn l0).trans (by simp), (keepOff (by omega) l1).trans (by simp), (keepOff (by omega) l2).trans (by simp), (keepOff (by omega) l3).trans (by simp)⟩,
            ⟨keepFar (by omega) c0, keepFar (by omega) c1, keepFar (by omega) c2, keepFar (by omega) c3, keepFar (by omega) F0, keepFar (by omega) F1, keepFar (by omega) F2, keepFar (by omega) F3, keepFar (by omega) T0, keepFar (by omega) T1, keepFar (by omega) T2, keepFar (by omega) T3, keepFar (by omega) r0, keepFar (by omega) r1, keepFar (by omega) r2, keepFar (by omega) r3⟩,
            fun o => by simpa using f1 o, fun o => by simpa using f2 o, by simpa using ZW.out, bD (bS (by omega) BE.out)⟩
        case measure => simp [intOf]
    · simp at l0 l1 l2 l3
      have y0 : d ≠ 0 := z0 (by omega)
      have y1 : b ≠ 0 := z1 (by omega)
      have y2 : c ≠ 0 := z2' (by omega)
      have y3 : a ≠ 0 := z3 (by omega)
      clear z0 z1 z2' z3
      go_wp2
      refine bodyPost_ret (v := .agg #[.int .i64 a, .int .i64 b, .int .i64 c, .int .i64 d]) (by simp [results, Tryz.results63, go_sem, r0, r1, r2, r3]) rfl ⟨by simp_all, ?_⟩
      have HB := BE.out
      repeat (first | refine bA ?_ | refine bS (by omega) ?_ | refine bD ?_)
      exact HB


end Go.Proofs.YtcnollkkigiobaaGreat

namespace Go.Proofs.YtcnollkkigiobaaGreat
open Go.RowKit Go.Deep
set_option linter.unusedVariables false
set_option maxRecDepth 100000


set_option maxHeartbeats 4000000 in
theorem lead_6 (a b c d : Int) (w : World) :
    Calls Tryz.prog 63 #[.func (.func 106) #[] #[], .agg #[.int .i64 a, .int .i64 b, .int .i64 c, .int .i64 d]] w fun e w' => e = .returned (.agg #[.int .i64 (if d = 0 ∨ c = 0 then 0 else a), .int .i64 (if d = 0 ∨ c = 0 ∨ a = 0 then 0 else b), .int .i64 (if d = 0 then 0 else c), .int .i64 (d)]) ∧ Below w.heap.size w w' := by
  go_enter Tryz.func63, Tryz.ntmps63
  go_wp2_with fail
  refine (lay_6 _ _).mono ?_
  rintro e w1 ⟨rfl, hb1⟩
  go_wp2_with fail
  refine (lay_6 _ _).mono ?_
  rintro e w2 ⟨rfl, hb2⟩
  simp only [World.size_alloc] at hb1
  obtain ⟨cA, cB, cC, f1, f2, z2, bel⟩ := box3 (hb1.trans (hb2.mono (by have := hb1.size; simp at this; omega)))
  clear hb1 hb2
  have HS : Hid ((∀ o, w2.cell? ⟨w.heap.size, o, none⟩ = (#[.int .i64 a, .int .i64 b, .int .i64 c, .int .i64 d] : Array Value)[o]?) ∧ (∀ o, w2.cell? ⟨w.heap.size + 1, o, none⟩ = (#[.int .i64 0, .int .i64 0, .int .i64 0, .int .i64 0] : Array Value)[o]?) ∧ (∀ o, w2.cell? ⟨w.heap.size + 1 + 1, o, none⟩ = (#[.int .i64 0, .int .i64 0, .int .i64 0, .int .i64 0] : Array Value)[o]?) ∧ (∀ o, w2.frozen? ⟨w.heap.size + 1, o, none⟩ = false) ∧ (∀ o, w2.frozen? ⟨w.heap.size + 1 + 1, o, none⟩ = false) ∧ Below w.heap.size w w2) := ⟨cA, cB, cC, f1, f2, bel⟩
  clear cA cB cC f1 f2 bel
  go_wp2
  go_loopw [8] (fun i wr => ∃ k : Nat, k ≤ 4 ∧ i = .int .i64 k ∧ ((0 < k → d ≠ 0) ∧ (1 < k → c ≠ 0) ∧ (2 < k → a ≠ 0) ∧ (3 < k → b ≠ 0)) ∧ (wr.cell? ⟨w.heap.size + 1 + 1, 0, none⟩ = some (.int .i64 (if 2 < k then a else 0)) ∧ wr.cell? ⟨w.heap.size + 1 + 1, 1, none⟩ = some (.int .i64 (if 3 < k then b else 0)) ∧ wr.cell? ⟨w.heap.size + 1 + 1, 2, none⟩ = some (.int .i64 (if 1 < k then c else 0)) ∧ wr.cell? ⟨w.heap.size + 1 + 1, 3, none⟩ = some (.int .i64 (if 0 < k then d else 0))) ∧ (wr.cell? ⟨w.heap.size, 0, none⟩ = some (.int .i64 a) ∧ wr.cell? ⟨w.heap.size, 1, none⟩ = some (.int .i64 b) ∧ wr.cell? ⟨w.heap.size, 2, none⟩ = some (.int .i64 c) ∧ wr.cell? ⟨w.heap.size, 3, none⟩ = some (.int .i64 d) ∧ wr.cell? ⟨w2.heap.size, 0, none⟩ = some (.pointer (some ⟨w.heap.size, 3, none⟩)) ∧ wr.cell? ⟨w2.heap.size, 1, none⟩ = some (.pointer (some ⟨w.heap.size, 2, none⟩)) ∧ wr.cell? ⟨w2.heap.size, 2, none⟩ = some (.pointer (some ⟨w.heap.size, 0, none⟩)) ∧ wr.cell? ⟨w2.heap.size, 3, none⟩ = some (.pointer (some ⟨w.heap.size, 1, none⟩)) ∧ wr.cell? ⟨w2.heap.size + 1, 0, none⟩ = some (.pointer (some ⟨w.heap.size + 1 + 1, 3, none⟩)) ∧ wr.cell? ⟨w2.heap.size + 1, 1, none⟩ = some (.pointer (some ⟨w.heap.size + 1 + 1, 2, none⟩)) ∧ wr.cell? ⟨w2.heap.size + 1, 2, none⟩ = some (.pointer (some ⟨w.heap.size + 1 + 1, 0, none⟩)) ∧ wr.cell? ⟨w2.heap.size + 1, 3, none⟩ = some (.pointer (some ⟨w.heap.size + 1 + 1, 1, none⟩)) ∧ wr.cell? ⟨w.heap.size + 1, 0, none⟩ = some (.int .i64 0) ∧ wr.cell? ⟨w.heap.size + 1, 1, none⟩ = some (.int .i64 0) ∧ wr.cell? ⟨w.heap.size + 1, 2, none⟩ = some (.int .i64 0) ∧ wr.cell? ⟨w.heap.size + 1, 3, none⟩ = some (.int .i64 0)) ∧ (∀ o, wr.frozen? ⟨w.heap.size + 1, o, none⟩ = false) ∧ (∀ o, wr.frozen? ⟨w.heap.size + 1 + 1, o, none⟩ = false) ∧ w2.heap.size + 2 ≤ wr.heap.size ∧ Below w.heap.size w wr) (fun i _ => 4 - (intOf i).toNat)
  case atStart =>
    obtain ⟨cA, cB, cC, f1, f2, bel⟩ := HS.out
    have q := box2 (w := w2) (A := #[.pointer (some ⟨w.heap.size, 3, none⟩), .pointer (some ⟨w.heap.size, 2, none⟩), .pointer (some ⟨w.heap.size, 0, none⟩), .pointer (some ⟨w.heap.size, 1, none⟩)]) (B := #[.pointer (some ⟨w.heap.size + 1 + 1, 3, none⟩), .pointer (some ⟨w.heap.size + 1 + 1, 2, none⟩), .pointer (some ⟨w.heap.size + 1 + 1, 0, none⟩), .pointer (some ⟨w.heap.size + 1 + 1, 1, none⟩)]) (t := 156)
    exact ⟨0, Nat.zero_le _, rfl, by simp, ⟨(q.2.2.1 _ _ (by omega)).trans (cC 0), (q.2.2.1 _ _ (by omega)).trans (cC 1), (q.2.2.1 _ _ (by omega)).trans (cC 2), (q.2.2.1 _ _ (by omega)).trans (cC 3)⟩,
      ⟨(q.2.2.1 _ _ (by omega)).trans (cA 0), (q.2.2.1 _ _ (by omega)).trans (cA 1), (q.2.2.1 _ _ (by omega)).trans (cA 2), (q.2.2.1 _ _ (by omega)).trans (cA 3), q.1 0, q.1 1, q.1 2, q.1 3, q.2.1 0, q.2.1 1, q.2.1 2, q.2.1 3, (q.2.2.1 _ _ (by omega)).trans (cB 0), (q.2.2.1 _ _ (by omega)).trans (cB 1), (q.2.2.1 _ _ (by omega)).trans (cB 2), (q.2.2.1 _ _ (by omega)).trans (cB 3)⟩,
      fun o => (q.2.2.2.1 _ _ (by omega)).trans (f1 o), fun o => (q.2.2.2.1 _ _ (by omega)).trans (f2 o), by simp, bA (bA bel)⟩
  case round =>
    clear HS
    obtain ⟨k, hk, rfl, ⟨z0, z1, z2', z3⟩, ⟨l0, l1, l2, l3⟩, ⟨c0, c1, c2, c3, F0, F1, F2, F3, T0, T1, T2, T3, r0, r1, r2, r3⟩, f1, f2, zw, bel⟩ := hrel
    have n1 : ¬ (w.heap.size + 1 + 1 = w2.heap.size) := by omega
    have n2 : ¬ (w.heap.size + 1 + 1 = w2.heap.size + 1) := by omega
    have n3 : ¬ (w2.heap.size = w.heap.size + 1 + 1) := by omega
    have n4 : ¬ (w2.heap.size + 1 = w.heap.size + 1 + 1) := by omega
    have g1 : w.heap.size + 1 < wr.heap.size := by omega
    have g2 : w.heap.size + 1 + 1 < wr.heap.size := by omega
    have BE : Hid (Below w.heap.size w wr) := bel
    have ZW : Hid (w2.heap.size + 2 ≤ wr.heap.size) := zw
    clear bel zw
    have hk5 : k = 0 ∨ k = 1 ∨ k = 2 ∨ k = 3 ∨ k = 4 := by omega
    rcases hk5 with rfl | rfl | rfl | rfl | rfl
    · simp at l0 l1 l2 l3
      clear z0 z1 z2' z3
      by_cases hx : d = 0
      · have hxb : (d != 0) = false := by simp [hx]
        go_wp2
        refine bodyPost_ret (v := .agg #[.int .i64 0, .int .i64 0, .int .i64 0, .int .i64 0]) (by simp [results, Tryz.results63, go_sem, r0, r1, r2, r3]) rfl ⟨by simp_all, ?_⟩
        have HB := BE.out
        repeat (first | refine bA ?_ | refine bS (by omega) ?_ | refine bD ?_)
        exact HB
      · have hxb : (d != 0) = true := by simp [hx]
        go_wp2
        go_region_held3 (fun w' => w'.cell? ⟨w2.heap.size, 0, none⟩ = some (.pointer (some ⟨w.heap.size, 3, none⟩)) ∧ w'.cell? ⟨w2.heap.size + 1, 0, none⟩ = some (.pointer (some ⟨w.heap.size + 1 + 1, 3, none⟩)) ∧ w'.cell? ⟨w.heap.size, 3, none⟩ = some (.int .i64 d)) (first | exact ⟨keepFar n1 F0, keepFar n2 T0, keepFar (by omega) c3⟩ | go_keep) (fail)
        go_wp2
        go_roundw
        case rel =>
          exact ⟨1, by omega, by go_num, ⟨fun _ => hx, fun h => by omega, fun h => by omega, fun h => by omega⟩,
            ⟨(keepOff (by omega) l0).trans (by simp), (keepOff (by omega) l1).trans (by simp), (keepOff (by omega) l2).trans (by simp), (putIn l3).trans (by simp)⟩,
            ⟨keepFar (by omega) c0, keepFar (by omega) c1, keepFar (by omega) c2, keepFar (by omega) c3, keepFar (by omega) F0, keepFar (by omega) F1, keepFar (by omega) F2, keepFar (by omega) F3, keepFar (by omega) T0, keepFar (by omega) T1, keepFar (by omega) T2, keepFar (by omega) T3, keepFar (by omega) r0, keepFar (by omega) r1, keepFar (by omega) r2, keepFar (by omega) r3⟩,
            fun o => by simpa using f1 o, fun o => by simpa using f2 o, by simpa using ZW.out, bD (bS (by omega) BE.out)⟩
        case measure => simp [intOf]
    · simp at l0 l1 l2 l3
      have y0 : d ≠ 0 := z0 (by omega)
      clear z0 z1 z2' z3
      by_cases hx : c = 0
      · have hxb : (c != 0) = false := by simp [hx]
        go_wp2
        refine bodyPost_ret (v := .agg #[.int .i64 0, .int .i64 0, .int .i64 0, .int .i64 d]) (by simp [results, Tryz.results63, go_sem, r0, r1, r2, r3]) rfl ⟨by simp_all, ?_⟩
        have HB := BE.out
        repeat (first | refine bA ?_ | refine bS (by omega) ?_ | refine bD ?_)
        exact HB
      · have hxb : (c != 0) = true := by simp [hx]
        go_wp2
        go_region_held3 (fun w' => w'.cell? ⟨w2.heap.size, 1, none⟩ = some (.pointer (some ⟨w.heap.size, 2, none⟩)) ∧ w'.cell? ⟨w2.heap.size + 1, 1, none⟩ = some (.pointer (some ⟨w.heap.size + 1 + 1, 2, none⟩)) ∧ w'.cell? ⟨w.heap.size, 2, none⟩ = some (.int .i64 c)) (first | exact ⟨keepFar n1 F1, keepFar n2 T1, keepFar (by omega) c2⟩ | go_keep) (fail)
        go_wp2
        go_roundw
        case rel =>
          exact ⟨2, by omega, by go_num, ⟨fun _ => y0, fun _ => hx, fun h => by omega, fun h => by omega⟩,
            ⟨(keepOff (by omega) l0).trans (by simp), (keepOff (by omega) l1).trans (by simp), (putIn l2).trans (by simp), (keepOff (by omega) l3).trans (by simp)⟩,
            ⟨keepFar (by omega) c0, keepFar (by omega) c1, keepFar (by omega) c2, keepFar (by omega) c3, keepFar (by omega) F0, keepFar (by omega) F1, keepFar (by omega) F2, keepFar (by omega) F3, keepFar (by omega) T0, keepFar (by omega) T1, keepFar (by omega) T2, keepFar (by omega) T3, keepFar (by omega) r0, keepFar (by omega) r1, keepFar (by omega) r2, keepFar (by omega) r3⟩,
            fun o => by simpa using f1 o, fun o => by simpa using f2 o, by simpa using ZW.out, bD (bS (by omega) BE.out)⟩
        case measure => simp [intOf]
    · simp at l0 l1 l2 l3
      have y0 : d ≠ 0 := z0 (by omega)
      have y1 : c ≠ 0 := z1 (by omega)
      clear z0 z1 z2' z3
      by_cases hx : a = 0
      · have hxb : (a != 0) = false := by simp [hx]
        go_wp2
        refine bodyPost_ret (v := .agg #[.int .i64 0, .int .i64 0, .int .i64 c, .int .i64 d]) (by simp [results, Tryz.results63, go_sem, r0, r1, r2, r3]) rfl ⟨by simp_all, ?_⟩
        have HB := BE.out
        repeat (first | refine bA ?_ | refine bS (by omega) ?_ | refine bD ?_)
        exact HB
      · have hxb : (a != 0) = true := by simp [hx]
        go_wp2
        go_region_held3 (fun w' => w'.cell? ⟨w2.heap.size, 2, none⟩ = some (.pointer (some ⟨w.heap.size, 0, none⟩)) ∧ w'.cell? ⟨w2.heap.size + 1, 2, none⟩ = some (.pointer (some ⟨w.heap.size + 1 + 1, 0, none⟩)) ∧ w'.cell? ⟨w.heap.size, 0, none⟩ = some (.int .i64 a)) (first | exact ⟨keepFar n1 F2, keepFar n2 T2, keepFar (by omega) c0⟩ | go_keep) (fail)
        go_wp2
        go_roundw
        case rel =>
          exact ⟨3, by omega, by go_num, ⟨fun _ => y0, fun _ => y1, fun _ => hx, fun h => by omega⟩,
            ⟨(putIn l0).trans (by simp), (keepOff (by omega) l1).trans (by simp), (keepOff (by omega) l2).trans (by simp), (keepOff (by omega) l3).trans (by simp)⟩,
            ⟨keepFar (by omega) c0, keepFar (by omega) c1, keepFar (by omega) c2, keepFar (by omega) c3, keepFar (by omega) F0, keepFar (by omega) F1, keepFar (by omega) F2, keepFar (by omega) F3, keepFar (by omega) T0, keepFar (by omega) T1, keepFar (by omega) T2, keepFar (by omega) T3, keepFar (by omega) r0, keepFar (by omega) r1, keepFar (by omega) r2, keepFar (by omega) r3⟩,
            fun o => by simpa using f1 o, fun o => by simpa using f2 o, by simpa using ZW.out, bD (bS (by omega) BE.out)⟩
        case measure => simp [intOf]
    · simp at l0 l1 l2 l3
      have y0 : d ≠ 0 := z0 (by omega)
      have y1 : c ≠ 0 := z1 (by omega)
      have y2 : a ≠ 0 := z2' (by omega)
      clear z0 z1 z2' z3
      by_cases hx : b = 0
      · have hxb : (b != 0) = false := by simp [hx]
        go_wp2
        refine bodyPost_ret (v := .agg #[.int .i64 a, .int .i64 0, .int .i64 c, .int .i64 d]) (by simp [results, Tryz.results63, go_sem, r0, r1, r2, r3]) rfl ⟨by simp_all, ?_⟩
        have HB := BE.out
        repeat (first | refine bA ?_ | refine bS (by omega) ?_ | refine bD ?_)
        exact HB
      · have hxb : (b != 0) = true := by simp [hx]
        go_wp2
        go_region_held3 (fun w' => w'.cell? ⟨w2.heap.size, 3, none⟩ = some (.pointer (some ⟨w.heap.size, 1, none⟩)) ∧ w'.cell? ⟨w2.heap.size + 1, 3, none⟩ = some (.pointer (some ⟨w.heap.size + 1 + 1, 1, none⟩)) ∧ w'.cell? ⟨w.heap.size, 1, none⟩ = some (.int .i64 b)) (first | exact ⟨keepFar n1 F3, keepFar n2 T3, keepFar (by omega) c1⟩ | go_keep) (fail)
        go_wp2
        go_roundw
        case rel =>
          exact ⟨4, by omega, by go_num, ⟨fun _ => y0, fun _ => y1, fun _ => y2, fun _ => hx⟩,
            ⟨(keepOff (by omega) l0).trans (by simp), (putIn l1).trans (by simp), (keepOff (by omega) l2).trans (by simp), (keepOff (by omega) l3).trans (by simp)⟩,
            ⟨keepFar (by omega) c0, keepFar (by omega) c1, keepFar (by omega) c2, keepFar (by omega) c3, keepFar (by omega) F0, keepFar (by omega) F1, keepFar (by omega) F2, keepFar (by omega) F3, keepFar (by omega) T0, keepFar (by omega) T1, keepFar (by omega) T2, keepFar (by omega) T3, keepFar (by omega) r0, keepFar (by omega) r1, keepFar (by omega) r2, keepFar (by omega) r3⟩,
            fun o => by simpa using f1 o, fun o => by simpa using f2 o, by simpa using ZW.out, bD (bS (by omega) BE.out)⟩
        case measure => simp [intOf]
    · simp at l0 l1 l2 l3
      have y0 : d ≠ 0 := z0 (by omega)
      have y1 : c ≠ 0 := z1 (by omega)
      have y2 : a ≠ 0 := z2' (by omega)
      have y3 : b ≠ 0 := z3 (by omega)
      clear z0 z1 z2' z3
      go_wp2
      refine bodyPost_ret (v := .agg #[.int .i64 a, .int .i64 b, .int .i64 c, .int .i64 d]) (by simp [results, Tryz.results63, go_sem, r0, r1, r2, r3]) rfl ⟨by simp_all, ?_⟩
      have HB := BE.out
      repeat (first | refine bA ?_ | refine bS (by omega) ?_ | refine bD ?_)
      exact HB


end Go.Proofs.YtcnollkkigiobaaGreat

namespace Go.Proofs.YtcnollkkigiobaaGreat
open Go.RowKit Go.Deep
set_option linter.unusedVariables false
set_option maxRecDepth 100000


theorem eligAt_0 (a b c d : Int) : eligB (fun i => partOf a b c d (ord0 i)) = (freeB a && freeB b && freeB c && freeB d && decide (a = 0 → b = 0 ∧ c = 0 ∧ d = 0) && decide (b = 0 → c = 0 ∧ d = 0) && decide (c = 0 → d = 0)) := by
  rw [Bool.eq_iff_iff, eligB_iff]
  simp only [Bool.and_eq_true, freeB, decide_eq_true_eq]
  constructor
  · intro h
    have h0 := h 0 (by omega)
    have h1 := h 1 (by omega)
    have h2 := h 2 (by omega)
    have h3 := h 3 (by omega)
    have h10 := h1.2 0 (by omega)
    have h20 := h2.2 0 (by omega)
    have h21 := h2.2 1 (by omega)
    have h30 := h3.2 0 (by omega)
    have h31 := h3.2 1 (by omega)
    have h32 := h3.2 2 (by omega)
    replace h0 := h0.1
    replace h1 := h1.1
    replace h2 := h2.1
    replace h3 := h3.1
    simp [ord0, partOf] at h0 h1 h2 h3 h10 h20 h21 h30 h31 h32
    omega
  · rintro h q hq
    have hq4 : q = 0 ∨ q = 1 ∨ q = 2 ∨ q = 3 := by omega
    rcases hq4 with rfl | rfl | rfl | rfl
    all_goals
      refine ⟨by simp [ord0, partOf]; omega, fun r hr => ?_⟩
      have hr4 : r = 0 ∨ r = 1 ∨ r = 2 := by omega
      rcases hr4 with rfl | rfl | rfl <;> simp [ord0, partOf] at hr ⊢ <;> omega

set_option maxHeartbeats 1000000 in
theorem implElig_0 (a b c d : Int) (w : World) :
    Calls Tryz.prog 28 #[.int .i64 0, .agg #[.int .i64 a, .int .i64 b, .int .i64 c, .int .i64 d]] w fun e w' => e = .returned (.bool (eligB fun i => partOf a b c d (ord0 i))) ∧ Below w.heap.size w w' := by
  cases hp : (freeB a && freeB b && freeB c && freeB d) with
  | false =>
    go_enter Tryz.func28, Tryz.ntmps28
    go_wp2_with (first
      | (go_at_call 61; refine (isPattern_any a b c d _).mono ?_; rintro e w1 ⟨rfl, hb1⟩; rw [hp])
      | fail)
    rw [World.size_alloc] at hb1
    refine bodyPost_ret (v := .bool false) (by simp [results, Tryz.results28, go_sem]) rfl ⟨?_, (below_alloc _ _).trans (hb1.mono (by omega))⟩
    rw [eligAt_0, hp]
    rfl
  | true =>
    go_enter Tryz.func28, Tryz.ntmps28
    go_wp2_with fail
    refine (isPattern_any a b c d _).mono ?_
    rintro e w1 ⟨rfl, hb1⟩
    rw [hp]
    rw [World.size_alloc] at hb1
    have p0 : w1.cell? ⟨w.heap.size, 0, none⟩ = some (.int .i64 a) := (hb1.cell (p := ⟨w.heap.size, 0, none⟩) (by show w.heap.size < w.heap.size + 1; omega)).trans (cellOf (blk_alloc_new _ _) 0)
    have p1 : w1.cell? ⟨w.heap.size, 1, none⟩ = some (.int .i64 b) := (hb1.cell (p := ⟨w.heap.size, 1, none⟩) (by show w.heap.size < w.heap.size + 1; omega)).trans (cellOf (blk_alloc_new _ _) 1)
    have p2 : w1.cell? ⟨w.heap.size, 2, none⟩ = some (.int .i64 c) := (hb1.cell (p := ⟨w.heap.size, 2, none⟩) (by show w.heap.size < w.heap.size + 1; omega)).trans (cellOf (blk_alloc_new _ _) 2)
    have p3 : w1.cell? ⟨w.heap.size, 3, none⟩ = some (.int .i64 d) := (hb1.cell (p := ⟨w.heap.size, 3, none⟩) (by show w.heap.size < w.heap.size + 1; omega)).trans (cellOf (blk_alloc_new _ _) 3)
    have HC : Hid (∀ wx w2 : World, Below wx.heap.size wx w2 → (wx.cell? ⟨w.heap.size, 0, none⟩ = some (.int .i64 a) ∧ wx.cell? ⟨w.heap.size, 1, none⟩ = some (.int .i64 b) ∧ wx.cell? ⟨w.heap.size, 2, none⟩ = some (.int .i64 c) ∧ wx.cell? ⟨w.heap.size, 3, none⟩ = some (.int .i64 d)) → w2.cell? ⟨w.heap.size, 0, none⟩ = some (.int .i64 a) ∧ w2.cell? ⟨w.heap.size, 1, none⟩ = some (.int .i64 b) ∧ w2.cell? ⟨w.heap.size, 2, none⟩ = some (.int .i64 c) ∧ w2.cell? ⟨w.heap.size, 3, none⟩ = some (.int .i64 d)) := fun wx w2 h2 h =>
      ⟨(h2.cell (p := ⟨w.heap.size, 0, none⟩) (World.block_lt_of_cell? _ _ h.1)).trans h.1, (h2.cell (p := ⟨w.heap.size, 1, none⟩) (World.block_lt_of_cell? _ _ h.2.1)).trans h.2.1, (h2.cell (p := ⟨w.heap.size, 2, none⟩) (World.block_lt_of_cell? _ _ h.2.2.1)).trans h.2.2.1, (h2.cell (p := ⟨w.heap.size, 3, none⟩) (World.block_lt_of_cell? _ _ h.2.2.2)).trans h.2.2.2⟩
    have HB1 : Hid (Below w.heap.size w w1) := (below_alloc _ _).trans (hb1.mono (by omega))
    clear hb1
    have hix := idx_0
    obtain ⟨l0, l1, l2, l3, e0, e1, e2, e3⟩ : ∃ l0 l1 l2 l3 : Int, l0 = (a) ∧ l1 = (if a = 0 then 0 else b) ∧ l2 = (if a = 0 ∨ b = 0 then 0 else c) ∧ l3 = (if a = 0 ∨ b = 0 ∨ c = 0 then 0 else d) := ⟨_, _, _, _, rfl, rfl, rfl, rfl⟩
    have HL : Hid (∀ wz, Calls Tryz.prog 63 #[.func (.func 101) #[] #[], .agg #[.int .i64 a, .int .i64 b, .int .i64 c, .int .i64 d]] wz fun e w' => e = .returned (.agg #[.int .i64 l0, .int .i64 l1, .int .i64 l2, .int .i64 l3]) ∧ Below wz.heap.size wz w') := fun wz => by rw [e0, e1, e2, e3]; exact lead_1 a b c d wz
    have HE : Hid (l0 = (a) ∧ l1 = (if a = 0 then 0 else b) ∧ l2 = (if a = 0 ∨ b = 0 then 0 else c) ∧ l3 = (if a = 0 ∨ b = 0 ∨ c = 0 then 0 else d)) := ⟨e0, e1, e2, e3⟩
    clear e0 e1 e2 e3
    have heq := eqQ l0 l1 l2 l3 a b c d
    go_wp2
    go_region_held3 (fun w' => w'.cell? ⟨w.heap.size, 0, none⟩ = some (.int .i64 a) ∧ w'.cell? ⟨w.heap.size, 1, none⟩ = some (.int .i64 b) ∧ w'.cell? ⟨w.heap.size, 2, none⟩ = some (.int .i64 c) ∧ w'.cell? ⟨w.heap.size, 3, none⟩ = some (.int .i64 d)) (go_keep)
      (first
      | (go_at_call 62; refine (orders_any w1.drew).mono ?_; rintro e w2 ⟨rfl, hb2⟩; obtain ⟨y0, y1, y2, y3⟩ := HC.out _ w2 hb2 ⟨p0, p1, p2, p3⟩)
      | (go_at_call 63; refine (HL.out w2).mono ?_; rintro e w3 ⟨rfl, hb3⟩; obtain ⟨x0, x1, x2, x3⟩ := HC.out _ w3 hb3 ⟨y0, y1, y2, y3⟩))
    have HB3 : Hid (Below w.heap.size w w3) := (HB1.out.drew.trans (hb2.mono HB1.out.size)).trans (hb3.mono (Nat.le_trans HB1.out.size hb2.size))
    clear HC hb2 hb3 hix heq
    go_wp2
    go_ret
    refine ⟨?_, HB3.out⟩
    rw [eligAt_0, hp]
    show Ending.returned (Value.bool _) = Ending.returned (Value.bool _)
    congr 2
    rw [Bool.eq_iff_iff]
    obtain ⟨e0, e1, e2, e3⟩ := HE.out
    simp only [Bool.and_eq_true, beq_iff_eq, decide_eq_true_eq, true_and]
    rw [e0, e1, e2, e3]
    by_cases hz0 : a = 0 <;> by_cases hz1 : b = 0 <;> by_cases hz2 : c = 0 <;> simp [hz0, hz1, hz2] <;> omega


theorem eligAt_1 (a b c d : Int) : eligB (fun i => partOf a b c d (ord1 i)) = (freeB a && freeB b && freeB c && freeB d && decide (b = 0 → c = 0 ∧ a = 0 ∧ d = 0) && decide (c = 0 → a = 0 ∧ d = 0) && decide (a = 0 → d = 0)) := by
  rw [Bool.eq_iff_iff, eligB_iff]
  simp only [Bool.and_eq_true, freeB, decide_eq_true_eq]
  constructor
  · intro h
    have h0 := h 0 (by omega)
    have h1 := h 1 (by omega)
    have h2 := h 2 (by omega)
    have h3 := h 3 (by omega)
    have h10 := h1.2 0 (by omega)
    have h20 := h2.2 0 (by omega)
    have h21 := h2.2 1 (by omega)
    have h30 := h3.2 0 (by omega)
    have h31 := h3.2 1 (by omega)
    have h32 := h3.2 2 (by omega)
    replace h0 := h0.1
    replace h1 := h1.1
    replace h2 := h2.1
    replace h3 := h3.1
    simp [ord1, partOf] at h0 h1 h2 h3 h10 h20 h21 h30 h31 h32
    omega
  · rintro h q hq
    have hq4 : q = 0 ∨ q = 1 ∨ q = 2 ∨ q = 3 := by omega
    rcases hq4 with rfl | rfl | rfl | rfl
    all_goals
      refine ⟨by simp [ord1, partOf]; omega, fun r hr => ?_⟩
      have hr4 : r = 0 ∨ r = 1 ∨ r = 2 := by omega
      rcases hr4 with rfl | rfl | rfl <;> simp [ord1, partOf] at hr ⊢ <;> omega

set_option maxHeartbeats 1000000 in
theorem implElig_1 (a b c d : Int) (w : World) :
    Calls Tryz.prog 28 #[.int .i64 1, .agg #[.int .i64 a, .int .i64 b, .int .i64 c, .int .i64 d]] w fun e w' => e = .returned (.bool (eligB fun i => partOf a b c d (ord1 i))) ∧ Below w.heap.size w w' := by
  cases hp : (freeB a && freeB b && freeB c && freeB d) with
  | false =>
    go_enter Tryz.func28, Tryz.ntmps28
    go_wp2_with (first
      | (go_at_call 61; refine (isPattern_any a b c d _).mono ?_; rintro e w1 ⟨rfl, hb1⟩; rw [hp])
      | fail)
    rw [World.size_alloc] at hb1
    refine bodyPost_ret (v := .bool false) (by simp [results, Tryz.results28, go_sem]) rfl ⟨?_, (below_alloc _ _).trans (hb1.mono (by omega))⟩
    rw [eligAt_1, hp]
    rfl
  | true =>
    go_enter Tryz.func28, Tryz.ntmps28
    go_wp2_with fail
    refine (isPattern_any a b c d _).mono ?_
    rintro e w1 ⟨rfl, hb1⟩
    rw [hp]
    rw [World.size_alloc] at hb1
    have p0 : w1.cell? ⟨w.heap.size, 0, none⟩ = some (.int .i64 a) := (hb1.cell (p := ⟨w.heap.size, 0, none⟩) (by show w.heap.size < w.heap.size + 1; omega)).trans (cellOf (blk_alloc_new _ _) 0)
    have p1 : w1.cell? ⟨w.heap.size, 1, none⟩ = some (.int .i64 b) := (hb1.cell (p := ⟨w.heap.size, 1, none⟩) (by show w.heap.size < w.heap.size + 1; omega)).trans (cellOf (blk_alloc_new _ _) 1)
    have p2 : w1.cell? ⟨w.heap.size, 2, none⟩ = some (.int .i64 c) := (hb1.cell (p := ⟨w.heap.size, 2, none⟩) (by show w.heap.size < w.heap.size + 1; omega)).trans (cellOf (blk_alloc_new _ _) 2)
    have p3 : w1.cell? ⟨w.heap.size, 3, none⟩ = some (.int .i64 d) := (hb1.cell (p := ⟨w.heap.size, 3, none⟩) (by show w.heap.size < w.heap.size + 1; omega)).trans (cellOf (blk_alloc_new _ _) 3)
    have HC : Hid (∀ wx w2 : World, Below wx.heap.size wx w2 → (wx.cell? ⟨w.heap.size, 0, none⟩ = some (.int .i64 a) ∧ wx.cell? ⟨w.heap.size, 1, none⟩ = some (.int .i64 b) ∧ wx.cell? ⟨w.heap.size, 2, none⟩ = some (.int .i64 c) ∧ wx.cell? ⟨w.heap.size, 3, none⟩ = some (.int .i64 d)) → w2.cell? ⟨w.heap.size, 0, none⟩ = some (.int .i64 a) ∧ w2.cell? ⟨w.heap.size, 1, none⟩ = some (.int .i64 b) ∧ w2.cell? ⟨w.heap.size, 2, none⟩ = some (.int .i64 c) ∧ w2.cell? ⟨w.heap.size, 3, none⟩ = some (.int .i64 d)) := fun wx w2 h2 h =>
      ⟨(h2.cell (p := ⟨w.heap.size, 0, none⟩) (World.block_lt_of_cell? _ _ h.1)).trans h.1, (h2.cell (p := ⟨w.heap.size, 1, none⟩) (World.block_lt_of_cell? _ _ h.2.1)).trans h.2.1, (h2.cell (p := ⟨w.heap.size, 2, none⟩) (World.block_lt_of_cell? _ _ h.2.2.1)).trans h.2.2.1, (h2.cell (p := ⟨w.heap.size, 3, none⟩) (World.block_lt_of_cell? _ _ h.2.2.2)).trans h.2.2.2⟩
    have HB1 : Hid (Below w.heap.size w w1) := (below_alloc _ _).trans (hb1.mono (by omega))
    clear hb1
    have hix := idx_1
    obtain ⟨l0, l1, l2, l3, e0, e1, e2, e3⟩ : ∃ l0 l1 l2 l3 : Int, l0 = (if b = 0 ∨ c = 0 then 0 else a) ∧ l1 = (b) ∧ l2 = (if b = 0 then 0 else c) ∧ l3 = (if b = 0 ∨ c = 0 ∨ a = 0 then 0 else d) := ⟨_, _, _, _, rfl, rfl, rfl, rfl⟩
    have HL : Hid (∀ wz, Calls Tryz.prog 63 #[.func (.func 102) #[] #[], .agg #[.int .i64 a, .int .i64 b, .int .i64 c, .int .i64 d]] wz fun e w' => e = .returned (.agg #[.int .i64 l0, .int .i64 l1, .int .i64 l2, .int .i64 l3]) ∧ Below wz.heap.size wz w') := fun wz => by rw [e0, e1, e2, e3]; exact lead_2 a b c d wz
    have HE : Hid (l0 = (if b = 0 ∨ c = 0 then 0 else a) ∧ l1 = (b) ∧ l2 = (if b = 0 then 0 else c) ∧ l3 = (if b = 0 ∨ c = 0 ∨ a = 0 then 0 else d)) := ⟨e0, e1, e2, e3⟩
    clear e0 e1 e2 e3
    have heq := eqQ l0 l1 l2 l3 a b c d
    go_wp2
    go_region_held3 (fun w' => w'.cell? ⟨w.heap.size, 0, none⟩ = some (.int .i64 a) ∧ w'.cell? ⟨w.heap.size, 1, none⟩ = some (.int .i64 b) ∧ w'.cell? ⟨w.heap.size, 2, none⟩ = some (.int .i64 c) ∧ w'.cell? ⟨w.heap.size, 3, none⟩ = some (.int .i64 d)) (go_keep)
      (first
      | (go_at_call 62; refine (orders_any w1.drew).mono ?_; rintro e w2 ⟨rfl, hb2⟩; obtain ⟨y0, y1, y2, y3⟩ := HC.out _ w2 hb2 ⟨p0, p1, p2, p3⟩)
      | (go_at_call 63; refine (HL.out w2).mono ?_; rintro e w3 ⟨rfl, hb3⟩; obtain ⟨x0, x1, x2, x3⟩ := HC.out _ w3 hb3 ⟨y0, y1, y2, y3⟩))
    have HB3 : Hid (Below w.heap.size w w3) := (HB1.out.drew.trans (hb2.mono HB1.out.size)).trans (hb3.mono (Nat.le_trans HB1.out.size hb2.size))
    clear HC hb2 hb3 hix heq
    go_wp2
    go_ret
    refine ⟨?_, HB3.out⟩
    rw [eligAt_1, hp]
    show Ending.returned (Value.bool _) = Ending.returned (Value.bool _)
    congr 2
    rw [Bool.eq_iff_iff]
    obtain ⟨e0, e1, e2, e3⟩ := HE.out
    simp only [Bool.and_eq_true, beq_iff_eq, decide_eq_true_eq, true_and]
    rw [e0, e1, e2, e3]
    by_cases hz0 : b = 0 <;> by_cases hz1 : c = 0 <;> by_cases hz2 : a = 0 <;> simp [hz0, hz1, hz2] <;> omega


theorem eligAt_2 (a b c d : Int) : eligB (fun i => partOf a b c d (ord2 i)) = (freeB a && freeB b && freeB c && freeB d && decide (c = 0 → a = 0 ∧ b = 0 ∧ d = 0) && decide (a = 0 → b = 0 ∧ d = 0) && decide (b = 0 → d = 0)) := by
  rw [Bool.eq_iff_iff, eligB_iff]
  simp only [Bool.and_eq_true, freeB, decide_eq_true_eq]
  constructor
  · intro h
    have h0 := h 0 (by omega)
    have h1 := h 1 (by omega)
    have h2 := h 2 (by omega)
    have h3 := h 3 (by omega)
    have h10 := h1.2 0 (by omega)
    have h20 := h2.2 0 (by omega)
    have h21 := h2.2 1 (by omega)
    have h30 := h3.2 0 (by omega)
    have h31 := h3.2 1 (by omega)
    have h32 := h3.2 2 (by omega)
    replace h0 := h0.1
    replace h1 := h1.1
    replace h2 := h2.1
    replace h3 := h3.1
    simp [ord2, partOf] at h0 h1 h2 h3 h10 h20 h21 h30 h31 h32
    omega
  · rintro h q hq
    have hq4 : q = 0 ∨ q = 1 ∨ q = 2 ∨ q = 3 := by omega
    rcases hq4 with rfl | rfl | rfl | rfl
    all_goals
      refine ⟨by simp [ord2, partOf]; omega, fun r hr => ?_⟩
      have hr4 : r = 0 ∨ r = 1 ∨ r = 2 := by omega
      rcases hr4 with rfl | rfl | rfl <;> simp [ord2, partOf] at hr ⊢ <;> omega

set_option maxHeartbeats 1000000 in
theorem implElig_2 (a b c d : Int) (w : World) :
    Calls Tryz.prog 28 #[.int .i64 2, .agg #[.int .i64 a, .int .i64 b, .int .i64 c, .int .i64 d]] w fun e w' => e = .returned (.bool (eligB fun i => partOf a b c d (ord2 i))) ∧ Below w.heap.size w w' := by
  cases hp : (freeB a && freeB b && freeB c && freeB d) with
  | false =>
    go_enter Tryz.func28, Tryz.ntmps28
    go_wp2_with (first
      | (go_at_call 61; refine (isPattern_any a b c d _).mono ?_; rintro e w1 ⟨rfl, hb1⟩; rw [hp])
      | fail)
    rw [World.size_alloc] at hb1
    refine bodyPost_ret (v := .bool false) (by simp [results, Tryz.results28, go_sem]) rfl ⟨?_, (below_alloc _ _).trans (hb1.mono (by omega))⟩
    rw [eligAt_2, hp]
    rfl
  | true =>
    go_enter Tryz.func28, Tryz.ntmps28
    go_wp2_with fail
    refine (isPattern_any a b c d _).mono ?_
    rintro e w1 ⟨rfl, hb1⟩
    rw [hp]
    rw [World.size_alloc] at hb1
    have p0 : w1.cell? ⟨w.heap.size, 0, none⟩ = some (.int .i64 a) := (hb1.cell (p := ⟨w.heap.size, 0, none⟩) (by show w.heap.size < w.heap.size + 1; omega)).trans (cellOf (blk_alloc_new _ _) 0)
    have p1 : w1.cell? ⟨w.heap.size, 1, none⟩ = some (.int .i64 b) := (hb1.cell (p := ⟨w.heap.size, 1, none⟩) (by show w.heap.size < w.heap.size + 1; omega)).trans (cellOf (blk_alloc_new _ _) 1)
    have p2 : w1.cell? ⟨w.heap.size, 2, none⟩ = some (.int .i64 c) := (hb1.cell (p := ⟨w.heap.size, 2, none⟩) (by show w.heap.size < w.heap.size + 1; omega)).trans (cellOf (blk_alloc_new _ _) 2)
    have p3 : w1.cell? ⟨w.heap.size, 3, none⟩ = some (.int .i64 d) := (hb1.cell (p := ⟨w.heap.size, 3, none⟩) (by show w.heap.size < w.heap.size + 1; omega)).trans (cellOf (blk_alloc_new _ _) 3)
    have HC : Hid (∀ wx w2 : World, Below wx.heap.size wx w2 → (wx.cell? ⟨w.heap.size, 0, none⟩ = some (.int .i64 a) ∧ wx.cell? ⟨w.heap.size, 1, none⟩ = some (.int .i64 b) ∧ wx.cell? ⟨w.heap.size, 2, none⟩ = some (.int .i64 c) ∧ wx.cell? ⟨w.heap.size, 3, none⟩ = some (.int .i64 d)) → w2.cell? ⟨w.heap.size, 0, none⟩ = some (.int .i64 a) ∧ w2.cell? ⟨w.heap.size, 1, none⟩ = some (.int .i64 b) ∧ w2.cell? ⟨w.heap.size, 2, none⟩ = some (.int .i64 c) ∧ w2.cell? ⟨w.heap.size, 3, none⟩ = some (.int .i64 d)) := fun wx w2 h2 h =>
      ⟨(h2.cell (p := ⟨w.heap.size, 0, none⟩) (World.block_lt_of_cell? _ _ h.1)).trans h.1, (h2.cell (p := ⟨w.heap.size, 1, none⟩) (World.block_lt_of_cell? _ _ h.2.1)).trans h.2.1, (h2.cell (p := ⟨w.heap.size, 2, none⟩) (World.block_lt_of_cell? _ _ h.2.2.1)).trans h.2.2.1, (h2.cell (p := ⟨w.heap.size, 3, none⟩) (World.block_lt_of_cell? _ _ h.2.2.2)).trans h.2.2.2⟩
    have HB1 : Hid (Below w.heap.size w w1) := (below_alloc _ _).trans (hb1.mono (by omega))
    clear hb1
    have hix := idx_2
    obtain ⟨l0, l1, l2, l3, e0, e1, e2, e3⟩ : ∃ l0 l1 l2 l3 : Int, l0 = (if c = 0 then 0 else a) ∧ l1 = (if c = 0 ∨ a = 0 then 0 else b) ∧ l2 = (c) ∧ l3 = (if c = 0 ∨ a = 0 ∨ b = 0 then 0 else d) := ⟨_, _, _, _, rfl, rfl, rfl, rfl⟩
    have HL : Hid (∀ wz, Calls Tryz.prog 63 #[.func (.func 103) #[] #[], .agg #[.int .i64 a, .int .i64 b, .int .i64 c, .int .i64 d]] wz fun e w' => e = .returned (.agg #[.int .i64 l0, .int .i64 l1, .int .i64 l2, .int .i64 l3]) ∧ Below wz.heap.size wz w') := fun wz => by rw [e0, e1, e2, e3]; exact lead_3 a b c d wz
    have HE : Hid (l0 = (if c = 0 then 0 else a) ∧ l1 = (if c = 0 ∨ a = 0 then 0 else b) ∧ l2 = (c) ∧ l3 = (if c = 0 ∨ a = 0 ∨ b = 0 then 0 else d)) := ⟨e0, e1, e2, e3⟩
    clear e0 e1 e2 e3
    have heq := eqQ l0 l1 l2 l3 a b c d
    go_wp2
    go_region_held3 (fun w' => w'.cell? ⟨w.heap.size, 0, none⟩ = some (.int .i64 a) ∧ w'.cell? ⟨w.heap.size, 1, none⟩ = some (.int .i64 b) ∧ w'.cell? ⟨w.heap.size, 2, none⟩ = some (.int .i64 c) ∧ w'.cell? ⟨w.heap.size, 3, none⟩ = some (.int .i64 d)) (go_keep)
      (first
      | (go_at_call 62; refine (orders_any w1.drew).mono ?_; rintro e w2 ⟨rfl, hb2⟩; obtain ⟨y0, y1, y2, y3⟩ := HC.out _ w2 hb2 ⟨p0, p1, p2, p3⟩)
      | (go_at_call 63; refine (HL.out w2).mono ?_; rintro e w3 ⟨rfl, hb3⟩; obtain ⟨x0, x1, x2, x3⟩ := HC.out _ w3 hb3 ⟨y0, y1, y2, y3⟩))
    have HB3 : Hid (Below w.heap.size w w3) := (HB1.out.drew.trans (hb2.mono HB1.out.size)).trans (hb3.mono (Nat.le_trans HB1.out.size hb2.size))
    clear HC hb2 hb3 hix heq
    go_wp2
    go_ret
    refine ⟨?_, HB3.out⟩
    rw [eligAt_2, hp]
    show Ending.returned (Value.bool _) = Ending.returned (Value.bool _)
    congr 2
    rw [Bool.eq_iff_iff]
    obtain ⟨e0, e1, e2, e3⟩ := HE.out
    simp only [Bool.and_eq_true, beq_iff_eq, decide_eq_true_eq, true_and]
    rw [e0, e1, e2, e3]
    by_cases hz0 : c = 0 <;> by_cases hz1 : a = 0 <;> by_cases hz2 : b = 0 <;> simp [hz0, hz1, hz2] <;> omega


theorem eligAt_3 (a b c d : Int) : eligB (fun i => partOf a b c d (ord3 i)) = (freeB a && freeB b && freeB c && freeB d && decide (d = 0 → a = 0 ∧ b = 0 ∧ c = 0) && decide (a = 0 → b = 0 ∧ c = 0) && decide (b = 0 → c = 0)) := by
  rw [Bool.eq_iff_iff, eligB_iff]
  simp only [Bool.and_eq_true, freeB, decide_eq_true_eq]
  constructor
  · intro h
    have h0 := h 0 (by omega)
    have h1 := h 1 (by omega)
    have h2 := h 2 (by omega)
    have h3 := h 3 (by omega)
    have h10 := h1.2 0 (by omega)
    have h20 := h2.2 0 (by omega)
    have h21 := h2.2 1 (by omega)
    have h30 := h3.2 0 (by omega)
    have h31 := h3.2 1 (by omega)
    have h32 := h3.2 2 (by omega)
    replace h0 := h0.1
    replace h1 := h1.1
    replace h2 := h2.1
    replace h3 := h3.1
    simp [ord3, partOf] at h0 h1 h2 h3 h10 h20 h21 h30 h31 h32
    omega
  · rintro h q hq
    have hq4 : q = 0 ∨ q = 1 ∨ q = 2 ∨ q = 3 := by omega
    rcases hq4 with rfl | rfl | rfl | rfl
    all_goals
      refine ⟨by simp [ord3, partOf]; omega, fun r hr => ?_⟩
      have hr4 : r = 0 ∨ r = 1 ∨ r = 2 := by omega
      rcases hr4 with rfl | rfl | rfl <;> simp [ord3, partOf] at hr ⊢ <;> omega

set_option maxHeartbeats 1000000 in
theorem implElig_3 (a b c d : Int) (w : World) :
    Calls Tryz.prog 28 #[.int .i64 3, .agg #[.int .i64 a, .int .i64 b, .int .i64 c, .int .i64 d]] w fun e w' => e = .returned (.bool (eligB fun i => partOf a b c d (ord3 i))) ∧ Below w.heap.size w w' := by
  cases hp : (freeB a && freeB b && freeB c && freeB d) with
  | false =>
    go_enter Tryz.func28, Tryz.ntmps28
    go_wp2_with (first
      | (go_at_call 61; refine (isPattern_any a b c d _).mono ?_; rintro e w1 ⟨rfl, hb1⟩; rw [hp])
      | fail)
    rw [World.size_alloc] at hb1
    refine bodyPost_ret (v := .bool false) (by simp [results, Tryz.results28, go_sem]) rfl ⟨?_, (below_alloc _ _).trans (hb1.mono (by omega))⟩
    rw [eligAt_3, hp]
    rfl
  | true =>
    go_enter Tryz.func28, Tryz.ntmps28
    go_wp2_with fail
    refine (isPattern_any a b c d _).mono ?_
    rintro e w1 ⟨rfl, hb1⟩
    rw [hp]
    rw [World.size_alloc] at hb1
    have p0 : w1.cell? ⟨w.heap.size, 0, none⟩ = some (.int .i64 a) := (hb1.cell (p := ⟨w.heap.size, 0, none⟩) (by show w.heap.size < w.heap.size + 1; omega)).trans (cellOf (blk_alloc_new _ _) 0)
    have p1 : w1.cell? ⟨w.heap.size, 1, none⟩ = some (.int .i64 b) := (hb1.cell (p := ⟨w.heap.size, 1, none⟩) (by show w.heap.size < w.heap.size + 1; omega)).trans (cellOf (blk_alloc_new _ _) 1)
    have p2 : w1.cell? ⟨w.heap.size, 2, none⟩ = some (.int .i64 c) := (hb1.cell (p := ⟨w.heap.size, 2, none⟩) (by show w.heap.size < w.heap.size + 1; omega)).trans (cellOf (blk_alloc_new _ _) 2)
    have p3 : w1.cell? ⟨w.heap.size, 3, none⟩ = some (.int .i64 d) := (hb1.cell (p := ⟨w.heap.size, 3, none⟩) (by show w.heap.size < w.heap.size + 1; omega)).trans (cellOf (blk_alloc_new _ _) 3)
    have HC : Hid (∀ wx w2 : World, Below wx.heap.size wx w2 → (wx.cell? ⟨w.heap.size, 0, none⟩ = some (.int .i64 a) ∧ wx.cell? ⟨w.heap.size, 1, none⟩ = some (.int .i64 b) ∧ wx.cell? ⟨w.heap.size, 2, none⟩ = some (.int .i64 c) ∧ wx.cell? ⟨w.heap.size, 3, none⟩ = some (.int .i64 d)) → w2.cell? ⟨w.heap.size, 0, none⟩ = some (.int .i64 a) ∧ w2.cell? ⟨w.heap.size, 1, none⟩ = some (.int .i64 b) ∧ w2.cell? ⟨w.heap.size, 2, none⟩ = some (.int .i64 c) ∧ w2.cell? ⟨w.heap.size, 3, none⟩ = some (.int .i64 d)) := fun wx w2 h2 h =>
      ⟨(h2.cell (p := ⟨w.heap.size, 0, none⟩) (World.block_lt_of_cell? _ _ h.1)).trans h.1, (h2.cell (p := ⟨w.heap.size, 1, none⟩) (World.block_lt_of_cell? _ _ h.2.1)).trans h.2.1, (h2.cell (p := ⟨w.heap.size, 2, none⟩) (World.block_lt_of_cell? _ _ h.2.2.1)).trans h.2.2.1, (h2.cell (p := ⟨w.heap.size, 3, none⟩) (World.block_lt_of_cell? _ _ h.2.2.2)).trans h.2.2.2⟩
    have HB1 : Hid (Below w.heap.size w w1) := (below_alloc _ _).trans (hb1.mono (by omega))
    clear hb1
    have hix := idx_3
    obtain ⟨l0, l1, l2, l3, e0, e1, e2, e3⟩ : ∃ l0 l1 l2 l3 : Int, l0 = (if d = 0 then 0 else a) ∧ l1 = (if d = 0 ∨ a = 0 then 0 else b) ∧ l2 = (if d = 0 ∨ a = 0 ∨ b = 0 then 0 else c) ∧ l3 = (d) := ⟨_, _, _, _, rfl, rfl, rfl, rfl⟩
    have HL : Hid (∀ wz, Calls Tryz.prog 63 #[.func (.func 104) #[] #[], .agg #[.int .i64 a, .int .i64 b, .int .i64 c, .int .i64 d]] wz fun e w' => e = .returned (.agg #[.int .i64 l0, .int .i64 l1, .int .i64 l2, .int .i64 l3]) ∧ Below wz.heap.size wz w') := fun wz => by rw [e0, e1, e2, e3]; exact lead_4 a b c d wz
    have HE : Hid (l0 = (if d = 0 then 0 else a) ∧ l1 = (if d = 0 ∨ a = 0 then 0 else b) ∧ l2 = (if d = 0 ∨ a = 0 ∨ b = 0 then 0 else c) ∧ l3 = (d)) := ⟨e0, e1, e2, e3⟩
    clear e0 e1 e2 e3
    have heq := eqQ l0 l1 l2 l3 a b c d
    go_wp2
    go_region_held3 (fun w' => w'.cell? ⟨w.heap.size, 0, none⟩ = some (.int .i64 a) ∧ w'.cell? ⟨w.heap.size, 1, none⟩ = some (.int .i64 b) ∧ w'.cell? ⟨w.heap.size, 2, none⟩ = some (.int .i64 c) ∧ w'.cell? ⟨w.heap.size, 3, none⟩ = some (.int .i64 d)) (go_keep)
      (first
      | (go_at_call 62; refine (orders_any w1.drew).mono ?_; rintro e w2 ⟨rfl, hb2⟩; obtain ⟨y0, y1, y2, y3⟩ := HC.out _ w2 hb2 ⟨p0, p1, p2, p3⟩)
      | (go_at_call 63; refine (HL.out w2).mono ?_; rintro e w3 ⟨rfl, hb3⟩; obtain ⟨x0, x1, x2, x3⟩ := HC.out _ w3 hb3 ⟨y0, y1, y2, y3⟩))
    have HB3 : Hid (Below w.heap.size w w3) := (HB1.out.drew.trans (hb2.mono HB1.out.size)).trans (hb3.mono (Nat.le_trans HB1.out.size hb2.size))
    clear HC hb2 hb3 hix heq
    go_wp2
    go_ret
    refine ⟨?_, HB3.out⟩
    rw [eligAt_3, hp]
    show Ending.returned (Value.bool _) = Ending.returned (Value.bool _)
    congr 2
    rw [Bool.eq_iff_iff]
    obtain ⟨e0, e1, e2, e3⟩ := HE.out
    simp only [Bool.and_eq_true, beq_iff_eq, decide_eq_true_eq, true_and]
    rw [e0, e1, e2, e3]
    by_cases hz0 : d = 0 <;> by_cases hz1 : a = 0 <;> by_cases hz2 : b = 0 <;> simp [hz0, hz1, hz2] <;> omega


theorem eligAt_4 (a b c d : Int) : eligB (fun i => partOf a b c d (ord4 i)) = (freeB a && freeB b && freeB c && freeB d && decide (d = 0 → b = 0 ∧ c = 0 ∧ a = 0) && decide (b = 0 → c = 0 ∧ a = 0) && decide (c = 0 → a = 0)) := by
  rw [Bool.eq_iff_iff, eligB_iff]
  simp only [Bool.and_eq_true, freeB, decide_eq_true_eq]
  constructor
  · intro h
    have h0 := h 0 (by omega)
    have h1 := h 1 (by omega)
    have h2 := h 2 (by omega)
    have h3 := h 3 (by omega)
    have h10 := h1.2 0 (by omega)
    have h20 := h2.2 0 (by omega)
    have h21 := h2.2 1 (by omega)
    have h30 := h3.2 0 (by omega)
    have h31 := h3.2 1 (by omega)
    have h32 := h3.2 2 (by omega)
    replace h0 := h0.1
    replace h1 := h1.1
    replace h2 := h2.1
    replace h3 := h3.1
    simp [ord4, partOf] at h0 h1 h2 h3 h10 h20 h21 h30 h31 h32
    omega
  · rintro h q hq
    have hq4 : q = 0 ∨ q = 1 ∨ q = 2 ∨ q = 3 := by omega
    rcases hq4 with rfl | rfl | rfl | rfl
    all_goals
      refine ⟨by simp [ord4, partOf]; omega, fun r hr => ?_⟩
      have hr4 : r = 0 ∨ r = 1 ∨ r = 2 := by omega
      rcases hr4 with rfl | rfl | rfl <;> simp [ord4, partOf] at hr ⊢ <;> omega

set_option maxHeartbeats 1000000 in
theorem implElig_4 (a b c d : Int) (w : World) :
    Calls Tryz.prog 28 #[.int .i64 4, .agg #[.int .i64 a, .int .i64 b, .int .i64 c, .int .i64 d]] w fun e w' => e = .returned (.bool (eligB fun i => partOf a b c d (ord4 i))) ∧ Below w.heap.size w w' := by
  cases hp : (freeB a && freeB b && freeB c && freeB d) with
  | false =>
    go_enter Tryz.func28, Tryz.ntmps28
    go_wp2_with (first
      | (go_at_call 61; refine (isPattern_any a b c d _).mono ?_; rintro e w1 ⟨rfl, hb1⟩; rw [hp])
      | fail)
    rw [World.size_alloc] at hb1
    refine bodyPost_ret (v := .bool false) (by simp [results, Tryz.results28, go_sem]) rfl ⟨?_, (below_alloc _ _).trans (hb1.mono (by omega))⟩
    rw [eligAt_4, hp]
    rfl
  | true =>
    go_enter Tryz.func28, Tryz.ntmps28
    go_wp2_with fail
    refine (isPattern_any a b c d _).mono ?_
    rintro e w1 ⟨rfl, hb1⟩
    rw [hp]
    rw [World.size_alloc] at hb1
    have p0 : w1.cell? ⟨w.heap.size, 0, none⟩ = some (.int .i64 a) := (hb1.cell (p := ⟨w.heap.size, 0, none⟩) (by show w.heap.size < w.heap.size + 1; omega)).trans (cellOf (blk_alloc_new _ _) 0)
    have p1 : w1.cell? ⟨w.heap.size, 1, none⟩ = some (.int .i64 b) := (hb1.cell (p := ⟨w.heap.size, 1, none⟩) (by show w.heap.size < w.heap.size + 1; omega)).trans (cellOf (blk_alloc_new _ _) 1)
    have p2 : w1.cell? ⟨w.heap.size, 2, none⟩ = some (.int .i64 c) := (hb1.cell (p := ⟨w.heap.size, 2, none⟩) (by show w.heap.size < w.heap.size + 1; omega)).trans (cellOf (blk_alloc_new _ _) 2)
    have p3 : w1.cell? ⟨w.heap.size, 3, none⟩ = some (.int .i64 d) := (hb1.cell (p := ⟨w.heap.size, 3, none⟩) (by show w.heap.size < w.heap.size + 1; omega)).trans (cellOf (blk_alloc_new _ _) 3)
    have HC : Hid (∀ wx w2 : World, Below wx.heap.size wx w2 → (wx.cell? ⟨w.heap.size, 0, none⟩ = some (.int .i64 a) ∧ wx.cell? ⟨w.heap.size, 1, none⟩ = some (.int .i64 b) ∧ wx.cell? ⟨w.heap.size, 2, none⟩ = some (.int .i64 c) ∧ wx.cell? ⟨w.heap.size, 3, none⟩ = some (.int .i64 d)) → w2.cell? ⟨w.heap.size, 0, none⟩ = some (.int .i64 a) ∧ w2.cell? ⟨w.heap.size, 1, none⟩ = some (.int .i64 b) ∧ w2.cell? ⟨w.heap.size, 2, none⟩ = some (.int .i64 c) ∧ w2.cell? ⟨w.heap.size, 3, none⟩ = some (.int .i64 d)) := fun wx w2 h2 h =>
      ⟨(h2.cell (p := ⟨w.heap.size, 0, none⟩) (World.block_lt_of_cell? _ _ h.1)).trans h.1, (h2.cell (p := ⟨w.heap.size, 1, none⟩) (World.block_lt_of_cell? _ _ h.2.1)).trans h.2.1, (h2.cell (p := ⟨w.heap.size, 2, none⟩) (World.block_lt_of_cell? _ _ h.2.2.1)).trans h.2.2.1, (h2.cell (p := ⟨w.heap.size, 3, none⟩) (World.block_lt_of_cell? _ _ h.2.2.2)).trans h.2.2.2⟩
    have HB1 : Hid (Below w.heap.size w w1) := (below_alloc _ _).trans (hb1.mono (by omega))
    clear hb1
    have hix := idx_4
    obtain ⟨l0, l1, l2, l3, e0, e1, e2, e3⟩ : ∃ l0 l1 l2 l3 : Int, l0 = (if d = 0 ∨ b = 0 ∨ c = 0 then 0 else a) ∧ l1 = (if d = 0 then 0 else b) ∧ l2 = (if d = 0 ∨ b = 0 then 0 else c) ∧ l3 = (d) := ⟨_, _, _, _, rfl, rfl, rfl, rfl⟩
    have HL : Hid (∀ wz, Calls Tryz.prog 63 #[.func (.func 105) #[] #[], .agg #[.int .i64 a, .int .i64 b, .int .i64 c, .int .i64 d]] wz fun e w' => e = .returned (.agg #[.int .i64 l0, .int .i64 l1, .int .i64 l2, .int .i64 l3]) ∧ Below wz.heap.size wz w') := fun wz => by rw [e0, e1, e2, e3]; exact lead_5 a b c d wz
    have HE : Hid (l0 = (if d = 0 ∨ b = 0 ∨ c = 0 then 0 else a) ∧ l1 = (if d = 0 then 0 else b) ∧ l2 = (if d = 0 ∨ b = 0 then 0 else c) ∧ l3 = (d)) := ⟨e0, e1, e2, e3⟩
    clear e0 e1 e2 e3
    have heq := eqQ l0 l1 l2 l3 a b c d
    go_wp2
    go_region_held3 (fun w' => w'.cell? ⟨w.heap.size, 0, none⟩ = some (.int .i64 a) ∧ w'.cell? ⟨w.heap.size, 1, none⟩ = some (.int .i64 b) ∧ w'.cell? ⟨w.heap.size, 2, none⟩ = some (.int .i64 c) ∧ w'.cell? ⟨w.heap.size, 3, none⟩ = some (.int .i64 d)) (go_keep)
      (first
      | (go_at_call 62; refine (orders_any w1.drew).mono ?_; rintro e w2 ⟨rfl, hb2⟩; obtain ⟨y0, y1, y2, y3⟩ := HC.out _ w2 hb2 ⟨p0, p1, p2, p3⟩)
      | (go_at_call 63; refine (HL.out w2).mono ?_; rintro e w3 ⟨rfl, hb3⟩; obtain ⟨x0, x1, x2, x3⟩ := HC.out _ w3 hb3 ⟨y0, y1, y2, y3⟩))
    have HB3 : Hid (Below w.heap.size w w3) := (HB1.out.drew.trans (hb2.mono HB1.out.size)).trans (hb3.mono (Nat.le_trans HB1.out.size hb2.size))
    clear HC hb2 hb3 hix heq
    go_wp2
    go_ret
    refine ⟨?_, HB3.out⟩
    rw [eligAt_4, hp]
    show Ending.returned (Value.bool _) = Ending.returned (Value.bool _)
    congr 2
    rw [Bool.eq_iff_iff]
    obtain ⟨e0, e1, e2, e3⟩ := HE.out
    simp only [Bool.and_eq_true, beq_iff_eq, decide_eq_true_eq, true_and]
    rw [e0, e1, e2, e3]
    by_cases hz0 : d = 0 <;> by_cases hz1 : b = 0 <;> by_cases hz2 : c = 0 <;> simp [hz0, hz1, hz2] <;> omega


theorem eligAt_5 (a b c d : Int) : eligB (fun i => partOf a b c d (ord5 i)) = (freeB a && freeB b && freeB c && freeB d && decide (d = 0 → c = 0 ∧ a = 0 ∧ b = 0) && decide (c = 0 → a = 0 ∧ b = 0) && decide (a = 0 → b = 0)) := by
  rw [Bool.eq_iff_iff, eligB_iff]
  simp only [Bool.and_eq_true, freeB, decide_eq_true_eq]
  constructor
  · intro h
    have h0 := h 0 (by omega)
    have h1 := h 1 (by omega)
    have h2 := h 2 (by omega)
    have h3 := h 3 (by omega)
    have h10 := h1.2 0 (by omega)
    have h20 := h2.2 0 (by omega)
    have h21 := h2.2 1 (by omega)
    have h30 := h3.2 0 (by omega)
    have h31 := h3.2 1 (by omega)
    have h32 := h3.2 2 (by omega)
    replace h0 := h0.1
    replace h1 := h1.1
    replace h2 := h2.1
    replace h3 := h3.1
    simp [ord5, partOf] at h0 h1 h2 h3 h10 h20 h21 h30 h31 h32
    omega
  · rintro h q hq
    have hq4 : q = 0 ∨ q = 1 ∨ q = 2 ∨ q = 3 := by omega
    rcases hq4 with rfl | rfl | rfl | rfl
    all_goals
      refine ⟨by simp [ord5, partOf]; omega, fun r hr => ?_⟩
      have hr4 : r = 0 ∨ r = 1 ∨ r = 2 := by omega
      rcases hr4 with rfl | rfl | rfl <;> simp [ord5, partOf] at hr ⊢ <;> omega

set_option maxHeartbeats 1000000 in
theorem implElig_5 (a b c d : Int) (w : World) :
    Calls Tryz.prog 28 #[.int .i64 5, .agg #[.int .i64 a, .int .i64 b, .int .i64 c, .int .i64 d]] w fun e w' => e = .returned (.bool (eligB fun i => partOf a b c d (ord5 i))) ∧ Below w.heap.size w w' := by
  cases hp : (freeB a && freeB b && freeB c && freeB d) with
  | false =>
    go_enter Tryz.func28, Tryz.ntmps28
    go_wp2_with (first
      | (go_at_call 61; refine (isPattern_any a b c d _).mono ?_; rintro e w1 ⟨rfl, hb1⟩; rw [hp])
      | fail)
    rw [World.size_alloc] at hb1
    refine bodyPost_ret (v := .bool false) (by simp [results, Tryz.results28, go_sem]) rfl ⟨?_, (below_alloc _ _).trans (hb1.mono (by omega))⟩
    rw [eligAt_5, hp]
    rfl
  | true =>
    go_enter Tryz.func28, Tryz.ntmps28
    go_wp2_with fail
    refine (isPattern_any a b c d _).mono ?_
    rintro e w1 ⟨rfl, hb1⟩
    rw [hp]
    rw [World.size_alloc] at hb1
    have p0 : w1.cell? ⟨w.heap.size, 0, none⟩ = some (.int .i64 a) := (hb1.cell (p := ⟨w.heap.size, 0, none⟩) (by show w.heap.size < w.heap.size + 1; omega)).trans (cellOf (blk_alloc_new _ _) 0)
    have p1 : w1.cell? ⟨w.heap.size, 1, none⟩ = some (.int .i64 b) := (hb1.cell (p := ⟨w.heap.size, 1, none⟩) (by show w.heap.size < w.heap.size + 1; omega)).trans (cellOf (blk_alloc_new _ _) 1)
    have p2 : w1.cell? ⟨w.heap.size, 2, none⟩ = some (.int .i64 c) := (hb1.cell (p := ⟨w.heap.size, 2, none⟩) (by show w.heap.size < w.heap.size + 1; omega)).trans (cellOf (blk_alloc_new _ _) 2)
    have p3 : w1.cell? ⟨w.heap.size, 3, none⟩ = some (.int .i64 d) := (hb1.cell (p := ⟨w.heap.size, 3, none⟩) (by show w.heap.size < w.heap.size + 1; omega)).trans (cellOf (blk_alloc_new _ _) 3)
    have HC : Hid (∀ wx w2 : World, Below wx.heap.size wx w2 → (wx.cell? ⟨w.heap.size, 0, none⟩ = some (.int .i64 a) ∧ wx.cell? ⟨w.heap.size, 1, none⟩ = some (.int .i64 b) ∧ wx.cell? ⟨w.heap.size, 2, none⟩ = some (.int .i64 c) ∧ wx.cell? ⟨w.heap.size, 3, none⟩ = some (.int .i64 d)) → w2.cell? ⟨w.heap.size, 0, none⟩ = some (.int .i64 a) ∧ w2.cell? ⟨w.heap.size, 1, none⟩ = some (.int .i64 b) ∧ w2.cell? ⟨w.heap.size, 2, none⟩ = some (.int .i64 c) ∧ w2.cell? ⟨w.heap.size, 3, none⟩ = some (.int .i64 d)) := fun wx w2 h2 h =>
      ⟨(h2.cell (p := ⟨w.heap.size, 0, none⟩) (World.block_lt_of_cell? _ _ h.1)).trans h.1, (h2.cell (p := ⟨w.heap.size, 1, none⟩) (World.block_lt_of_cell? _ _ h.2.1)).trans h.2.1, (h2.cell (p := ⟨w.heap.size, 2, none⟩) (World.block_lt_of_cell? _ _ h.2.2.1)).trans h.2.2.1, (h2.cell (p := ⟨w.heap.size, 3, none⟩) (World.block_lt_of_cell? _ _ h.2.2.2)).trans h.2.2.2⟩
    have HB1 : Hid (Below w.heap.size w w1) := (below_alloc _ _).trans (hb1.mono (by omega))
    clear hb1
    have hix := idx_5
    obtain ⟨l0, l1, l2, l3, e0, e1, e2, e3⟩ : ∃ l0 l1 l2 l3 : Int, l0 = (if d = 0 ∨ c = 0 then 0 else a) ∧ l1 = (if d = 0 ∨ c = 0 ∨ a = 0 then 0 else b) ∧ l2 = (if d = 0 then 0 else c) ∧ l3 = (d) := ⟨_, _, _, _, rfl, rfl, rfl, rfl⟩
    have HL : Hid (∀ wz, Calls Tryz.prog 63 #[.func (.func 106) #[] #[], .agg #[.int .i64 a, .int .i64 b, .int .i64 c, .int .i64 d]] wz fun e w' => e = .returned (.agg #[.int .i64 l0, .int .i64 l1, .int .i64 l2, .int .i64 l3]) ∧ Below wz.heap.size wz w') := fun wz => by rw [e0, e1, e2, e3]; exact lead_6 a b c d wz
    have HE : Hid (l0 = (if d = 0 ∨ c = 0 then 0 else a) ∧ l1 = (if d = 0 ∨ c = 0 ∨ a = 0 then 0 else b) ∧ l2 = (if d = 0 then 0 else c) ∧ l3 = (d)) := ⟨e0, e1, e2, e3⟩
    clear e0 e1 e2 e3
    have heq := eqQ l0 l1 l2 l3 a b c d
    go_wp2
    go_region_held3 (fun w' => w'.cell? ⟨w.heap.size, 0, none⟩ = some (.int .i64 a) ∧ w'.cell? ⟨w.heap.size, 1, none⟩ = some (.int .i64 b) ∧ w'.cell? ⟨w.heap.size, 2, none⟩ = some (.int .i64 c) ∧ w'.cell? ⟨w.heap.size, 3, none⟩ = some (.int .i64 d)) (go_keep)
      (first
      | (go_at_call 62; refine (orders_any w1.drew).mono ?_; rintro e w2 ⟨rfl, hb2⟩; obtain ⟨y0, y1, y2, y3⟩ := HC.out _ w2 hb2 ⟨p0, p1, p2, p3⟩)
      | (go_at_call 63; refine (HL.out w2).mono ?_; rintro e w3 ⟨rfl, hb3⟩; obtain ⟨x0, x1, x2, x3⟩ := HC.out _ w3 hb3 ⟨y0, y1, y2, y3⟩))
    have HB3 : Hid (Below w.heap.size w w3) := (HB1.out.drew.trans (hb2.mono HB1.out.size)).trans (hb3.mono (Nat.le_trans HB1.out.size hb2.size))
    clear HC hb2 hb3 hix heq
    go_wp2
    go_ret
    refine ⟨?_, HB3.out⟩
    rw [eligAt_5, hp]
    show Ending.returned (Value.bool _) = Ending.returned (Value.bool _)
    congr 2
    rw [Bool.eq_iff_iff]
    obtain ⟨e0, e1, e2, e3⟩ := HE.out
    simp only [Bool.and_eq_true, beq_iff_eq, decide_eq_true_eq, true_and]
    rw [e0, e1, e2, e3]
    by_cases hz0 : d = 0 <;> by_cases hz1 : c = 0 <;> by_cases hz2 : a = 0 <;> simp [hz0, hz1, hz2] <;> omega


set_option maxHeartbeats 1000000 in
theorem toQuad_any (a b c d : Int) (w : World) :
    Calls Tryz.prog 10 #[.agg #[.int .i64 a, .int .i64 b, .int .i64 c, .int .i64 d]] w fun e w' => e = .returned (.agg #[.int .i64 a, .int .i64 b, .int .i64 c, .int .i64 d]) ∧ Below w.heap.size w w' := by
  go_enter Tryz.func10, Tryz.ntmps10
  go_wp2
  refine bodyPost_ret (v := .agg #[.int .i64 a, .int .i64 b, .int .i64 c, .int .i64 d]) (by simp [results, Tryz.results10, go_sem]) rfl ⟨rfl, ?_⟩
  repeat (first | exact Below.refl _ _ | refine bA ?_ | refine bS (by simp <;> omega) ?_)

set_option maxHeartbeats 1000000 in
theorem eligOut (perm : Int) (h : perm < 0 ∨ 5 < perm) (a b c d : Int) (w : World) :
    (Calls Tryz.prog 29 #[.int .i64 perm, .agg #[.int .i64 a, .int .i64 b, .int .i64 c, .int .i64 d]] w fun e w' => e = .returned (.bool false) ∧ Below w.heap.size w w') ∧
    (Calls Tryz.prog 28 #[.int .i64 perm, .agg #[.int .i64 a, .int .i64 b, .int .i64 c, .int .i64 d]] w fun e w' => e = .returned (.bool false) ∧ Below w.heap.size w w') := by
  rcases h with h | h
  · refine ⟨?_, ?_⟩
    · go_enter Tryz.func29, Tryz.ntmps29
      go_wp2
      go_ret
      exact ⟨rfl, below_alloc _ _⟩
    · go_enter Tryz.func28, Tryz.ntmps28
      go_wp2
      go_ret
      exact ⟨rfl, below_alloc _ _⟩
  · have h6 : 6 ≤ perm := by omega
    have h0 : 0 ≤ perm := by omega
    refine ⟨?_, ?_⟩
    · go_enter Tryz.func29, Tryz.ntmps29
      go_wp2
      go_ret
      exact ⟨rfl, below_alloc _ _⟩
    · go_enter Tryz.func28, Tryz.ntmps28
      go_wp2
      go_ret
      exact ⟨rfl, below_alloc _ _⟩

theorem ordLt_0 (i : Nat) (hi : i < 4) : ord0 i < 4 := by
  have h4 : i = 0 ∨ i = 1 ∨ i = 2 ∨ i = 3 := by omega
  rcases h4 with rfl | rfl | rfl | rfl <;> decide
theorem ordLt_1 (i : Nat) (hi : i < 4) : ord1 i < 4 := by
  have h4 : i = 0 ∨ i = 1 ∨ i = 2 ∨ i = 3 := by omega
  rcases h4 with rfl | rfl | rfl | rfl <;> decide
theorem ordLt_2 (i : Nat) (hi : i < 4) : ord2 i < 4 := by
  have h4 : i = 0 ∨ i = 1 ∨ i = 2 ∨ i = 3 := by omega
  rcases h4 with rfl | rfl | rfl | rfl <;> decide
theorem ordLt_3 (i : Nat) (hi : i < 4) : ord3 i < 4 := by
  have h4 : i = 0 ∨ i = 1 ∨ i = 2 ∨ i = 3 := by omega
  rcases h4 with rfl | rfl | rfl | rfl <;> decide
theorem ordLt_4 (i : Nat) (hi : i < 4) : ord4 i < 4 := by
  have h4 : i = 0 ∨ i = 1 ∨ i = 2 ∨ i = 3 := by omega
  rcases h4 with rfl | rfl | rfl | rfl <;> decide
theorem ordLt_5 (i : Nat) (hi : i < 4) : ord5 i < 4 := by
  have h4 : i = 0 ∨ i = 1 ∨ i = 2 ∨ i = 3 := by omega
  rcases h4 with rfl | rfl | rfl | rfl <;> decide

theorem eligBoth (perm a b c d : Int) : ∃ B : Bool, ∀ w,
    (Calls Tryz.prog 29 #[.int .i64 perm, .agg #[.int .i64 a, .int .i64 b, .int .i64 c, .int .i64 d]] w fun e w' => e = .returned (.bool B) ∧ Below w.heap.size w w') ∧
    (Calls Tryz.prog 28 #[.int .i64 perm, .agg #[.int .i64 a, .int .i64 b, .int .i64 c, .int .i64 d]] w fun e w' => e = .returned (.bool B) ∧ Below w.heap.size w w') := by
  by_cases h : perm < 0 ∨ 5 < perm
  · exact ⟨false, fun w => eligOut perm h a b c d w⟩
  have h6 : perm = 0 ∨ perm = 1 ∨ perm = 2 ∨ perm = 3 ∨ perm = 4 ∨ perm = 5 := by omega
  rcases h6 with rfl | rfl | rfl | rfl | rfl | rfl
  · exact ⟨_, fun w => ⟨specElig_any 0 (by omega) (by omega) a b c d ord0 ordLt_0 l5Order_0 w, implElig_0 a b c d w⟩⟩
  · exact ⟨_, fun w => ⟨specElig_any 1 (by omega) (by omega) a b c d ord1 ordLt_1 l5Order_1 w, implElig_1 a b c d w⟩⟩
  · exact ⟨_, fun w => ⟨specElig_any 2 (by omega) (by omega) a b c d ord2 ordLt_2 l5Order_2 w, implElig_2 a b c d w⟩⟩
  · exact ⟨_, fun w => ⟨specElig_any 3 (by omega) (by omega) a b c d ord3 ordLt_3 l5Order_3 w, implElig_3 a b c d w⟩⟩
  · exact ⟨_, fun w => ⟨specElig_any 4 (by omega) (by omega) a b c d ord4 ordLt_4 l5Order_4 w, implElig_4 a b c d w⟩⟩
  · exact ⟨_, fun w => ⟨specElig_any 5 (by omega) (by omega) a b c d ord5 ordLt_5 l5Order_5 w, implElig_5 a b c d w⟩⟩

end Go.Proofs.YtcnollkkigiobaaGreat

namespace Go.Proofs.YtcnollkkigiobaaGreat
open Go.RowKit Go.Deep
set_option linter.unusedVariables false
set_option maxRecDepth 100000

/-- Part i of a pattern in an order. -/
def ptO (j : Nat) (p : Qd) (i : Nat) : Int := partOf p.s p.p p.o p.g (ordF j i)
theorem okTo_congr {x y : Nat → Int} (h : ∀ i, i < 4 → x i = y i) (hx : okTo x 4) : okTo y 4 := by
  intro q hq
  obtain ⟨h1, h2⟩ := hx q hq
  rw [h q hq] at h1 h2
  exact ⟨h1, fun r hr e => h2 r hr (by rw [h r (by omega)]; exact e)⟩
theorem okTo_of {j : Nat} {p : Qd} {o : Nat → Nat} (ho : ∀ i, i < 4 → o i = ordF j i) (h : eligB (fun i => partOf p.s p.p p.o p.g (o i)) = true) : okTo (ptO j p) 4 :=
  okTo_congr (fun i hi => by unfold ptO; rw [ho i hi]) ((eligB_iff _).1 h)
theorem four {P : Nat → Prop} (h0 : P 0) (h1 : P 1) (h2 : P 2) (h3 : P 3) : ∀ i, i < 4 → P i := fun i hi => by
  rcases (show i = 0 ∨ i = 1 ∨ i = 2 ∨ i = 3 by omega) with rfl | rfl | rfl | rfl <;> assumption
/-- Both Eligible answer alike, and what they ask. -/
theorem elig2 (perm : Int) (p : Qd) : ∃ B : Bool, (∀ w,
    (Calls Tryz.prog 29 #[.int .i64 perm, qv p] w fun e w' => e = .returned (.bool B) ∧ Below w.heap.size w w') ∧
    (Calls Tryz.prog 28 #[.int .i64 perm, qv p] w fun e w' => e = .returned (.bool B) ∧ Below w.heap.size w w')) ∧
    (B = true → ∃ j : Nat, j < 6 ∧ perm = (j : Int) ∧ okTo (ptO j p) 4) := by
  obtain ⟨a, b, c, d⟩ := p
  by_cases h : perm < 0 ∨ 5 < perm
  · exact ⟨false, fun w => eligOut perm h a b c d w, fun h => by cases h⟩
  have h6 : perm = 0 ∨ perm = 1 ∨ perm = 2 ∨ perm = 3 ∨ perm = 4 ∨ perm = 5 := by omega
  rcases h6 with rfl | rfl | rfl | rfl | rfl | rfl
  · exact ⟨_, fun w => ⟨specElig_any 0 (by omega) (by omega) a b c d ord0 ordLt_0 l5Order_0 w, implElig_0 a b c d w⟩, fun h => ⟨0, by omega, rfl, okTo_of (four rfl rfl rfl rfl) h⟩⟩
  · exact ⟨_, fun w => ⟨specElig_any 1 (by omega) (by omega) a b c d ord1 ordLt_1 l5Order_1 w, implElig_1 a b c d w⟩, fun h => ⟨1, by omega, rfl, okTo_of (four rfl rfl rfl rfl) h⟩⟩
  · exact ⟨_, fun w => ⟨specElig_any 2 (by omega) (by omega) a b c d ord2 ordLt_2 l5Order_2 w, implElig_2 a b c d w⟩, fun h => ⟨2, by omega, rfl, okTo_of (four rfl rfl rfl rfl) h⟩⟩
  · exact ⟨_, fun w => ⟨specElig_any 3 (by omega) (by omega) a b c d ord3 ordLt_3 l5Order_3 w, implElig_3 a b c d w⟩, fun h => ⟨3, by omega, rfl, okTo_of (four rfl rfl rfl rfl) h⟩⟩
  · exact ⟨_, fun w => ⟨specElig_any 4 (by omega) (by omega) a b c d ord4 ordLt_4 l5Order_4 w, implElig_4 a b c d w⟩, fun h => ⟨4, by omega, rfl, okTo_of (four rfl rfl rfl rfl) h⟩⟩
  · exact ⟨_, fun w => ⟨specElig_any 5 (by omega) (by omega) a b c d ord5 ordLt_5 l5Order_5 w, implElig_5 a b c d w⟩, fun h => ⟨5, by omega, rfl, okTo_of (four rfl rfl rfl rfl) h⟩⟩
end Go.Proofs.YtcnollkkigiobaaGreat

namespace Go.Proofs.YtcnollkkigiobaaGreat
open Go.RowKit Go.Deep
set_option linter.unusedVariables false
set_option maxRecDepth 100000

/-- A part's four bytes. -/
def pkB (x : Int) : ByteArray := (((ByteArray.empty.push (UInt8.ofNat (x / 16777216).toNat)).push (UInt8.ofNat (x / 65536 % 256).toNat)).push (UInt8.ofNat (x / 256 % 256).toNat)).push (UInt8.ofNat (x % 256).toNat)

set_option maxHeartbeats 2000000 in
theorem partKey_any (x : Int) (h0 : 0 ≤ x) (h1 : x < 4294967296) (w : World) : Calls Tryz.prog 110 #[.int .i64 x] w fun e w' => e = .returned (.string (pkB x)) ∧ Below w.heap.size w w' := by
  obtain ⟨W, hW⟩ : ∃ W, W = w.alloc (.cells #[.int .u8 (x / 16777216), .int .u8 (x / 65536 % 256), .int .u8 (x / 256 % 256), .int .u8 (x % 256)] 5) := ⟨_, rfl⟩
  have b := Bx.new w #[.int .u8 (x / 16777216), .int .u8 (x / 65536 % 256), .int .u8 (x / 256 % 256), .int .u8 (x % 256)] 5
  have c0 := b.cell 0
  have c1 := b.cell 1
  have c2 := b.cell 2
  have c3 := b.cell 3
  simp at c0 c1 c2 c3
  have hcv : (convert 47 9 (.slice (some ⟨w.heap.size, 0, none⟩) 4 4)).run Tryz.prog (w.alloc (.cells #[.int .u8 (x / 16777216), .int .u8 (x / 65536 % 256), .int .u8 (x / 256 % 256), .int .u8 (x % 256)] 5)) = .ok (.string (pkB x)) (w.alloc (.cells #[.int .u8 (x / 16777216), .int .u8 (x / 65536 % 256), .int .u8 (x / 256 % 256), .int .u8 (x % 256)] 5)) := by
    rw [run_convert_bytes_string (P := Tryz.prog) _ 47 9 5 _ 4 4 rfl rfl rfl, run_bytesToString _ _ 4 4 [x / 16777216, x / 65536 % 256, x / 256 % 256, x % 256] (by simp [go_sem])]
    rfl
  clear hW W b c0 c1 c2 c3
  go_enter Tryz.func110, Tryz.ntmps110
  go_wp2
  go_ret
  exact ⟨rfl, below_alloc _ _⟩

/-- The bounds once i parts were taken. -/
def spL (x : Nat → Int) : Nat → ByteArray
  | 0 => { data := #[] }
  | i + 1 => spL x i ++ pkB (x i)
def spH (x : Nat → Int) : Nat → ByteArray
  | 0 => { data := #[] }
  | i + 1 => spL x i ++ pkB (x i + 1)
theorem pkB_size (x : Int) : (pkB x).size = 4 := rfl
theorem spL_size (x : Nat → Int) : ∀ i, (spL x i).size = 4 * i
  | 0 => rfl
  | i + 1 => by
    show (spL x i ++ pkB (x i)).size = _
    rw [ByteArray.size_append, spL_size x i, pkB_size]
    omega
theorem qcell (p : Qd) (o : Nat) (ho : o < 4) : (#[.int .i64 p.s, .int .i64 p.p, .int .i64 p.o, .int .i64 p.g] : Array Value)[o]? = some (.int .i64 (partOf p.s p.p p.o p.g o)) := by
  rcases (show o = 0 ∨ o = 1 ∨ o = 2 ∨ o = 3 by omega) with rfl | rfl | rfl | rfl <;> rfl
/-- How many parts lead. -/
def Lead (x : Nat → Int) (m : Nat) : Prop := m ≤ 4 ∧ (∀ i, i < m → x i ≠ 0) ∧ (m < 4 → x m = 0)

set_option maxHeartbeats 4000000 in
theorem span_any (j : Nat) (hj : j < 6) (p : Qd) (m : Nat) (hm : Lead (ptO j p) m) (hr : ∀ i, i < 4 → 0 ≤ ptO j p i ∧ ptO j p i ≤ 2000000000) (w : World) :
    Calls Tryz.prog 72 #[.func (.func (layF j)) #[] #[], qv p] w fun e w' => e = .returned (.tuple #[.string (spL (ptO j p) m), .string (spH (ptO j p) m)]) ∧ Below w.heap.size w w' := by
  have HL : Hid (∀ W : World, Calls Tryz.prog (layF j) #[.pointer (some ⟨w.heap.size, 0, none⟩)] W fun e w' => e = .returned (.agg (ptrA j w.heap.size)) ∧ Below W.heap.size W w') := fun W => lay_any j hj _ W
  have HK : Hid (j < 6 ∧ Lead (ptO j p) m ∧ ∀ i, i < 4 → 0 ≤ ptO j p i ∧ ptO j p i ≤ 2000000000) := ⟨hj, hm, hr⟩
  have heg : ∀ args W, (callFunc (layF j) args).run Tryz.prog W = .ok (.enter (layF j) args) W := fun args W => by
    rcases (show j = 0 ∨ j = 1 ∨ j = 2 ∨ j = 3 ∨ j = 4 ∨ j = 5 by omega) with rfl | rfl | rfl | rfl | rfl | rfl <;> rfl
  have HPK : Hid (∀ (x : Int) (W : World), 0 ≤ x → x < 4294967296 → Calls Tryz.prog 110 #[.int .i64 x] W fun e w' => e = .returned (.string (pkB x)) ∧ Below W.heap.size W w') := fun x W h0 h1 => partKey_any x h0 h1 W
  clear hj hm hr
  unfold qv
  go_enter Tryz.func72, Tryz.ntmps72
  go_wp2_with fail
  (with_reducible refine (HL.out _).mono ?_)
  rintro e w1 ⟨rfl, hw1⟩
  have Q0 : Hid (Bx w1 w.heap.size 34 #[.int .i64 p.s, .int .i64 p.p, .int .i64 p.o, .int .i64 p.g] ∧ Below w.heap.size w w1) := ⟨(hw1.block _ (by simp)).trans (Bx.new w _ _), (below_alloc _ _).trans (hw1.mono (by simp))⟩
  clear hw1 HL
  go_wp2_with fail
  go_loopw [6, 7, 9, 12] (fun lo hi _ i wr => ∃ ii : Nat, ii ≤ m ∧ i = .int .i64 ii ∧ lo = .string (spL (ptO j p) ii) ∧ hi = .string (spH (ptO j p) ii) ∧ Bx wr w.heap.size 34 #[.int .i64 p.s, .int .i64 p.p, .int .i64 p.o, .int .i64 p.g] ∧ Below w.heap.size w wr) (fun _ _ _ i _ => 4 - (intOf i).toNat)
  case atStart => exact ⟨0, Nat.zero_le _, rfl, rfl, rfl, Q0.out⟩
  case round =>
    obtain ⟨i, hi, rfl, rfl, rfl, hq, hb⟩ := hrel
    have QI : Hid (Bx wr w.heap.size 34 #[.int .i64 p.s, .int .i64 p.p, .int .i64 p.o, .int .i64 p.g] ∧ Below w.heap.size w wr) := ⟨hq, hb⟩
    clear hq hb Q0
    by_cases hlt : i < 4
    · have hixp : ∀ W : World, (Instr.index 156 (.agg (ptrA j w.heap.size)) (.int .i64 (i : Int))).run Tryz.prog W = .ok (.pointer (some ⟨w.heap.size, ordF j i, none⟩)) W := fun W => by
        rcases (show i = 0 ∨ i = 1 ∨ i = 2 ∨ i = 3 by omega) with rfl | rfl | rfl | rfl <;> rfl
      have c1 := QI.out.1.cell (ordF j i)
      rw [qcell p _ (ordF_lt j HK.out.1 i hlt)] at c1
      obtain ⟨x, hx⟩ : ∃ x, x = ptO j p i := ⟨_, rfl⟩
      have HX : Hid (x = ptO j p i) := hx
      have hxr := HK.out.2.2 i hlt
      have hxu : partOf p.s p.p p.o p.g (ordF j i) = x := hx.symm
      rw [hxu] at c1
      rw [← hx] at hxr
      obtain ⟨hx0, hx1⟩ := hxr
      clear hx hxu
      by_cases hz : x = 0
      · have hzb : (x == 0) = true := by simp [hz]
        have hzd : decide (x = 0) = true := by simp [hz]
        have HM : Hid (i = m) := by
          rcases Nat.lt_or_ge i m with h | h
          · exact absurd (by rw [← HX.out]; exact hz) (HK.out.2.1.2.1 i h)
          · show i = m
            omega
        go_wp2
        refine bodyPost_ret (v := .tuple #[.string (spL (ptO j p) i), .string (spH (ptO j p) i)]) (by simp [results, Tryz.results72, go_sem]) rfl ?_
        exact ⟨by rw [HM.out], QI.out.2⟩
      · have hzb : (x == 0) = false := by simp [hz]
        have hzd : decide (x = 0) = false := by simp [hz]
        have HM : Hid (i < m) := by
          rcases Nat.lt_or_ge i m with h | h
          · exact h
          · have e : i = m := by omega
            exact absurd (by rw [HX.out, e]; exact HK.out.2.1.2.2 (by omega)) hz
        obtain ⟨lo, hlo⟩ : ∃ lo, lo = spL (ptO j p) i := ⟨_, rfl⟩
        obtain ⟨k1, hk1⟩ : ∃ k1, k1 = pkB (x + 1) := ⟨_, rfl⟩
        obtain ⟨k0, hk0⟩ : ∃ k0, k0 = pkB x := ⟨_, rfl⟩
        have HP1 : Hid (∀ W : World, Calls Tryz.prog 110 #[.int .i64 (x + 1)] W fun e w' => e = .returned (.string k1) ∧ Below W.heap.size W w') := fun W => by rw [hk1]; exact HPK.out (x + 1) W (by omega) (by omega)
        have HP0 : Hid (∀ W : World, Calls Tryz.prog 110 #[.int .i64 x] W fun e w' => e = .returned (.string k0) ∧ Below W.heap.size W w') := fun W => by rw [hk0]; exact HPK.out x W (by omega) (by omega)
        have HL1 : Hid (lo ++ k0 = spL (ptO j p) (i + 1) ∧ lo ++ k1 = spH (ptO j p) (i + 1)) := by
          rw [hlo, hk0, hk1, HX.out]
          exact ⟨rfl, rfl⟩
        have z3 : ¬ (9223372036854775807 : Int) < (lo.size : Int) + (k1.size : Int) := by rw [hlo, hk1, spL_size, pkB_size]; omega
        have z4 : ¬ (9223372036854775807 : Int) < (lo.size : Int) + (k0.size : Int) := by rw [hlo, hk0, spL_size, pkB_size]; omega
        rw [← hlo]
        clear hlo hk1 hk0
        go_wp2_with fail
        (with_reducible refine (HP1.out _).mono ?_)
        rintro e w2 ⟨rfl, hb2⟩
        have c2 : w2.cell? ⟨w.heap.size, ordF j i, none⟩ = some (.int .i64 x) := (hb2.cell (World.block_lt_of_cell? _ _ c1)).trans c1
        have Q2 : Hid (Bx w2 w.heap.size 34 #[.int .i64 p.s, .int .i64 p.p, .int .i64 p.o, .int .i64 p.g] ∧ Below w.heap.size w w2) := ⟨(hb2.block _ QI.out.1.lt).trans QI.out.1, QI.out.2.trans (hb2.mono QI.out.2.size)⟩
        clear hb2 c1
        go_wp2_with fail
        (with_reducible refine (HP0.out _).mono ?_)
        rintro e w3 ⟨rfl, hb3⟩
        have Q3 : Hid (Bx w3 w.heap.size 34 #[.int .i64 p.s, .int .i64 p.p, .int .i64 p.o, .int .i64 p.g] ∧ Below w.heap.size w w3) := ⟨(hb3.block _ Q2.out.1.lt).trans Q2.out.1, Q2.out.2.trans (hb3.mono Q2.out.2.size)⟩
        clear hb3 c2
        go_wp2
        go_roundw
        case rel => exact ⟨i + 1, HM.out, by go_num, by rw [← HL1.out.1], by rw [← HL1.out.2], Q3.out⟩
        case measure => simp [intOf]; omega
    · have HM : Hid (i = m) := by
        have := HK.out.2.1.1
        show i = m
        omega
      obtain rfl : i = 4 := by have := HK.out.2.1.1; omega
      go_wp2
      refine bodyPost_ret (v := .tuple #[.string (spL (ptO j p) 4), .string (spH (ptO j p) 4)]) (by simp [results, Tryz.results72, go_sem]) rfl ?_
      exact ⟨by rw [HM.out], QI.out.2⟩
end Go.Proofs.YtcnollkkigiobaaGreat
