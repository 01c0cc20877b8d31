import Derived.Test.YtfbhlegkpmcfoaaEligB
namespace Go.Proofs.Ytfbhlegkpmcfoaa
open Go.RowKit Go.Deep
set_option linter.unusedVariables false
set_option maxRecDepth 100000


set_option maxHeartbeats 4000000 in
theorem lead_4 (a b c d : Int) (w : World) :
    Calls Try.prog 24 #[.func (.func 55) #[] #[], .agg #[.int .i64 a, .int .i64 b, .int .i64 c, .int .i64 d]] w fun e w' => e = .returned (.agg #[.int .i64 (if d = 0 then 0 else a), .int .i64 (if d = 0 ∨ a = 0 then 0 else b), .int .i64 (if d = 0 ∨ a = 0 ∨ b = 0 then 0 else c), .int .i64 (d)]) ∧ Below w.heap.size w w' := by
  go_enter Try.func24, Try.ntmps24
  go_wp2_with fail
  refine (lay_4 _ _).mono ?_
  rintro e w1 ⟨rfl, hb1⟩
  go_wp2_with fail
  refine (lay_4 _ _).mono ?_
  rintro e w2 ⟨rfl, hb2⟩
  simp only [World.size_alloc] at hb1
  obtain ⟨cA, cB, cC, f1, f2, z2, bel⟩ := box3 (hb1.trans (hb2.mono (by have := hb1.size; simp at this; omega)))
  clear hb1 hb2
  have HS : Hid ((∀ o, w2.cell? ⟨w.heap.size, o, none⟩ = (#[.int .i64 a, .int .i64 b, .int .i64 c, .int .i64 d] : Array Value)[o]?) ∧ (∀ o, w2.cell? ⟨w.heap.size + 1, o, none⟩ = (#[.int .i64 0, .int .i64 0, .int .i64 0, .int .i64 0] : Array Value)[o]?) ∧ (∀ o, w2.cell? ⟨w.heap.size + 1 + 1, o, none⟩ = (#[.int .i64 0, .int .i64 0, .int .i64 0, .int .i64 0] : Array Value)[o]?) ∧ (∀ o, w2.frozen? ⟨w.heap.size + 1, o, none⟩ = false) ∧ (∀ o, w2.frozen? ⟨w.heap.size + 1 + 1, o, none⟩ = false) ∧ Below w.heap.size w w2) := ⟨cA, cB, cC, f1, f2, bel⟩
  clear cA cB cC f1 f2 bel
  go_wp2
  go_loopw [8] (fun i wr => ∃ k : Nat, k ≤ 4 ∧ i = .int .i64 k ∧ ((0 < k → d ≠ 0) ∧ (1 < k → a ≠ 0) ∧ (2 < k → b ≠ 0) ∧ (3 < k → c ≠ 0)) ∧ (wr.cell? ⟨w.heap.size + 1 + 1, 0, none⟩ = some (.int .i64 (if 1 < k then a else 0)) ∧ wr.cell? ⟨w.heap.size + 1 + 1, 1, none⟩ = some (.int .i64 (if 2 < k then b else 0)) ∧ wr.cell? ⟨w.heap.size + 1 + 1, 2, none⟩ = some (.int .i64 (if 3 < k then c else 0)) ∧ wr.cell? ⟨w.heap.size + 1 + 1, 3, none⟩ = some (.int .i64 (if 0 < k then d else 0))) ∧ (wr.cell? ⟨w.heap.size, 0, none⟩ = some (.int .i64 a) ∧ wr.cell? ⟨w.heap.size, 1, none⟩ = some (.int .i64 b) ∧ wr.cell? ⟨w.heap.size, 2, none⟩ = some (.int .i64 c) ∧ wr.cell? ⟨w.heap.size, 3, none⟩ = some (.int .i64 d) ∧ wr.cell? ⟨w2.heap.size, 0, none⟩ = some (.pointer (some ⟨w.heap.size, 3, none⟩)) ∧ wr.cell? ⟨w2.heap.size, 1, none⟩ = some (.pointer (some ⟨w.heap.size, 0, none⟩)) ∧ wr.cell? ⟨w2.heap.size, 2, none⟩ = some (.pointer (some ⟨w.heap.size, 1, none⟩)) ∧ wr.cell? ⟨w2.heap.size, 3, none⟩ = some (.pointer (some ⟨w.heap.size, 2, none⟩)) ∧ wr.cell? ⟨w2.heap.size + 1, 0, none⟩ = some (.pointer (some ⟨w.heap.size + 1 + 1, 3, none⟩)) ∧ wr.cell? ⟨w2.heap.size + 1, 1, none⟩ = some (.pointer (some ⟨w.heap.size + 1 + 1, 0, none⟩)) ∧ wr.cell? ⟨w2.heap.size + 1, 2, none⟩ = some (.pointer (some ⟨w.heap.size + 1 + 1, 1, none⟩)) ∧ wr.cell? ⟨w2.heap.size + 1, 3, none⟩ = some (.pointer (some ⟨w.heap.size + 1 + 1, 2, none⟩)) ∧ wr.cell? ⟨w.heap.size + 1, 0, none⟩ = some (.int .i64 0) ∧ wr.cell? ⟨w.heap.size + 1, 1, none⟩ = some (.int .i64 0) ∧ wr.cell? ⟨w.heap.size + 1, 2, none⟩ = some (.int .i64 0) ∧ wr.cell? ⟨w.heap.size + 1, 3, none⟩ = some (.int .i64 0)) ∧ (∀ o, wr.frozen? ⟨w.heap.size + 1, o, none⟩ = false) ∧ (∀ o, wr.frozen? ⟨w.heap.size + 1 + 1, o, none⟩ = false) ∧ w2.heap.size + 2 ≤ wr.heap.size ∧ Below w.heap.size w wr) (fun i _ => 4 - (intOf i).toNat)
  case atStart =>
    obtain ⟨cA, cB, cC, f1, f2, bel⟩ := HS.out
    have q := box2 (w := w2) (A := #[.pointer (some ⟨w.heap.size, 3, none⟩), .pointer (some ⟨w.heap.size, 0, none⟩), .pointer (some ⟨w.heap.size, 1, none⟩), .pointer (some ⟨w.heap.size, 2, none⟩)]) (B := #[.pointer (some ⟨w.heap.size + 1 + 1, 3, none⟩), .pointer (some ⟨w.heap.size + 1 + 1, 0, none⟩), .pointer (some ⟨w.heap.size + 1 + 1, 1, none⟩), .pointer (some ⟨w.heap.size + 1 + 1, 2, none⟩)]) (t := 81)
    exact ⟨0, Nat.zero_le _, rfl, by simp, ⟨(q.2.2.1 _ _ (by omega)).trans (cC 0), (q.2.2.1 _ _ (by omega)).trans (cC 1), (q.2.2.1 _ _ (by omega)).trans (cC 2), (q.2.2.1 _ _ (by omega)).trans (cC 3)⟩,
      ⟨(q.2.2.1 _ _ (by omega)).trans (cA 0), (q.2.2.1 _ _ (by omega)).trans (cA 1), (q.2.2.1 _ _ (by omega)).trans (cA 2), (q.2.2.1 _ _ (by omega)).trans (cA 3), q.1 0, q.1 1, q.1 2, q.1 3, q.2.1 0, q.2.1 1, q.2.1 2, q.2.1 3, (q.2.2.1 _ _ (by omega)).trans (cB 0), (q.2.2.1 _ _ (by omega)).trans (cB 1), (q.2.2.1 _ _ (by omega)).trans (cB 2), (q.2.2.1 _ _ (by omega)).trans (cB 3)⟩,
      fun o => (q.2.2.2.1 _ _ (by omega)).trans (f1 o), fun o => (q.2.2.2.1 _ _ (by omega)).trans (f2 o), by simp, bA (bA bel)⟩
  case round =>
    clear HS
    obtain ⟨k, hk, rfl, ⟨z0, z1, z2', z3⟩, ⟨l0, l1, l2, l3⟩, ⟨c0, c1, c2, c3, F0, F1, F2, F3, T0, T1, T2, T3, r0, r1, r2, r3⟩, f1, f2, zw, bel⟩ := hrel
    have n1 : ¬ (w.heap.size + 1 + 1 = w2.heap.size) := by omega
    have n2 : ¬ (w.heap.size + 1 + 1 = w2.heap.size + 1) := by omega
    have n3 : ¬ (w2.heap.size = w.heap.size + 1 + 1) := by omega
    have n4 : ¬ (w2.heap.size + 1 = w.heap.size + 1 + 1) := by omega
    have g1 : w.heap.size + 1 < wr.heap.size := by omega
    have g2 : w.heap.size + 1 + 1 < wr.heap.size := by omega
    have BE : Hid (Below w.heap.size w wr) := bel
    have ZW : Hid (w2.heap.size + 2 ≤ wr.heap.size) := zw
    clear bel zw
    have hk5 : k = 0 ∨ k = 1 ∨ k = 2 ∨ k = 3 ∨ k = 4 := by omega
    rcases hk5 with rfl | rfl | rfl | rfl | rfl
    · simp at l0 l1 l2 l3
      clear z0 z1 z2' z3
      by_cases hx : d = 0
      · have hxb : (d != 0) = false := by simp [hx]
        go_wp2
        refine bodyPost_ret (v := .agg #[.int .i64 0, .int .i64 0, .int .i64 0, .int .i64 0]) (by simp [results, Try.results24, go_sem, r0, r1, r2, r3]) rfl ⟨by simp_all, ?_⟩
        have HB := BE.out
        repeat (first | refine bA ?_ | refine bS (by omega) ?_ | refine bD ?_)
        exact HB
      · have hxb : (d != 0) = true := by simp [hx]
        go_wp2
        go_region_held3 (fun w' => w'.cell? ⟨w2.heap.size, 0, none⟩ = some (.pointer (some ⟨w.heap.size, 3, none⟩)) ∧ w'.cell? ⟨w2.heap.size + 1, 0, none⟩ = some (.pointer (some ⟨w.heap.size + 1 + 1, 3, none⟩)) ∧ w'.cell? ⟨w.heap.size, 3, none⟩ = some (.int .i64 d)) (first | exact ⟨keepFar n1 F0, keepFar n2 T0, keepFar (by omega) c3⟩ | go_keep) (fail)
        go_wp2
        go_roundw
        case rel =>
          exact ⟨1, by omega, by go_num, ⟨fun _ => hx, fun h => by omega, fun h => by omega, fun h => by omega⟩,
            ⟨(keepOff (by omega) l0).trans (by simp), (keepOff (by omega) l1).trans (by simp), (keepOff (by omega) l2).trans (by simp), (putIn l3).trans (by simp)⟩,
            ⟨keepFar (by omega) c0, keepFar (by omega) c1, keepFar (by omega) c2, keepFar (by omega) c3, keepFar (by omega) F0, keepFar (by omega) F1, keepFar (by omega) F2, keepFar (by omega) F3, keepFar (by omega) T0, keepFar (by omega) T1, keepFar (by omega) T2, keepFar (by omega) T3, keepFar (by omega) r0, keepFar (by omega) r1, keepFar (by omega) r2, keepFar (by omega) r3⟩,
            fun o => by simpa using f1 o, fun o => by simpa using f2 o, by simpa using ZW.out, bD (bS (by omega) BE.out)⟩
        case measure => simp [intOf]
    · simp at l0 l1 l2 l3
      have y0 : d ≠ 0 := z0 (by omega)
      clear z0 z1 z2' z3
      by_cases hx : a = 0
      · have hxb : (a != 0) = false := by simp [hx]
        go_wp2
        refine bodyPost_ret (v := .agg #[.int .i64 0, .int .i64 0, .int .i64 0, .int .i64 d]) (by simp [results, Try.results24, go_sem, r0, r1, r2, r3]) rfl ⟨by simp_all, ?_⟩
        have HB := BE.out
        repeat (first | refine bA ?_ | refine bS (by omega) ?_ | refine bD ?_)
        exact HB
      · have hxb : (a != 0) = true := by simp [hx]
        go_wp2
        go_region_held3 (fun w' => w'.cell? ⟨w2.heap.size, 1, none⟩ = some (.pointer (some ⟨w.heap.size, 0, none⟩)) ∧ w'.cell? ⟨w2.heap.size + 1, 1, none⟩ = some (.pointer (some ⟨w.heap.size + 1 + 1, 0, none⟩)) ∧ w'.cell? ⟨w.heap.size, 0, none⟩ = some (.int .i64 a)) (first | exact ⟨keepFar n1 F1, keepFar n2 T1, keepFar (by omega) c0⟩ | go_keep) (fail)
        go_wp2
        go_roundw
        case rel =>
          exact ⟨2, by omega, by go_num, ⟨fun _ => y0, fun _ => hx, fun h => by omega, fun h => by omega⟩,
            ⟨(putIn l0).trans (by simp), (keepOff (by omega) l1).trans (by simp), (keepOff (by omega) l2).trans (by simp), (keepOff (by omega) l3).trans (by simp)⟩,
            ⟨keepFar (by omega) c0, keepFar (by omega) c1, keepFar (by omega) c2, keepFar (by omega) c3, keepFar (by omega) F0, keepFar (by omega) F1, keepFar (by omega) F2, keepFar (by omega) F3, keepFar (by omega) T0, keepFar (by omega) T1, keepFar (by omega) T2, keepFar (by omega) T3, keepFar (by omega) r0, keepFar (by omega) r1, keepFar (by omega) r2, keepFar (by omega) r3⟩,
            fun o => by simpa using f1 o, fun o => by simpa using f2 o, by simpa using ZW.out, bD (bS (by omega) BE.out)⟩
        case measure => simp [intOf]
    · simp at l0 l1 l2 l3
      have y0 : d ≠ 0 := z0 (by omega)
      have y1 : a ≠ 0 := z1 (by omega)
      clear z0 z1 z2' z3
      by_cases hx : b = 0
      · have hxb : (b != 0) = false := by simp [hx]
        go_wp2
        refine bodyPost_ret (v := .agg #[.int .i64 a, .int .i64 0, .int .i64 0, .int .i64 d]) (by simp [results, Try.results24, go_sem, r0, r1, r2, r3]) rfl ⟨by simp_all, ?_⟩
        have HB := BE.out
        repeat (first | refine bA ?_ | refine bS (by omega) ?_ | refine bD ?_)
        exact HB
      · have hxb : (b != 0) = true := by simp [hx]
        go_wp2
        go_region_held3 (fun w' => w'.cell? ⟨w2.heap.size, 2, none⟩ = some (.pointer (some ⟨w.heap.size, 1, none⟩)) ∧ w'.cell? ⟨w2.heap.size + 1, 2, none⟩ = some (.pointer (some ⟨w.heap.size + 1 + 1, 1, none⟩)) ∧ w'.cell? ⟨w.heap.size, 1, none⟩ = some (.int .i64 b)) (first | exact ⟨keepFar n1 F2, keepFar n2 T2, keepFar (by omega) c1⟩ | go_keep) (fail)
        go_wp2
        go_roundw
        case rel =>
          exact ⟨3, by omega, by go_num, ⟨fun _ => y0, fun _ => y1, fun _ => hx, fun h => by omega⟩,
            ⟨(keepOff (by omega) l0).trans (by simp), (putIn l1).trans (by simp), (keepOff (by omega) l2).trans (by simp), (keepOff (by omega) l3).trans (by simp)⟩,
            ⟨keepFar (by omega) c0, keepFar (by omega) c1, keepFar (by omega) c2, keepFar (by omega) c3, keepFar (by omega) F0, keepFar (by omega) F1, keepFar (by omega) F2, keepFar (by omega) F3, keepFar (by omega) T0, keepFar (by omega) T1, keepFar (by omega) T2, keepFar (by omega) T3, keepFar (by omega) r0, keepFar (by omega) r1, keepFar (by omega) r2, keepFar (by omega) r3⟩,
            fun o => by simpa using f1 o, fun o => by simpa using f2 o, by simpa using ZW.out, bD (bS (by omega) BE.out)⟩
        case measure => simp [intOf]
    · simp at l0 l1 l2 l3
      have y0 : d ≠ 0 := z0 (by omega)
      have y1 : a ≠ 0 := z1 (by omega)
      have y2 : b ≠ 0 := z2' (by omega)
      clear z0 z1 z2' z3
      by_cases hx : c = 0
      · have hxb : (c != 0) = false := by simp [hx]
        go_wp2
        refine bodyPost_ret (v := .agg #[.int .i64 a, .int .i64 b, .int .i64 0, .int .i64 d]) (by simp [results, Try.results24, go_sem, r0, r1, r2, r3]) rfl ⟨by simp_all, ?_⟩
        have HB := BE.out
        repeat (first | refine bA ?_ | refine bS (by omega) ?_ | refine bD ?_)
        exact HB
      · have hxb : (c != 0) = true := by simp [hx]
        go_wp2
        go_region_held3 (fun w' => w'.cell? ⟨w2.heap.size, 3, none⟩ = some (.pointer (some ⟨w.heap.size, 2, none⟩)) ∧ w'.cell? ⟨w2.heap.size + 1, 3, none⟩ = some (.pointer (some ⟨w.heap.size + 1 + 1, 2, none⟩)) ∧ w'.cell? ⟨w.heap.size, 2, none⟩ = some (.int .i64 c)) (first | exact ⟨keepFar n1 F3, keepFar n2 T3, keepFar (by omega) c2⟩ | go_keep) (fail)
        go_wp2
        go_roundw
        case rel =>
          exact ⟨4, by omega, by go_num, ⟨fun _ => y0, fun _ => y1, fun _ => y2, fun _ => hx⟩,
            ⟨(keepOff (by omega) l0).trans (by simp), (keepOff (by omega) l1).trans (by simp), (putIn l2).trans (by simp), (keepOff (by omega) l3).trans (by simp)⟩,
            ⟨keepFar (by omega) c0, keepFar (by omega) c1, keepFar (by omega) c2, keepFar (by omega) c3, keepFar (by omega) F0, keepFar (by omega) F1, keepFar (by omega) F2, keepFar (by omega) F3, keepFar (by omega) T0, keepFar (by omega) T1, keepFar (by omega) T2, keepFar (by omega) T3, keepFar (by omega) r0, keepFar (by omega) r1, keepFar (by omega) r2, keepFar (by omega) r3⟩,
            fun o => by simpa using f1 o, fun o => by simpa using f2 o, by simpa using ZW.out, bD (bS (by omega) BE.out)⟩
        case measure => simp [intOf]
    · simp at l0 l1 l2 l3
      have y0 : d ≠ 0 := z0 (by omega)
      have y1 : a ≠ 0 := z1 (by omega)
      have y2 : b ≠ 0 := z2' (by omega)
      have y3 : c ≠ 0 := z3 (by omega)
      clear z0 z1 z2' z3
      go_wp2
      refine bodyPost_ret (v := .agg #[.int .i64 a, .int .i64 b, .int .i64 c, .int .i64 d]) (by simp [results, Try.results24, go_sem, r0, r1, r2, r3]) rfl ⟨by simp_all, ?_⟩
      have HB := BE.out
      repeat (first | refine bA ?_ | refine bS (by omega) ?_ | refine bD ?_)
      exact HB


end Go.Proofs.Ytfbhlegkpmcfoaa
