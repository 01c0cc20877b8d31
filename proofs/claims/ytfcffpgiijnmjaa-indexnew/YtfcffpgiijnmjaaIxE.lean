import Derived.Test.YtfcffpgiijnmjaaIxL
namespace Go.Proofs.Ytfcffpgiijnmjaa
open Go.RowKit Go.Deep
set_option linter.unusedVariables false
set_option maxRecDepth 100000

theorem IxOk.keep {w w2 : World} {B g : Nat} {G C : Nat → Nat} {A : Nat → Option Addr} (h : IxOk w B g G C A) (hb : Below w.heap.size w w2) : IxOk w2 B g G C A :=
  ⟨h.le, h.row.of_block (hb.block _ h.row.lt), fun i hi => ⟨(h.each i hi).1, (h.each i hi).2.of_block (hb.block _ (h.each i hi).2.lt)⟩, h.apart⟩
theorem IxOk.mk0 {w : World} {B g : Nat} {G C : Nat → Nat} {A : Nat → Option Addr} (h : IxOk w B g G C A) : IxMk w B g G C A 0 :=
  ⟨h.le, h.row, fun i hi => ⟨(h.each i hi).1, (h.each i hi).2⟩, h.apart⟩

set_option maxHeartbeats 4000000 in
theorem eqTreeS_six (g c B g' c' B' : Nat) (G C G' C' : Nat → Nat) (A A' : Nat → Option Addr) (w : World) (h : IxOk w B g G C A) (h' : IxOk w B' g' G' C' A') :
    Calls Try.prog 48 #[.slice (some ⟨g, 0, none⟩) 6 c, .slice (some ⟨g', 0, none⟩) 6 c'] w fun e w' => e = .returned (.bool true) ∧ Below w.heap.size w w' := by
  have H : Hid (IxOk w B g G C A ∧ IxOk w B' g' G' C' A') := ⟨h, h'⟩
  clear h h'
  go_enter Try.func48, Try.ntmps48
  go_wp2
  go_loopw [5] (fun i wr => ∃ n : Nat, n ≤ 6 ∧ i = .int .i64 n ∧ Below w.heap.size w wr) (fun i _ => 6 - (intOf i).toNat)
  case atStart => exact ⟨0, by omega, rfl, Below.refl _ _⟩
  case round =>
    obtain ⟨n, hn, rfl, hb⟩ := hrel
    have HB : Hid (Below w.heap.size w wr) := hb
    have HA : Hid (IxOk wr B g G C A ∧ IxOk wr B' g' G' C' A') := ⟨H.out.1.keep hb, H.out.2.keep hb⟩
    by_cases hlt : n < 6
    · have hni : (n : Int) < 6 := by omega
      have r1 := HA.out.1.row.cell hlt
      have r2 := HA.out.2.row.cell hlt
      have hsz := hb.size
      clear hb H
      go_wp2
      go_region_with (go_at_call 24; refine (eqTree_one (G n) (G' n) (C n) (C' n) (A n) (A' n) _ (by exact (HA.out.1.each n hlt).2) (by exact (HA.out.2.each n hlt).2)).mono ?_; rintro e w2 ⟨rfl, hb2⟩)
      all_goals
        have HX : Hid (Below w.heap.size w w2) := (HB.out.drew).trans (hb2.mono (by simpa using hsz))
        clear hb2 r1 r2 HA
        go_wp2
        go_roundw
        case rel => exact ⟨n + 1, by omega, by go_num, HX.out⟩
        case measure => simp [intOf]; omega
    · have e : n = 6 := by omega
      subst e
      clear hb H HA
      go_wp2
      go_ret
      exact ⟨rfl, HB.out⟩

set_option maxHeartbeats 1000000 in
theorem eqIndex_six (g c B g' c' B' : Nat) (G C G' C' : Nat → Nat) (A A' : Nat → Option Addr) (w : World) (h : IxOk w B g G C A) (h' : IxOk w B' g' G' C' A') :
    Calls Try.prog 29 #[.agg #[.slice (some ⟨g, 0, none⟩) 6 c], .agg #[.slice (some ⟨g', 0, none⟩) 6 c']] w fun e w' => e = .returned (.bool true) ∧ Below w.heap.size w w' := by
  have H : Hid (∀ o o', IxOk ((w.alloc o).alloc o') B g G C A ∧ IxOk ((w.alloc o).alloc o') B' g' G' C' A') := fun o o' =>
    have q : Below w.heap.size w ((w.alloc o).alloc o') := (below_alloc _ _).trans ((below_alloc _ _).mono (by simp))
    ⟨h.keep q, h'.keep q⟩
  clear h h'
  go_enter Try.func29, Try.ntmps29
  go_wp2_with fail
  refine (eqTreeS_six g c B g' c' B' G C G' C' A A' _ (H.out _ _).1 (H.out _ _).2).mono ?_
  rintro e w1 ⟨rfl, hb1⟩
  have HX : Hid (Below w.heap.size w w1) := ((below_alloc _ _).trans ((below_alloc _ _).mono (by simp))).trans (hb1.mono (by simp; omega))
  clear hb1
  go_wp2
  go_ret
  exact ⟨rfl, HX.out⟩

set_option maxHeartbeats 1000000 in
theorem markIndex_six (g c B : Nat) (G C : Nat → Nat) (A : Nat → Option Addr) (w : World) (h : IxOk w B g G C A) :
    Calls Try.prog 30 #[.agg #[.slice (some ⟨g, 0, none⟩) 6 c], .int .i64 1] w fun e w' => e = .returned (.int .i64 13) ∧ IxMk w' B g G C A 6 ∧ ∃ o, OnlyG G (w.alloc o) w' := by
  have H : Hid (∀ o, IxMk (w.alloc o) B g G C A 0) := fun o => (h.keep (below_alloc _ _)).mk0
  clear h
  go_enter Try.func30, Try.ntmps30
  go_wp2_with fail
  refine (markTreeS_six g c B G C A _ (H.out _)).mono ?_
  rintro e w1 ⟨rfl, hm, ho⟩
  have HX : Hid (IxMk w1 B g G C A 6 ∧ ∃ o, OnlyG G (w.alloc o) w1) := ⟨hm, _, ho⟩
  clear hm ho
  go_wp2
  go_ret
  exact ⟨rfl, HX.out⟩

set_option maxHeartbeats 1000000 in
theorem heldIndex_six (g c B : Nat) (G C : Nat → Nat) (A : Nat → Option Addr) (w : World) (h : IxMk w B g G C A 6) :
    Calls Try.prog 31 #[.agg #[.slice (some ⟨g, 0, none⟩) 6 c], .int .i64 1] w fun e w' => e = .returned (.int .i64 13) ∧ Below w.heap.size w w' := by
  have H : Hid (∀ o, IxMk (w.alloc o) B g G C A 6) := fun o => h.keep (below_alloc _ _)
  clear h
  go_enter Try.func31, Try.ntmps31
  go_wp2_with fail
  refine (heldTreeS_six g c B G C A _ (H.out _)).mono ?_
  rintro e w1 ⟨rfl, hb1⟩
  have HX : Hid (Below w.heap.size w w1) := (below_alloc _ _).trans (hb1.mono (by simp))
  clear hb1
  go_wp2
  go_ret
  exact ⟨rfl, HX.out⟩

set_option maxHeartbeats 2000000 in
theorem ixLaw (w : World) : Calls Try.prog 8 #[] w fun e w' => e = .returned (.bool true) ∧ Below w.heap.size w w' := by
  go_enter Try.func8, Try.ntmps8
  go_wp2_with fail
  refine (specIx _).mono ?_
  rintro e w1 ⟨gs, cs, Gs, Cs, As, rfl, hos, hb1⟩
  have B1 : Hid (Below w.heap.size w w1) := hb1
  have z1 := hb1.size
  have R1 : Hid (IxOk w1 w.heap.size gs Gs Cs As) := hos
  clear hos hb1
  go_wp2_with fail
  refine (implIx _).mono ?_
  rintro e w2 ⟨gi, ci, Gi, Ci, Ai, rfl, hoi, hb2⟩
  rw [World.size_alloc] at hoi hb2
  have z2 : w1.heap.size + 1 ≤ w2.heap.size := by have := hb2.size; simpa using this
  have z12 : w1.heap.size < w2.heap.size := by omega
  have c2 : w2.cell? ⟨w1.heap.size, 0, none⟩ = some (.slice (some ⟨gs, 0, none⟩) 6 cs) := by rw [hb2.cell (p := ⟨w1.heap.size, 0, none⟩) (by show w1.heap.size < w1.heap.size + 1; omega)]; exact cellOf0 (blk_alloc_new _ _)
  have B2 : Hid (Below w1.heap.size w1 w2) := (below_alloc _ _).trans (hb2.mono (by omega))
  have R2 : Hid (IxOk w2 (w1.heap.size + 1) gi Gi Ci Ai) := hoi
  clear hoi hb2
  have K2 : Hid (∀ o, IxOk (w2.alloc o) (w1.heap.size + 1) gi Gi Ci Ai ∧ IxOk (w2.alloc o) w.heap.size gs Gs Cs As) := fun o => ⟨R2.out.keep (below_alloc _ _), (R1.out.keep B2.out).keep (below_alloc _ _)⟩
  go_wp2_with fail
  refine (eqIndex_six gi ci _ gs cs _ Gi Ci Gs Cs Ai As _ (K2.out _).1 (K2.out _).2).mono ?_
  rintro e w3 ⟨rfl, hb3⟩
  rw [World.size_alloc] at hb3
  have z3 : w2.heap.size + 1 ≤ w3.heap.size := by have := hb3.size; simpa using this
  have B3 : Hid (Below w2.heap.size w2 w3) := (below_alloc _ _).trans (hb3.mono (by omega))
  have c3 : w3.cell? ⟨w1.heap.size, 0, none⟩ = some (.slice (some ⟨gs, 0, none⟩) 6 cs) := (B3.out.cell (p := ⟨w1.heap.size, 0, none⟩) (by show w1.heap.size < w2.heap.size; omega)).trans c2
  have d3b : w3.heap[w2.heap.size]? = some (.cells #[.slice (some ⟨gi, 0, none⟩) 6 ci] 48) := (hb3.block _ (by omega)).trans (blk_alloc_new _ _)
  have d3 : w3.cell? ⟨w2.heap.size, 0, none⟩ = some (.slice (some ⟨gi, 0, none⟩) 6 ci) := cellOf0 d3b
  have K3 : Hid (IxOk w3 (w1.heap.size + 1) gi Gi Ci Ai ∧ IxOk w3 w.heap.size gs Gs Cs As) := ⟨R2.out.keep B3.out, (R1.out.keep B2.out).keep B3.out⟩
  have M3 : Hid (Below w.heap.size w w3) := (B1.out.trans (B2.out.mono z1)).trans (B3.out.mono (by omega))
  have L1 : Hid (gs < w1.heap.size ∧ ∀ j, j < 6 → Gs j < w1.heap.size) := ⟨R1.out.row.lt, fun j hj => (R1.out.each j hj).2.lt⟩
  have L2 : Hid (∀ j, j < 6 → w1.heap.size + 1 ≤ Gi j ∧ Gi j < w2.heap.size) := fun j hj => ⟨(R2.out.each j hj).1, (R2.out.each j hj).2.lt⟩
  clear c2 d3b hb3 R1 R2 B1 B2 B3 K2
  go_wp2_with fail
  refine (markIndex_six gi ci _ Gi Ci Ai _ K3.out.1).mono ?_
  rintro e w4 ⟨rfl, hm4, o4, ho4⟩
  have blk : ∀ b, b < w3.heap.size → (∀ j, j < 6 → b ≠ Gi j) → w4.heap[b]? = w3.heap[b]? := fun b hb hne => (ho4.block b (by simp; omega) hne).trans ((below_alloc w3 o4).block b hb)
  have z4 : w3.heap.size + 1 ≤ w4.heap.size := by have := ho4.size; simpa using this
  have c4 : w4.cell? ⟨w1.heap.size, 0, none⟩ = some (.slice (some ⟨gs, 0, none⟩) 6 cs) := (World.cell?_of_block (a := ⟨w1.heap.size, 0, none⟩) (blk w1.heap.size (by omega) (fun j hj e => by have := (L2.out j hj).1; omega))).trans c3
  have d4 : w4.cell? ⟨w2.heap.size, 0, none⟩ = some (.slice (some ⟨gi, 0, none⟩) 6 ci) := (World.cell?_of_block (a := ⟨w2.heap.size, 0, none⟩) (blk w2.heap.size (by omega) (fun j hj e => by have := (L2.out j hj).2; omega))).trans d3
  have K4 : Hid (IxMk w4 (w1.heap.size + 1) gi Gi Ci Ai 6 ∧ IxOk w4 w.heap.size gs Gs Cs As) := by
    have kq : ∀ b, b < w1.heap.size → w4.heap[b]? = w3.heap[b]? := fun b hb => blk b (by omega) (fun j hj e => by have := (L2.out j hj).1; omega)
    exact ⟨hm4, K3.out.2.le, K3.out.2.row.of_block (kq _ L1.out.1), fun j hj => ⟨(K3.out.2.each j hj).1, (K3.out.2.each j hj).2.of_block (kq _ (L1.out.2 j hj))⟩, K3.out.2.apart⟩
  have M4 : Hid (Below w.heap.size w w4) := (M3.out.alloc M3.out.size _).trans (ho4.below (by have := M3.out.size; simp; omega) (fun j hj => by have := (L2.out j hj).1; omega))
  clear hm4 ho4 blk c3 d3 K3 M3
  go_wp2_with fail
  refine (heldIndex_six gi ci _ Gi Ci Ai _ K4.out.1).mono ?_
  rintro e w5 ⟨rfl, hb5⟩
  have z5 := hb5.size
  have c5 : w5.cell? ⟨w1.heap.size, 0, none⟩ = some (.slice (some ⟨gs, 0, none⟩) 6 cs) := (hb5.cell (p := ⟨w1.heap.size, 0, none⟩) (by show w1.heap.size < w4.heap.size; omega)).trans c4
  have K5 : Hid (IxOk w5 w.heap.size gs Gs Cs As) := K4.out.2.keep hb5
  have M5 : Hid (Below w.heap.size w w5) := M4.out.trans (hb5.mono M4.out.size)
  clear hb5 c4 d4 K4 M4
  go_wp2_with fail
  refine (implIx _).mono ?_
  rintro e w6 ⟨gj, cj, Gj, Cj, Aj, rfl, hoj, hb6⟩
  have z6 := hb6.size
  have c6 : w6.cell? ⟨w1.heap.size, 0, none⟩ = some (.slice (some ⟨gs, 0, none⟩) 6 cs) := (hb6.cell (p := ⟨w1.heap.size, 0, none⟩) (by show w1.heap.size < w5.heap.size; omega)).trans c5
  have K6 : Hid (∀ o, IxOk (w6.alloc o) w5.heap.size gj Gj Cj Aj ∧ IxOk (w6.alloc o) w.heap.size gs Gs Cs As) := fun o => ⟨hoj.keep (below_alloc _ _), (K5.out.keep hb6).keep (below_alloc _ _)⟩
  have M6 : Hid (Below w.heap.size w w6) := M5.out.trans (hb6.mono M5.out.size)
  clear hoj hb6 c5 K5 M5
  have z16 : w1.heap.size < w6.heap.size := by omega
  go_wp2_with fail
  refine (eqIndex_six gj cj _ gs cs _ Gj Cj Gs Cs Aj As _ (K6.out _).1 (K6.out _).2).mono ?_
  rintro e w7 ⟨rfl, hb7⟩
  have M7 : Hid (Below w.heap.size w w7) := (M6.out.alloc M6.out.size _).trans (hb7.mono (by have := M6.out.size; simp; omega))
  clear hb7
  go_wp2
  go_ret
  exact ⟨rfl, M7.out⟩
end Go.Proofs.Ytfcffpgiijnmjaa
