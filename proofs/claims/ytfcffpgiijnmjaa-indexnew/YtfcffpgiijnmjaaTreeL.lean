import Derived.Test.YtfcffpgiijnmjaaTreeN
namespace Go.Proofs.Ytfcffpgiijnmjaa
open Go.RowKit Go.Deep
set_option linter.unusedVariables false
set_option maxRecDepth 100000

set_option maxHeartbeats 400000 in
theorem eqStr_nil (a a' : Option Addr) (c c' : Nat) (w : World) :
    Calls Try.prog 65 #[.slice a 0 c, .slice a' 0 c'] w fun e w' => e = .returned (.bool true) ∧ w' = w := by
  go_enter Try.func65, Try.ntmps65
  go_wp2
  go_rounds 1
  go_ret
  exact ⟨rfl, rfl⟩

set_option maxHeartbeats 400000 in
theorem eqI64_nil (a a' : Option Addr) (c c' : Nat) (w : World) :
    Calls Try.prog 66 #[.slice a 0 c, .slice a' 0 c'] w fun e w' => e = .returned (.bool true) ∧ w' = w := by
  go_enter Try.func66, Try.ntmps66
  go_wp2
  go_rounds 1
  go_ret
  exact ⟨rfl, rfl⟩

set_option maxHeartbeats 400000 in
theorem markStr_nil (a : Option Addr) (c : Nat) (k : Int) (w : World) :
    Calls Try.prog 60 #[.slice a 0 c, .int .i64 k] w fun e w' => e = .returned (.int .i64 k) ∧ w' = w := by
  go_enter Try.func60, Try.ntmps60
  go_wp2
  go_rounds 1
  go_ret
  exact ⟨rfl, rfl⟩

set_option maxHeartbeats 400000 in
theorem markI64_nil (a : Option Addr) (c : Nat) (k : Int) (w : World) :
    Calls Try.prog 61 #[.slice a 0 c, .int .i64 k] w fun e w' => e = .returned (.int .i64 k) ∧ w' = w := by
  go_enter Try.func61, Try.ntmps61
  go_wp2
  go_rounds 1
  go_ret
  exact ⟨rfl, rfl⟩

set_option maxHeartbeats 400000 in
theorem heldStr_nil (a : Option Addr) (c : Nat) (k : Int) (w : World) :
    Calls Try.prog 62 #[.slice a 0 c, .int .i64 k] w fun e w' => e = .returned (.int .i64 k) ∧ w' = w := by
  go_enter Try.func62, Try.ntmps62
  go_wp2
  go_rounds 1
  go_ret
  exact ⟨rfl, rfl⟩

set_option maxHeartbeats 400000 in
theorem heldI64_nil (a : Option Addr) (c : Nat) (k : Int) (w : World) :
    Calls Try.prog 63 #[.slice a 0 c, .int .i64 k] w fun e w' => e = .returned (.int .i64 k) ∧ w' = w := by
  go_enter Try.func63, Try.ntmps63
  go_wp2
  go_rounds 1
  go_ret
  exact ⟨rfl, rfl⟩

set_option maxHeartbeats 400000 in
theorem eqLeaf (a a' : Option Addr) (w : World) :
    Calls Try.prog 59 #[.agg #[.bool true, .slice a 0 0, .slice none 0 0, .int .i64 0], .agg #[.bool true, .slice a' 0 0, .slice none 0 0, .int .i64 0]] w fun e w' => e = .returned (.bool true) ∧ Below w.heap.size w w' := by
  go_enter Try.func59, Try.ntmps59
  go_wp2_with fail
  refine (eqStr_nil a a' 0 0 _).mono ?_
  rintro e w1 ⟨rfl, rfl⟩
  go_wp2_with fail
  refine (eqI64_nil none none 0 0 _).mono ?_
  rintro e w1 ⟨rfl, rfl⟩
  go_wp2
  go_ret
  exact ⟨rfl, (below_alloc _ _).trans ((below_alloc _ _).mono (by simp))⟩

set_option maxHeartbeats 1000000 in
theorem eqLeaves (g g' c c' : Nat) (a a' : Option Addr) (w : World) (h : rowIn w g 96 4 (leafCell a)) (h' : rowIn w g' 96 4 (leafCell a')) :
    Calls Try.prog 45 #[.slice (some ⟨g, 0, none⟩) 1 c, .slice (some ⟨g', 0, none⟩) 1 c'] w fun e w' => e = .returned (.bool true) ∧ Below w.heap.size w w' := by
  have H : Hid (rowIn w g 96 4 (leafCell a) ∧ rowIn w g' 96 4 (leafCell a')) := ⟨h, h'⟩
  clear h h'
  go_enter Try.func45, Try.ntmps45
  go_wp2
  go_loopw [5] (fun i wr => ∃ k : Nat, k ≤ 1 ∧ i = .int .i64 k ∧ Below w.heap.size w wr) (fun i _ => 1 - (intOf i).toNat)
  case atStart => exact ⟨0, Nat.zero_le _, rfl, Below.refl _ _⟩
  case round =>
    obtain ⟨k, hk, rfl, hb⟩ := hrel
    by_cases hlt : k < 1
    · have e : k = 0 := by omega
      subst e
      obtain ⟨x0, x1, x2, x3, xf, xl⟩ := leafCells (H.out.1.of_block (hb.block _ H.out.1.lt))
      obtain ⟨y0, y1, y2, y3, yf, yl⟩ := leafCells (H.out.2.of_block (hb.block _ H.out.2.lt))
      have HB : Hid (Below w.heap.size w wr) := hb
      clear hb
      have HC : Hid (∀ w1 : World, Below wr.drew.heap.size wr.drew w1 → (w1.cell? ⟨g, 0, none⟩ = some (.bool true) ∧ w1.cell? ⟨g, 1, none⟩ = some (.slice a 0 0) ∧ w1.cell? ⟨g, 2, none⟩ = some (.slice none 0 0) ∧ w1.cell? ⟨g, 3, none⟩ = some (.int .i64 0)) ∧ w1.cell? ⟨g', 0, none⟩ = some (.bool true) ∧ w1.cell? ⟨g', 1, none⟩ = some (.slice a' 0 0) ∧ w1.cell? ⟨g', 2, none⟩ = some (.slice none 0 0) ∧ w1.cell? ⟨g', 3, none⟩ = some (.int .i64 0)) := fun w1 q =>
        ⟨⟨(q.cell (p := ⟨g, 0, none⟩) xl).trans x0, (q.cell (p := ⟨g, 1, none⟩) xl).trans x1, (q.cell (p := ⟨g, 2, none⟩) xl).trans x2, (q.cell (p := ⟨g, 3, none⟩) xl).trans x3⟩, (q.cell (p := ⟨g', 0, none⟩) yl).trans y0, (q.cell (p := ⟨g', 1, none⟩) yl).trans y1, (q.cell (p := ⟨g', 2, none⟩) yl).trans y2, (q.cell (p := ⟨g', 3, none⟩) yl).trans y3⟩
      go_wp2
      go_region_held3 (fun w1 => (w1.cell? ⟨g, 0, none⟩ = some (.bool true) ∧ w1.cell? ⟨g, 1, none⟩ = some (.slice a 0 0) ∧ w1.cell? ⟨g, 2, none⟩ = some (.slice none 0 0) ∧ w1.cell? ⟨g, 3, none⟩ = some (.int .i64 0)) ∧ w1.cell? ⟨g', 0, none⟩ = some (.bool true) ∧ w1.cell? ⟨g', 1, none⟩ = some (.slice a' 0 0) ∧ w1.cell? ⟨g', 2, none⟩ = some (.slice none 0 0) ∧ w1.cell? ⟨g', 3, none⟩ = some (.int .i64 0)) (go_keep)
        (first
        | (go_at_call 59; refine (eqLeaf a a' wr.drew).mono ?_; rintro e w1 ⟨rfl, hb1⟩; obtain ⟨⟨z0, z1, z2, z3⟩, u0, u1, u2, u3⟩ := HC.out w1 hb1))
      have HX : Hid (Below w.heap.size w w1) := HB.out.drew.trans (hb1.mono HB.out.size)
      clear hb1 z0 z1 z2 z3 u0 u1 u2 u3 HC
      go_wp2
      go_roundw
      case rel => exact ⟨1, by omega, by go_num, HX.out⟩
      case measure => simp [intOf]
    · have e : k = 1 := by omega
      subst e
      have HB : Hid (Below w.heap.size w wr) := hb
      clear hb
      go_wp2
      go_ret
      exact ⟨rfl, HB.out⟩

set_option maxHeartbeats 400000 in
theorem eqTree_one (g g' c c' : Nat) (a a' : Option Addr) (w : World) (h : rowIn w g 96 4 (leafCell a)) (h' : rowIn w g' 96 4 (leafCell a')) :
    Calls Try.prog 24 #[.agg #[.slice (some ⟨g, 0, none⟩) 1 c], .agg #[.slice (some ⟨g', 0, none⟩) 1 c']] w fun e w' => e = .returned (.bool true) ∧ Below w.heap.size w w' := by
  have H : Hid (∀ o o', rowIn ((w.alloc o).alloc o') g 96 4 (leafCell a) ∧ rowIn ((w.alloc o).alloc o') g' 96 4 (leafCell a')) := fun o o' =>
    have q : Below w.heap.size w ((w.alloc o).alloc o') := (below_alloc _ _).trans ((below_alloc _ _).mono (by simp))
    ⟨h.of_block (q.block _ h.lt), h'.of_block (q.block _ h'.lt)⟩
  clear h h'
  go_enter Try.func24, Try.ntmps24
  go_wp2_with fail
  refine (eqLeaves g g' c c' a a' _ (H.out _ _).1 (H.out _ _).2).mono ?_
  rintro e w1 ⟨rfl, hb1⟩
  have HX : Hid (Below w.heap.size w w1) := ((below_alloc _ _).trans ((below_alloc _ _).mono (by simp))).trans (hb1.mono (by simp; omega))
  clear hb1
  go_wp2
  go_ret
  exact ⟨rfl, HX.out⟩

/-- The leaf's cells marked from k on. -/
def markCell (a : Option Addr) (k : Int) (i : Nat) : Value := if i = 0 then .bool (k % 3 == 0) else if i = 1 then .slice a 0 0 else if i = 2 then .slice none 0 0 else .int .i64 (k + 1)
theorem markCells {w : World} {b : Nat} {a : Option Addr} {k : Int} (h : rowIn w b 96 4 (markCell a k)) :
    w.cell? ⟨b, 0, none⟩ = some (.bool (k % 3 == 0)) ∧ w.cell? ⟨b, 1, none⟩ = some (.slice a 0 0) ∧ w.cell? ⟨b, 2, none⟩ = some (.slice none 0 0) ∧ w.cell? ⟨b, 3, none⟩ = some (.int .i64 (k + 1)) ∧ (∀ o, w.frozen? ⟨b, o, none⟩ = false) ∧ b < w.heap.size :=
  ⟨by simpa [markCell] using rowIn.cell h (i := 0) (by omega), by simpa [markCell] using rowIn.cell h (i := 1) (by omega), by simpa [markCell] using rowIn.cell h (i := 2) (by omega), by simpa [markCell] using rowIn.cell h (i := 3) (by omega), fun o => rowIn.frozen h o, rowIn.lt h⟩

set_option maxHeartbeats 1000000 in
theorem markLeaf (g c : Nat) (a : Option Addr) (w : World) (h : rowIn w g 96 4 (leafCell a)) :
    Calls Try.prog 46 #[.slice (some ⟨g, 0, none⟩) 1 c, .int .i64 1] w fun e w' => e = .returned (.int .i64 3) ∧ rowIn w' g 96 4 (markCell a 1) ∧ OnlyAt (some ⟨g, 0, none⟩) w w' := by
  obtain ⟨x0, x1, x2, x3, xf, xl⟩ := leafCells h
  have H : Hid (rowIn ((w.setCell ⟨g, 0, none⟩ (.bool false)).setCell ⟨g, 3, none⟩ (.int .i64 2)) g 96 4 (markCell a 1)) := by
    refine (rowIn.set (rowIn.set h 0 _) 3 _).congr (fun i hi => ?_)
    match i, hi with
    | 0, _ => simp [markCell]
    | 1, _ => simp [leafCell, markCell]
    | 2, _ => simp [leafCell, markCell]
    | 3, _ => simp [markCell]
  clear h
  go_enter Try.func46, Try.ntmps46
  go_wp2
  refine wp_loop_rounds 2 ?_
  rw [rounds_succ]
  go_wp2_with fail
  refine (markStr_nil a 0 _ _).mono ?_
  rintro e w1 ⟨rfl, rfl⟩
  go_wp2_with fail
  refine (markI64_nil none 0 _ _).mono ?_
  rintro e w1 ⟨rfl, rfl⟩
  go_wp2
  rw [rounds_succ]
  go_wp2
  go_ret
  exact ⟨rfl, H.out, ((OnlyAt.refl _ _).setCell 0 _).setCell 3 _⟩

set_option maxHeartbeats 1000000 in
theorem heldLeaf (g c : Nat) (a : Option Addr) (w : World) (h : rowIn w g 96 4 (markCell a 1)) :
    Calls Try.prog 47 #[.slice (some ⟨g, 0, none⟩) 1 c, .int .i64 1] w fun e w' => e = .returned (.int .i64 3) ∧ w' = w := by
  obtain ⟨x0, x1, x2, x3, xf, xl⟩ := markCells h
  simp at x0 x3
  clear h
  go_enter Try.func47, Try.ntmps47
  go_wp2
  refine wp_loop_rounds 2 ?_
  rw [rounds_succ]
  go_wp2_with fail
  refine (heldStr_nil a 0 _ _).mono ?_
  rintro e w1 ⟨rfl, rfl⟩
  go_wp2_with fail
  refine (heldI64_nil none 0 _ _).mono ?_
  rintro e w1 ⟨rfl, rfl⟩
  go_wp2
  rw [rounds_succ]
  go_wp2
  go_ret
  exact ⟨rfl, rfl⟩

set_option maxHeartbeats 400000 in
theorem markTree_one (g c : Nat) (a : Option Addr) (w : World) (h : rowIn w g 96 4 (leafCell a)) :
    Calls Try.prog 25 #[.agg #[.slice (some ⟨g, 0, none⟩) 1 c], .int .i64 1] w fun e w' => e = .returned (.int .i64 3) ∧ rowIn w' g 96 4 (markCell a 1) ∧ ∃ o, OnlyAt (some ⟨g, 0, none⟩) (w.alloc o) w' := by
  have H : Hid (∀ o, rowIn (w.alloc o) g 96 4 (leafCell a)) := fun o => h.of_block ((below_alloc _ _).block _ h.lt)
  clear h
  go_enter Try.func25, Try.ntmps25
  go_wp2_with fail
  refine (markLeaf g c a _ (H.out _)).mono ?_
  rintro e w1 ⟨rfl, hr, ho⟩
  have HX : Hid (rowIn w1 g 96 4 (markCell a 1) ∧ ∃ o, OnlyAt (some ⟨g, 0, none⟩) (w.alloc o) w1) := ⟨hr, _, ho⟩
  clear hr ho
  go_wp2
  go_ret
  exact ⟨rfl, HX.out⟩

set_option maxHeartbeats 400000 in
theorem heldTree_one (g c : Nat) (a : Option Addr) (w : World) (h : rowIn w g 96 4 (markCell a 1)) :
    Calls Try.prog 26 #[.agg #[.slice (some ⟨g, 0, none⟩) 1 c], .int .i64 1] w fun e w' => e = .returned (.int .i64 3) ∧ Below w.heap.size w w' := by
  have H : Hid (∀ o, rowIn (w.alloc o) g 96 4 (markCell a 1)) := fun o => h.of_block ((below_alloc _ _).block _ h.lt)
  clear h
  go_enter Try.func26, Try.ntmps26
  go_wp2_with fail
  refine (heldLeaf g c a _ (H.out _)).mono ?_
  rintro e w1 ⟨rfl, rfl⟩
  go_wp2
  go_ret
  exact ⟨rfl, below_alloc _ _⟩

set_option maxHeartbeats 1000000 in
theorem tLaw (w : World) : Calls Try.prog 7 #[] w fun e w' => e = .returned (.bool true) ∧ Below w.heap.size w w' := by
  go_enter Try.func7, Try.ntmps7
  go_wp2_with fail
  refine (specTree_new _).mono ?_
  rintro e w1 ⟨⟨v, rfl, gs, aS, cs, rfl, hgs, hrs⟩, hb1⟩
  have B1 : Hid (Below w.heap.size w w1) := hb1
  have z1 := hb1.size
  have R1 : Hid (rowIn w1 gs 96 4 (leafCell aS)) := hrs
  clear hrs hb1
  go_wp2_with fail
  refine (implTree_new _).mono ?_
  rintro e w2 ⟨⟨v, rfl, gi, ai, ci, rfl, hgi, hri⟩, hb2⟩
  rw [World.size_alloc] at hgi hb2
  have z2 : w1.heap.size + 1 ≤ w2.heap.size := by have := hb2.size; simpa using this
  have z12 : w1.heap.size < w2.heap.size := by omega
  have c2 : w2.cell? ⟨w1.heap.size, 0, none⟩ = some (.slice (some ⟨gs, 0, none⟩) 1 cs) := by rw [hb2.cell (by simp)]; simp
  have B2 : Hid (Below w1.heap.size w1 w2) := (below_alloc _ _).trans (hb2.mono (by omega))
  have R2 : Hid (rowIn w2 gi 96 4 (leafCell ai)) := hri
  have hli := hri.lt
  clear hri hb2
  have K2 : Hid (∀ o, rowIn (w2.alloc o) gi 96 4 (leafCell ai) ∧ rowIn (w2.alloc o) gs 96 4 (leafCell aS)) := fun o => ⟨R2.out.of_block ((below_alloc _ _).block _ R2.out.lt), R1.out.of_block (((below_alloc w2 o).block _ (by have := R1.out.lt; omega)).trans (B2.out.block _ R1.out.lt))⟩
  go_wp2_with fail
  refine (eqTree_one gi gs ci cs ai aS _ (K2.out _).1 (K2.out _).2).mono ?_
  rintro e w3 ⟨rfl, hb3⟩
  rw [World.size_alloc] at hb3
  have z3 : w2.heap.size + 1 ≤ w3.heap.size := by have := hb3.size; simpa using this
  have hls := R1.out.lt
  have B3 : Hid (Below w2.heap.size w2 w3) := (below_alloc _ _).trans (hb3.mono (by omega))
  have c3 : w3.cell? ⟨w1.heap.size, 0, none⟩ = some (.slice (some ⟨gs, 0, none⟩) 1 cs) := (B3.out.cell (p := ⟨w1.heap.size, 0, none⟩) (by show w1.heap.size < w2.heap.size; omega)).trans c2
  have d3 : w3.cell? ⟨w2.heap.size, 0, none⟩ = some (.slice (some ⟨gi, 0, none⟩) 1 ci) := by rw [hb3.cell (by simp)]; simp
  have K3 : Hid (rowIn w3 gi 96 4 (leafCell ai) ∧ rowIn w3 gs 96 4 (leafCell aS)) := ⟨R2.out.of_block (B3.out.block _ hli), R1.out.of_block ((B3.out.block _ (by omega)).trans (B2.out.block _ hls))⟩
  have M3 : Hid (Below w.heap.size w w3) := (B1.out.trans (B2.out.mono z1)).trans (B3.out.mono (by omega))
  clear hb3 c2 K2
  go_wp2_with fail
  refine (markTree_one gi ci ai _ K3.out.1).mono ?_
  rintro e w4 ⟨rfl, hr4, o4, ho4⟩
  have z4 : w4.heap.size = w3.heap.size + 1 := by have := ho4.size; simpa using this
  have blk : ∀ k, k < w3.heap.size → k ≠ gi → w4.heap[k]? = w3.heap[k]? := fun k hk hne => (ho4.block k (fun x e => by injection e with e; subst e; exact fun e => hne e.symm)).trans (Below.heap_alloc _ _ _ hk)
  have c4 : w4.cell? ⟨w1.heap.size, 0, none⟩ = some (.slice (some ⟨gs, 0, none⟩) 1 cs) := (World.cell?_of_block (a := ⟨w1.heap.size, 0, none⟩) (blk w1.heap.size (by omega) (by omega))).trans c3
  have d4 : w4.cell? ⟨w2.heap.size, 0, none⟩ = some (.slice (some ⟨gi, 0, none⟩) 1 ci) := (World.cell?_of_block (a := ⟨w2.heap.size, 0, none⟩) (blk w2.heap.size (by omega) (by omega))).trans d3
  have K4 : Hid (rowIn w4 gi 96 4 (markCell ai 1) ∧ rowIn w4 gs 96 4 (leafCell aS)) := ⟨hr4, K3.out.2.of_block (blk _ (by omega) (by omega))⟩
  have M4 : Hid (Below w.heap.size w w4) := (M3.out.alloc M3.out.size _).trans (ho4.below (fun x e => by injection e with e; subst e; show w.heap.size ≤ gi; omega))
  clear hr4 ho4 blk c3 d3 K3 M3
  go_wp2_with fail
  refine (heldTree_one gi ci ai _ K4.out.1).mono ?_
  rintro e w5 ⟨rfl, hb5⟩
  have z5 := hb5.size
  have c5 : w5.cell? ⟨w1.heap.size, 0, none⟩ = some (.slice (some ⟨gs, 0, none⟩) 1 cs) := (hb5.cell (p := ⟨w1.heap.size, 0, none⟩) (by show w1.heap.size < w4.heap.size; omega)).trans c4
  have K5 : Hid (rowIn w5 gs 96 4 (leafCell aS)) := K4.out.2.of_block (hb5.block _ K4.out.2.lt)
  have M5 : Hid (Below w.heap.size w w5) := M4.out.trans (hb5.mono M4.out.size)
  clear hb5 c4 d4 K4 M4
  go_wp2_with fail
  refine (implTree_new _).mono ?_
  rintro e w6 ⟨⟨v, rfl, gj, aj, cj, rfl, hgj, hrj⟩, hb6⟩
  have z6 := hb6.size
  have c6 : w6.cell? ⟨w1.heap.size, 0, none⟩ = some (.slice (some ⟨gs, 0, none⟩) 1 cs) := (hb6.cell (p := ⟨w1.heap.size, 0, none⟩) (by show w1.heap.size < w5.heap.size; omega)).trans c5
  have K6 : Hid (∀ o, rowIn (w6.alloc o) gj 96 4 (leafCell aj) ∧ rowIn (w6.alloc o) gs 96 4 (leafCell aS)) := fun o => ⟨hrj.of_block ((below_alloc _ _).block _ hrj.lt), K5.out.of_block (((below_alloc w6 o).block _ (by have := K5.out.lt; omega)).trans (hb6.block _ K5.out.lt))⟩
  have M6 : Hid (Below w.heap.size w w6) := M5.out.trans (hb6.mono M5.out.size)
  clear hrj hb6 c5 K5 M5
  have z16 : w1.heap.size < w6.heap.size := by omega
  go_wp2_with fail
  refine (eqTree_one gj gs cj cs aj aS _ (K6.out _).1 (K6.out _).2).mono ?_
  rintro e w7 ⟨rfl, hb7⟩
  have M7 : Hid (Below w.heap.size w w7) := (M6.out.alloc M6.out.size _).trans (hb7.mono (by have := M6.out.size; simp; omega))
  clear hb7
  go_wp2
  go_ret
  exact ⟨rfl, M7.out⟩
end Go.Proofs.Ytfcffpgiijnmjaa
