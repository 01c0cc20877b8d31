import Derived.Test.YtfbhlegkpmcfoaaSupI
namespace Go.Proofs.Ytfbhlegkpmcfoaa
open Go.RowKit Go.Deep
set_option linter.unusedVariables false
set_option maxRecDepth 100000

set_option maxHeartbeats 400000 in
theorem eqSuper_yes (G A Fi : Int) (w : World) : Calls Try.prog 33 #[.agg #[.int .i64 G, .int .i64 A, .int .i64 Fi], .agg #[.int .i64 G, .int .i64 A, .int .i64 Fi]] w fun e w' => e = .returned (.bool true) ∧ Below w.heap.size w w' := by
  have h1 : (G != G) = false := by simp
  have h2 : (A != A) = false := by simp
  have h3 : (Fi != Fi) = false := by simp
  go_enter Try.func33, Try.ntmps33
  go_wp2
  go_ret
  exact ⟨rfl, below2 _ _ _⟩

set_option maxHeartbeats 400000 in
theorem eqSuperRes_yes (k : Bool) (G A Fi : Int) (w : World) : Calls Try.prog 13 #[.agg #[.bool k, .int .i64 G, .int .i64 A, .int .i64 Fi], .agg #[.bool k, .int .i64 G, .int .i64 A, .int .i64 Fi]] w fun e w' => e = .returned (.bool true) ∧ Below w.heap.size w w' := by
  have h1 : (!(k == k)) = false := by simp
  go_enter Try.func13, Try.ntmps13
  go_wp2_with fail
  refine (eqSuper_yes G A Fi _).mono ?_
  rintro e w1 ⟨rfl, hb1⟩
  have HB : Hid (Below w.heap.size w w1) := (below2 _ _ _).trans (hb1.mono (by simp; omega))
  clear hb1
  go_wp2
  go_ret
  exact ⟨rfl, HB.out⟩

set_option maxHeartbeats 4000000 in
theorem sLaw0 (a p : Option Addr) (n c m q : Nat) (d S : Nat → Int) (L : Nat → Nat) (F : Nat → Nat → Int) (fuel : Int) (dead : Bool) (w : World) (ha : Rd .u8 w a n d) (hp : RdP w p m S L F) (hn : n ≤ maxLen) (hm : m ≤ maxLen) (hL : ∀ i, i < m → L i ≤ maxLen) (k : Bool) (G A Fi : Int)
    (hspec : n ≤ 1048576 → m ≤ 1048576 → ∀ W a p, Rd .u8 W a n d → RdP W p m S L F → Calls Try.prog 10 #[.agg #[.slice a n n, .slice p m m, .int .i64 fuel, .bool dead]] W fun e w' => e = .returned (.agg #[.bool k, .int .i64 G, .int .i64 A, .int .i64 Fi]) ∧ Below W.heap.size W w')
    (himpl : n ≤ 1048576 → m ≤ 1048576 → ∀ W a p, Rd .u8 W a n d → RdP W p m S L F → Calls Try.prog 12 #[.agg #[.slice a n n, .slice p m m, .int .i64 fuel, .bool dead]] W fun e w' => e = .returned (.agg #[.bool k, .int .i64 G, .int .i64 A, .int .i64 Fi]) ∧ Below W.heap.size W w') :
    Calls Try.prog 4 #[.agg #[.slice a n c, .slice p m q, .int .i64 fuel, .bool dead]] w fun e w' => e = .returned (.bool true) ∧ Below w.heap.size w w' := by
  have HA : Hid (Rd .u8 w a n d) := ha
  have HP : Hid (RdP w p m S L F) := hp
  have HL : Hid (∀ i, i < m → L i ≤ maxLen) := hL
  have HSP : Hid (n ≤ 1048576 → m ≤ 1048576 → ∀ W a p, Rd .u8 W a n d → RdP W p m S L F → Calls Try.prog 10 #[.agg #[.slice a n n, .slice p m m, .int .i64 fuel, .bool dead]] W fun e w' => e = .returned (.agg #[.bool k, .int .i64 G, .int .i64 A, .int .i64 Fi]) ∧ Below W.heap.size W w') := hspec
  have HIM : Hid (n ≤ 1048576 → m ≤ 1048576 → ∀ W a p, Rd .u8 W a n d → RdP W p m S L F → Calls Try.prog 12 #[.agg #[.slice a n n, .slice p m m, .int .i64 fuel, .bool dead]] W fun e w' => e = .returned (.agg #[.bool k, .int .i64 G, .int .i64 A, .int .i64 Fi]) ∧ Below W.heap.size W w') := himpl
  clear ha hp hL hspec himpl
  go_enter Try.func4, Try.ntmps4
  go_wp2_with fail
  refine (szDisk_any a p n c m q S L F fuel dead _ hn (HP.out.below (below_alloc _ _)) hm HL.out).mono ?_
  rintro e w1 ⟨r, rfl, hr, hb1⟩
  rw [show ∀ O, (w.alloc O).heap.size = w.heap.size + 1 from fun O => by simp] at hb1
  have K1 : Hid (Below (w.heap.size + 1) (w.alloc _) w1) := hb1
  have HJ : Hid (∀ {W : World}, Below (w.heap.size + 1) (w.alloc (.cells #[.slice a n c, .slice p m q, .int .i64 fuel, .bool dead] 31)) W → Below w.heap.size w W) := fun h => (below_alloc _ _).trans (h.mono (by omega))
  obtain ⟨x0, x1, x2, x3, xz1⟩ := box4 hb1
  clear hb1
  rcases hr with rfl | ⟨hr0, hn1, hm1, hL1⟩
  · clear x0 x1 x2 x3
    go_wp2
    go_ret
    exact ⟨rfl, HJ.out K1.out⟩
  have hr1 : ¬ r < 0 := by omega
  have HL1 : Hid (∀ i, i < m → L i ≤ 1048576) := hL1
  clear hL1 hn hm
  go_wp2_with fail
  refine (toDisk_any a p n c m q d S L F fuel dead w1 (HA.out.below (HJ.out K1.out)) (HP.out.below (HJ.out K1.out)) hn1 hm1 HL1.out).mono ?_
  rintro e w2 ⟨a2, c2, p2, q2, A2, rfl, ho2, hb2, hc2, hq2⟩
  rw [hc2, hq2]
  have K2 : Hid (Below (w.heap.size + 1) (w.alloc _) w2) := K1.out.trans (hb2.mono (by omega))
  have H2 : Hid (Rd .u8 w2 a2 n d ∧ RdP w2 p2 m S L F) := ⟨ho2.data.rd, ho2.cache.rd⟩
  clear x0 x1 x2 x3 ho2 hb2 hc2 hq2
  go_wp2_with fail
  refine (HSP.out hn1 hm1 w2 a2 p2 H2.out.1 H2.out.2).mono ?_
  rintro e w3 ⟨rfl, hb3⟩
  have z2 : w.heap.size + 1 ≤ w2.heap.size := by have := K2.out.size; simpa using this
  have K3 : Hid (Below (w.heap.size + 1) (w.alloc _) w3) := K2.out.trans (hb3.mono z2)
  have z3 := hb3.size
  obtain ⟨x0, x1, x2, x3, xz3⟩ := box4 K3.out
  clear hb3
  go_wp2_with fail
  refine (toDisk_any a p n c m q d S L F fuel dead _ ((HA.out.below (HJ.out K3.out)).below (below_alloc _ _)) ((HP.out.below (HJ.out K3.out)).below (below_alloc _ _)) hn1 hm1 HL1.out).mono ?_
  rintro e w4 ⟨a4, c4, p4, q4, A4, rfl, ho4, hb4, hc4, hq4⟩
  rw [hc4, hq4]
  rw [World.size_alloc] at hb4 ho4
  obtain ⟨s0, s1, s2, s3, sz⟩ := box4 hb4
  have K4 : Hid (Below (w.heap.size + 1) (w.alloc _) w4) := (K3.out.alloc (by first | omega | (simp; omega)) _).trans (hb4.mono (by omega))
  have H4 : Hid (OwnD w4 (w3.heap.size + 1) a4 n d p4 m S L F A4) := ho4
  have L4 : Hid (Below (w3.heap.size + 1) (w3.alloc (.cells #[.bool k, .int .i64 G, .int .i64 A, .int .i64 Fi] 36)) w4) := hb4
  have z4 : w3.heap.size + 1 ≤ w4.heap.size := by have := hb4.size; simpa using this
  clear x0 x1 x2 x3 ho4 hb4 hc4 hq4 s0 s1 s2 s3
  go_wp2_with fail
  refine (HIM.out hn1 hm1 _ a4 p4 (H4.out.data.rd.below (below_alloc _ _)) (H4.out.cache.rd.below (below_alloc _ _))).mono ?_
  rintro e w5 ⟨rfl, hb5⟩
  rw [World.size_alloc] at hb5
  have K5 : Hid (Below (w.heap.size + 1) (w.alloc _) w5) := (K4.out.alloc (by have := K4.out.size; simpa using this) _).trans (hb5.mono (by omega))
  have H5 : Hid (OwnD w5 (w3.heap.size + 1) a4 n d p4 m S L F A4) := (H4.out.below (below_alloc _ _)).below (hb5.mono (by simp))
  have L5 : Hid (Below (w4.heap.size + 1) (w4.alloc (.cells #[.slice a4 n n, .slice p4 m m, .int .i64 fuel, .bool dead] 40)) w5) := hb5
  have M5 : Hid (Below (w3.heap.size + 1) (w3.alloc (.cells #[.bool k, .int .i64 G, .int .i64 A, .int .i64 Fi] 36)) w5) := (L4.out.alloc (by simpa using z4) _).trans (hb5.mono (by omega))
  have z5 : w4.heap.size + 1 ≤ w5.heap.size := by have := hb5.size; simpa using this
  obtain ⟨s0, s1, s2, s3, sz⟩ := box4 M5.out
  clear hb5
  have hz35 : w3.heap.size < w5.heap.size := by omega
  go_wp2_with fail
  refine (eqSuperRes_yes k G A Fi _).mono ?_
  rintro e w6 ⟨rfl, hb6⟩
  rw [World.size_alloc] at hb6
  have N6 : Below w5.heap.size w5 w6 := (below_alloc _ _).trans (hb6.mono (by omega))
  have z6 := N6.size
  have K6 : Hid (Below (w.heap.size + 1) (w.alloc _) w6) := K5.out.trans (N6.mono (by omega))
  have H6 : Hid (OwnD w6 (w3.heap.size + 1) a4 n d p4 m S L F A4) := H5.out.below N6
  have L6 : Hid (Below (w4.heap.size + 1) (w4.alloc (.cells #[.slice a4 n n, .slice p4 m m, .int .i64 fuel, .bool dead] 40)) w6) := L5.out.trans (N6.mono z5)
  have R6 : Hid (Rd .u8 w6 a n d ∧ RdP w6 p m S L F) := ⟨HA.out.below (HJ.out K6.out), HP.out.below (HJ.out K6.out)⟩
  clear hb6 N6 s0 s1 s2 s3
  obtain ⟨x0, x1, x2, x3, xz6⟩ := box4 K6.out
  obtain ⟨y0, y1, y2, y3, yz6⟩ := box4 L6.out
  go_wp2
  go_region_with (first
    | (go_at_call 11; refine (toDisk_any a p n c m q d S L F fuel dead _ (by exact R6.out.1) (by exact R6.out.2) hn1 hm1 HL1.out).mono ?_; rintro e w7 ⟨a7, c7, p7, q7, A7, rfl, ho7, hb7, -⟩; obtain ⟨z0, z1, z2, z3, zz⟩ := box4 (L6.out.drew.trans (hb7.mono (by simp; omega))))
    | (go_at_call 14; refine (eqDisk_yes a4 a7 n n c7 d p4 p7 m m q7 S L F fuel dead _ ((by exact H6.out.data.rd : Rd .u8 w6.drew a4 n d).below hb7) ho7.data.rd ((by exact H6.out.cache.rd : RdP w6.drew p4 m S L F).below hb7) ho7.cache.rd (by omega) hm1 HL1.out).mono ?_; rintro e w8 ⟨rfl, hb8⟩))
  all_goals
    have HE : Hid (Below w.heap.size w w8) := by
      have q1 := (HJ.out K6.out).drew
      have s1 := q1.size
      have q2 := q1.trans (hb7.mono (by simpa using s1))
      exact q2.trans (hb8.mono q2.size)
    clear hb7 hb8 z0 z1 z2 z3 x0 x1 x2 x3 y0 y1 y2 y3
    go_wp2
    go_ret
    exact ⟨rfl, HE.out⟩

theorem sLaw (v : Value) (w : World) (hv : IsDisk w v) :
    Calls Try.prog 4 #[v] w fun e w' => e = .returned (.bool true) ∧ Below w.heap.size w w' := by
  obtain ⟨a, n, c, d, p, m, q, S, L, F, fuel, dead, rfl, ha, hd, hn, hp, hpb, hm, _⟩ := hv
  have hL0 : ∀ i, i < m → L i ≤ maxLen := fun i hi => (hpb i hi).2.2
  by_cases hV : VD n m S L fuel
  · have hpos : 1024 ≤ n := by have := hV.1; unfold VH at this; omega
    have hr : ∀ s, s < n / 64 → ∀ i, i < 64 → 0 ≤ secF d S F m s i ∧ secF d S F m s i < 256 := fun s hs => secF_range hV hd (fun i hi => (hpb i hi).1) s hs
    obtain ⟨k0, G0, A0, F0, e0, hz0⟩ := supV_form (secF d S F m 0) 0
    obtain ⟨k1, G1, A1, F1, e1, _⟩ := supV_form (secF d S F m 1) 1
    cases hB : betterB k0 k1 G0 G1 with
    | true =>
      refine sLaw0 a p n c m q d S L F fuel dead w ha hp hn hm hL0 k1 G1 A1 F1 (fun hn1 hm1 W a' p' hr1 hp1 => ?_) (fun hn1 hm1 W a' p' hr1 hp1 => ?_)
      · have := specSuper_good a' p' n n m m d S L F fuel dead W hr1 hp1 hV hn1 (Nat.le_refl _) (by omega) hm1 hr k0 k1 G0 A0 F0 G1 A1 F1 e0 e1
        rw [hB] at this
        exact this
      · have := implSuper_good a' p' n n m m d S L F fuel dead W hr1 hp1 hV hn1 (Nat.le_refl _) (by omega) hm1 hr k0 k1 G0 A0 F0 G1 A1 F1 e0 e1 hz0
        rw [hB] at this
        exact this
    | false =>
      refine sLaw0 a p n c m q d S L F fuel dead w ha hp hn hm hL0 k0 G0 A0 F0 (fun hn1 hm1 W a' p' hr1 hp1 => ?_) (fun hn1 hm1 W a' p' hr1 hp1 => ?_)
      · have := specSuper_good a' p' n n m m d S L F fuel dead W hr1 hp1 hV hn1 (Nat.le_refl _) (by omega) hm1 hr k0 k1 G0 A0 F0 G1 A1 F1 e0 e1
        rw [hB] at this
        exact this
      · have := implSuper_good a' p' n n m m d S L F fuel dead W hr1 hp1 hV hn1 (Nat.le_refl _) (by omega) hm1 hr k0 k1 G0 A0 F0 G1 A1 F1 e0 e1 hz0
        rw [hB] at this
        exact this
  · exact sLaw0 a p n c m q d S L F fuel dead w ha hp hn hm hL0 false 0 0 0 (fun hn1 hm1 W a' p' hr1 hp1 => specSuper_bad a' p' n n m m S L F fuel dead W hp1 hV hn1 hm1) (fun hn1 hm1 W a' p' hr1 hp1 => implSuper_bad a' p' n n m m S L F fuel dead W hp1 hV hn1 hm1)
end Go.Proofs.Ytfbhlegkpmcfoaa
