import Derived.Test.YtnbfgkichineiaaRead
import Derived.Test.YtnbfgkichineiaaSz
import Derived.Test.YtnbfgkichineiaaToDisk
import Derived.Test.YtnbfgkichineiaaHeldD
import Derived.Test.YtnbfgkichineiaaOpenDisk
import Derived.Deep.RegionHeld3
namespace Go.Proofs.Ytnbfgkichineiaa
open Go.RowKit Go.Deep
set_option linter.unusedVariables false

set_option maxHeartbeats 4000000 in
theorem rLaw0 (a p : Option Addr) (n c m q : Nat) (d S : Nat → Int) (L : Nat → Nat) (F : Nat → Nat → Int) (fuel : Int) (dead : Bool) (s : Int) (r0 : Nat) (f : Nat → Int) (w : World) (ha : Rd .u8 w a n d) (hp : RdP w p m S L F) (hn : n ≤ maxLen) (hm : m ≤ maxLen) (hL : ∀ i, i < m → L i ≤ maxLen) (hr0 : r0 ≤ 64)
    (hspec : n ≤ 1048576 → m ≤ 1048576 → ∀ W a p, Rd .u8 W a n d → RdP W p m S L F → Calls Try.prog 18 #[.agg #[.slice a n n, .slice p m m, .int .i64 fuel, .bool dead], .int .i64 s] W fun e w' => RetOwn W e w' r0 f)
    (himpl : n ≤ 1048576 → m ≤ 1048576 → ∀ W a p, Rd .u8 W a n d → RdP W p m S L F → Calls Try.prog 19 #[.agg #[.slice a n n, .slice p m m, .int .i64 fuel, .bool dead], .int .i64 s] W fun e w' => RetOwn W e w' r0 f) :
    Calls Try.prog 5 #[.agg #[.slice a n c, .slice p m q, .int .i64 fuel, .bool dead], .int .i64 s] w fun e w' => e = .returned (.bool true) ∧ Below w.heap.size w w' := by
  have HA : Hid (Rd .u8 w a n d) := ha
  have HP : Hid (RdP w p m S L F) := hp
  have HL : Hid (∀ i, i < m → L i ≤ maxLen) := hL
  have HS := hspec
  have HI := himpl
  have HSI : Hid ((n ≤ 1048576 → m ≤ 1048576 → ∀ W a p, Rd .u8 W a n d → RdP W p m S L F → Calls Try.prog 18 #[.agg #[.slice a n n, .slice p m m, .int .i64 fuel, .bool dead], .int .i64 s] W fun e w' => RetOwn W e w' r0 f) ∧
    (n ≤ 1048576 → m ≤ 1048576 → ∀ W a p, Rd .u8 W a n d → RdP W p m S L F → Calls Try.prog 19 #[.agg #[.slice a n n, .slice p m m, .int .i64 fuel, .bool dead], .int .i64 s] W fun e w' => RetOwn W e w' r0 f)) := ⟨hspec, himpl⟩
  clear ha hp hL HS HI hspec himpl
  go_enter Try.func5, Try.ntmps5
  go_wp2_with fail
  refine (szDisk_any a p n c m q S L F fuel dead _ hn (HP.out.below (below_alloc _ _)) hm HL.out).mono ?_
  rintro e w1 ⟨r, rfl, hr, hb1⟩
  rw [show ∀ O, (w.alloc O).heap.size = w.heap.size + 1 from fun O => by simp] at hb1
  have K1 : Hid (Below (w.heap.size + 1) (w.alloc _) w1) := hb1
  have HJ : Hid (∀ {W : World}, Below (w.heap.size + 1) (w.alloc (.cells #[.slice a n c, .slice p m q, .int .i64 fuel, .bool dead] 32)) W → Below w.heap.size w W) := fun h => (below_alloc _ _).trans (h.mono (by omega))
  obtain ⟨x0, x1, x2, x3, xz1⟩ := box4 hb1
  clear hb1
  rcases hr with rfl | ⟨hr0', hn1, hm1, hL1⟩
  · clear x0 x1 x2 x3
    go_wp2
    go_ret
    exact ⟨rfl, HJ.out K1.out⟩
  have hr1 : ¬ r < 0 := by omega
  have HL1 : Hid (∀ i, i < m → L i ≤ 1048576) := hL1
  have HS : Hid (∀ W a p, Rd .u8 W a n d → RdP W p m S L F → Calls Try.prog 18 #[.agg #[.slice a n n, .slice p m m, .int .i64 fuel, .bool dead], .int .i64 s] W fun e w' => RetOwn W e w' r0 f) := HSI.out.1 hn1 hm1
  have HI : Hid (∀ W a p, Rd .u8 W a n d → RdP W p m S L F → Calls Try.prog 19 #[.agg #[.slice a n n, .slice p m m, .int .i64 fuel, .bool dead], .int .i64 s] W fun e w' => RetOwn W e w' r0 f) := HSI.out.2 hn1 hm1
  clear hL1 hn hm HSI HL
  -- the specification's answer
  go_wp2_with fail
  refine (toDisk_any a p n c m q d S L F fuel dead w1 (HA.out.below (HJ.out K1.out)) (HP.out.below (HJ.out K1.out)) hn1 hm1 HL1.out).mono ?_
  rintro e w2 ⟨a2, c2, p2, q2, A2, rfl, ho2, hb2, rfl, rfl⟩
  have K2 : Hid (Below (w.heap.size + 1) (w.alloc _) w2) := K1.out.trans (hb2.mono (by omega))
  have H2 : Hid (Rd .u8 w2 a2 c2 d ∧ RdP w2 p2 q2 S L F) := ⟨ho2.data.rd, ho2.cache.rd⟩
  have z12 := hb2.size
  clear x0 x1 x2 x3 ho2 hb2
  go_wp2_with fail
  refine (HS.out w2 a2 p2 H2.out.1 H2.out.2).mono ?_
  rintro e w3 ⟨a3, c3, rfl, ho3, hb3, _, _⟩
  have z23 := hb3.size
  have K3 : Hid (Below (w.heap.size + 1) (w.alloc _) w3) := K2.out.trans (hb3.mono (by omega))
  obtain ⟨x0, x1, x2, x3, xz3⟩ := box4 K3.out
  have H3 : Hid (Rd .u8 w3 a3 r0 f) := ho3.rd
  clear hb3 ho3 H2 HS
  -- the copy that impl is handed, and its answer
  go_wp2_with fail
  refine (toDisk_any a p c2 c q2 q d S L F fuel dead w3 (HA.out.below (HJ.out K3.out)) (HP.out.below (HJ.out K3.out)) hn1 hm1 HL1.out).mono ?_
  rintro e w4 ⟨a4, c4, p4, q4, A4, rfl, ho4, hb4, rfl, rfl⟩
  have z34 := hb4.size
  have K4 : Hid (Below (w.heap.size + 1) (w.alloc _) w4) := K3.out.trans (hb4.mono (by omega))
  have M4 : Hid (Below w3.heap.size w3 w4) := hb4
  have H4 : Hid (OwnD w4 w3.heap.size a4 c4 d p4 q4 S L F A4) := ho4
  clear x0 x1 x2 x3 ho4 hb4
  go_wp2_with fail
  refine (HI.out _ a4 p4 (H4.out.data.rd.below (below_alloc _ _)) (H4.out.cache.rd.below (below_alloc _ _))).mono ?_
  rintro e w5 ⟨a5, c5, rfl, ho5, hb5, _, _⟩
  rw [show ∀ O, (w4.alloc O).heap.size = w4.heap.size + 1 from fun O => by simp] at hb5 ho5
  have z45 : w4.heap.size + 1 ≤ w5.heap.size := by have := hb5.size; simpa using this
  have L5 : Hid (Below (w4.heap.size + 1) (w4.alloc _) w5) := hb5
  have M5 : Hid (Below w3.heap.size w3 w5) := (M4.out.alloc (by omega) _).trans (hb5.mono (by omega))
  have K5 : Hid (Below (w.heap.size + 1) (w.alloc _) w5) := K3.out.trans (M5.out.mono (by omega))
  have H5 : Hid (OwnD w5 w3.heap.size a4 c4 d p4 q4 S L F A4) := (H4.out.below (below_alloc _ _)).below (hb5.mono (by simp))
  have G5 : Hid (OwnB w5 (w4.heap.size + 1) a5 r0 f) := ho5
  clear hb5 ho5
  go_wp2_with fail
  refine (eqByteS_yes a5 a3 r0 c5 c3 f w5 G5.out.rd (H3.out.below M5.out) (by omega)).mono ?_
  rintro e w6 ⟨rfl, nd, hw6⟩
  have hb6 : Below w5.heap.size w5 w6 := by rw [hw6]; exact below_drewN (Below.refl _ _) nd
  clear hw6
  have z56 := hb6.size
  have K6 : Hid (Below (w.heap.size + 1) (w.alloc _) w6) := K5.out.trans (hb6.mono (by omega))
  have L6 : Hid (Below (w4.heap.size + 1) (w4.alloc _) w6) := L5.out.trans (hb6.mono (by omega))
  have M6 : Hid (Below w3.heap.size w3 w6) := M5.out.trans (hb6.mono (by omega))
  have H6 : Hid (OwnD w6 w3.heap.size a4 c4 d p4 q4 S L F A4) := H5.out.below hb6
  have G6 : Hid (OwnB w6 (w4.heap.size + 1) a5 r0 f) := G5.out.below hb6
  obtain ⟨x0, x1, x2, x3, xz6⟩ := box4 K6.out
  obtain ⟨y0, y1, y2, y3, yz6⟩ := box4 L6.out
  clear hb6 H5 G5 K5 L5 M5
  have R6 : Hid (Rd .u8 w6 a c4 d ∧ RdP w6 p q4 S L F) := ⟨HA.out.below (HJ.out K6.out), HP.out.below (HJ.out K6.out)⟩
  go_wp2
  go_region_held3 (fun w' => (w'.cell? ⟨w4.heap.size, 0, none⟩ = some (.slice a4 c4 c4) ∧ w'.cell? ⟨w4.heap.size, 1, none⟩ = some (.slice p4 q4 q4) ∧ w'.cell? ⟨w4.heap.size, 2, none⟩ = some (.int .i64 fuel) ∧ w'.cell? ⟨w4.heap.size, 3, none⟩ = some (.bool dead)) ∧ w'.cell? ⟨w.heap.size, 0, none⟩ = some (.slice a c4 c) ∧ w'.cell? ⟨w.heap.size, 1, none⟩ = some (.slice p q4 q) ∧ w'.cell? ⟨w.heap.size, 2, none⟩ = some (.int .i64 fuel) ∧ w'.cell? ⟨w.heap.size, 3, none⟩ = some (.bool dead)) (go_keep)
    (first
    | (go_at_call 16; refine (toDisk_any a p c4 c q4 q d S L F fuel dead w6.drew ?_ ?_ hn1 hm1 HL1.out).mono ?_; exact R6.out.1; exact R6.out.2; rintro e w7 ⟨a7, c7, p7, q7, A7, rfl, ho7, hb7, -⟩; obtain ⟨z0, z1, z2, z3, zz⟩ := box4 (L6.out.drew.trans (hb7.mono (by simp; omega))); obtain ⟨v0, v1, v2, v3, vz⟩ := box4 (K6.out.drew.trans (hb7.mono (by simp; omega))))
    | (go_at_call 11; refine (eqDisk_yes a4 a7 c4 c4 c7 d p4 p7 q4 q4 q7 S L F fuel dead w7 ?_ ?_ ?_ ?_ ?_ hm1 HL1.out).mono ?_; exact Rd.below (w := w6.drew) H6.out.data.rd hb7; exact ho7.data.rd; exact RdP.below (w := w6.drew) H6.out.cache.rd hb7; exact ho7.cache.rd; omega; rintro e w8 ⟨rfl, hb8⟩; obtain ⟨z0, z1, z2, z3, zz⟩ := box4 ((L6.out.drew.trans (hb7.mono (by simp; omega))).trans (hb8.mono (by have := hb7.size; simp at this; omega))); obtain ⟨v0, v1, v2, v3, vz⟩ := box4 ((K6.out.drew.trans (hb7.mono (by simp; omega))).trans (hb8.mono (by have := hb7.size; simp at this; omega)))))
  have s7 : w6.heap.size ≤ w7.heap.size := by have := hb7.size; simpa using this
  have s8 := hb8.size
  have C8 : Hid (Below w6.heap.size w6 w8) := ((Below.refl _ _).drew.trans (hb7.mono (by simp))).trans (hb8.mono (by omega))
  clear hb7 hb8 ho7 z0 z1 z2 z3 v0 v1 v2 v3 zz vz x0 x1 x2 x3 y0 y1 y2 y3
  have K8 : Hid (Below (w.heap.size + 1) (w.alloc _) w8) := K6.out.trans (C8.out.mono (by omega))
  have L8 : Hid (Below (w4.heap.size + 1) (w4.alloc _) w8) := L6.out.trans (C8.out.mono (by omega))
  have M8 : Hid (Below w3.heap.size w3 w8) := M6.out.trans (C8.out.mono (by omega))
  have H8 : Hid (OwnD w8 w3.heap.size a4 c4 d p4 q4 S L F A4) := H6.out.below C8.out
  have G8 : Hid (OwnB w8 (w4.heap.size + 1) a5 r0 f) := G6.out.below C8.out
  obtain ⟨y0, y1, y2, y3, yz8⟩ := box4 L8.out
  clear H6 G6 K6 L6 M6 C8 R6
  -- the copy is written over: the answer stays
  go_wp2_with fail
  refine (markDisk_own a4 p4 c4 c4 q4 q4 w3.heap.size w4.heap.size d S L F A4 fuel dead w8 1 H8.out.data H8.out.cache H8.out.apart H4.out.data.ltB H4.out.cache.ltB hn1 hm1 HL1.out (by omega) (by omega)).mono ?_
  rintro e w9 ⟨rfl, -, -, hw9⟩
  have z89 := hw9.size
  have hB9 : Below w3.heap.size w8 w9 := hw9.below (by omega)
  have K9 : Hid (Below (w.heap.size + 1) (w.alloc _) w9) := K8.out.trans (hB9.mono (by omega))
  have M9 : Hid (Below w3.heap.size w3 w9) := M8.out.trans hB9
  have G9 : Hid (OwnB w9 (w4.heap.size + 1) a5 r0 f) := G8.out.within (by omega) hw9
  have hkk : ¬ koff L (1 + (c4 : Int)) q4 < 0 := by have := koff_ge L (1 + (c4 : Int)) q4; omega
  generalize koff L (1 + (c4 : Int)) q4 = kk at *
  clear hw9 hB9 y0 y1 y2 y3 H8 G8 K8 L8 M8
  go_wp2_with fail
  refine (eqByteS_yes a5 a3 r0 c5 c3 f w9 G9.out.rd (H3.out.below M9.out) (by omega)).mono ?_
  rintro e w10 ⟨rfl, nd10, hw10⟩
  have hb10 : Below w9.heap.size w9 w10 := by rw [hw10]; exact below_drewN (Below.refl _ _) nd10
  clear hw10
  have z910 := hb10.size
  have G10 : Hid (OwnB w10 (w4.heap.size + 1) a5 r0 f) := G9.out.below hb10
  have M10 : Hid (Below w3.heap.size w3 w10) := M9.out.trans (hb10.mono (by omega))
  have K10 : Hid (Below (w.heap.size + 1) (w.alloc _) w10) := K9.out.trans (hb10.mono (by omega))
  clear hb10 G9 M9 K9
  -- the answer is written over and read back
  go_wp2_with fail
  refine (markByteS_own a5 r0 c5 (w4.heap.size + 1) f w10 1 G10.out (by omega) (by omega) (by omega)).mono ?_
  rintro e w11 ⟨rfl, ho11, hO11, hz11⟩
  have hB11 : Below (w4.heap.size + 1) w10 w11 := by
    by_cases e : r0 = 0
    · rw [hz11 e]; exact Below.refl _ _
    · exact hO11.below (G10.out.ge e)
  have z1011 := hB11.size
  have M11 : Hid (Below w3.heap.size w3 w11) := M10.out.trans (hB11.mono (by omega))
  have K11 : Hid (Below (w.heap.size + 1) (w.alloc _) w11) := K10.out.trans (hB11.mono (by omega))
  have G11 : Hid (Rd .u8 w11 a5 r0 (fun i => IntKind.u8.wrap (1 + i))) := ho11.rd
  clear hB11 ho11 hO11 hz11 G10 M10 K10
  go_wp2_with fail
  refine (heldByteS_yes a5 r0 c5 w11 1 G11.out (by omega) (by omega) (by omega)).mono ?_
  rintro e w12 ⟨rfl, hw12⟩
  subst hw12
  obtain ⟨x0, x1, x2, x3, xz12⟩ := box4 K11.out
  have hq1 : ¬ (1 : Int) + (r0 : Int) < 0 := by omega
  have hq2 : ((1 : Int) + (r0 : Int) != 1 + (r0 : Int)) = false := by simp
  -- once more
  go_wp2_with fail
  refine (toDisk_any a p c4 c q4 q d S L F fuel dead w12 (HA.out.below (HJ.out K11.out)) (HP.out.below (HJ.out K11.out)) hn1 hm1 HL1.out).mono ?_
  rintro e w13 ⟨a13, c13, p13, q13, A13, rfl, ho13, hb13, rfl, rfl⟩
  have z1213 := hb13.size
  have H13 : Hid (Rd .u8 w13 a13 c13 d ∧ RdP w13 p13 q13 S L F) := ⟨ho13.data.rd, ho13.cache.rd⟩
  have M13 : Hid (Below w3.heap.size w3 w13) := M11.out.trans (hb13.mono (by omega))
  have B13 : Hid (Below w.heap.size w w13) := (HJ.out K11.out).trans (hb13.mono (by omega))
  clear x0 x1 x2 x3 ho13 hb13 hq1 hq2
  go_wp2_with fail
  refine (HI.out w13 a13 p13 H13.out.1 H13.out.2).mono ?_
  rintro e w14 ⟨a14, c14, rfl, ho14, hb14, _, _⟩
  have z1314 := hb14.size
  have M14 : Hid (Below w3.heap.size w3 w14) := M13.out.trans (hb14.mono (by omega))
  have B14 : Hid (Below w.heap.size w w14) := B13.out.trans (hb14.mono (by omega))
  have H14 : Hid (Rd .u8 w14 a14 r0 f) := ho14.rd
  clear ho14 hb14
  go_wp2_with fail
  refine (eqByteS_yes a14 a3 r0 c14 c3 f w14 H14.out (H3.out.below M14.out) (by omega)).mono ?_
  rintro e w15 ⟨rfl, nd15, rfl⟩
  go_wp2
  go_ret
  exact ⟨rfl, below_drewN B14.out nd15⟩

theorem rLaw (v : Value) (s : Int) (w : World) (hv : IsDisk w v) (_ : (Lit.int .i64 s).wf = true) :
    Calls Try.prog 5 #[v, .int .i64 s] w fun e w' => e = .returned (.bool true) ∧ Below w.heap.size w w' := by
  obtain ⟨a, n, c, d, p, m, q, S, L, F, fuel, dead, rfl, ha, _, hn, hp, hpb, hm, _⟩ := hv
  by_cases hg : VD n m S L fuel ∧ 0 ≤ s ∧ s < (n : Int) / 64
  · obtain ⟨hvd, h0, h1⟩ := hg
    obtain ⟨k, rfl⟩ := Int.eq_ofNat_of_zero_le h0
    exact rLaw0 a p n c m q d S L F fuel dead k 64 (secF d S F m k) w ha hp hn hm (fun i hi => (hpb i hi).2.2) (Nat.le_refl _)
      (fun hn1 hm1 W a' p' hr hrp => specRead_good a' p' n n m m d S L F fuel dead k W hr hrp hvd (by omega) hn1 (Nat.le_refl _) (by omega) hm1)
      (fun hn1 hm1 W a' p' hr hrp => implRead_good a' p' n n m m d S L F fuel dead k W hr hrp hvd (by omega) hn1 (Nat.le_refl _) (by omega) hm1)
  · exact rLaw0 a p n c m q d S L F fuel dead s 0 (fun _ => 0) w ha hp hn hm (fun i hi => (hpb i hi).2.2) (by omega)
      (fun hn1 hm1 W a' p' _ hrp => specRead_bad a' p' n n m m S L F fuel dead s _ W hrp hg hn1 hm1)
      (fun hn1 hm1 W a' p' _ hrp => implRead_bad a' p' n n m m S L F fuel dead s _ W hrp hg hn1 hm1)
end Go.Proofs.Ytnbfgkichineiaa
