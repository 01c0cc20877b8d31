import Derived.Test.YtbpcafcipncloaaArD
import Derived.Test.YtbpcafcipncloaaSz
import Derived.Test.YtbpcafcipncloaaOpenDisk
import Derived.Test.YtbpcafcipncloaaToDisk
import Derived.Deep.RegionHeld3
import Derived.Test.YtbpcafcipncloaaRaI
import Derived.Test.YtbpcafcipncloaaSaP
import Derived.Test.YtbpcafcipncloaaSaJ
namespace Go.Proofs.Ytbpcafcipncloaa
open Go.RowKit Go.Deep
set_option linter.unusedVariables false
set_option maxRecDepth 100000

/-- A box of an area's answer, later on. -/
def Bx4 (w : World) (g : Nat) (v0 v1 v2 v3 : Value) : Prop := w.heap[g]? = some (.cells #[v0, v1, v2, v3] 51)
theorem Bx4.cells {w : World} {g : Nat} {v0 v1 v2 v3 : Value} (h : Bx4 w g v0 v1 v2 v3) : w.cell? ⟨g, 0, none⟩ = some v0 ∧ w.cell? ⟨g, 1, none⟩ = some v1 ∧ w.cell? ⟨g, 2, none⟩ = some v2 ∧ w.cell? ⟨g, 3, none⟩ = some v3 ∧ g < w.heap.size := by
  have h' : w.heap[g]? = some (.cells #[v0, v1, v2, v3] 51) := h
  refine ⟨?_, ?_, ?_, ?_, (Array.getElem?_eq_some_iff.1 h').1⟩ <;> simp [World.cell?, h']
theorem Bx4.keep {w w' : World} {g : Nat} {v0 v1 v2 v3 : Value} (h : Bx4 w g v0 v1 v2 v3) (hb : Below w.heap.size w w') : Bx4 w' g v0 v1 v2 v3 := (hb.block g (Array.getElem?_eq_some_iff.1 h).1).trans h

set_option maxHeartbeats 8000000 in
theorem raLaw0 (a p : Option Addr) (n c m q : Nat) (d S : Nat → Int) (L : Nat → Nat) (F : Nat → Nat → Int) (fuel : Int) (dead : Bool) (at_ seq : Int) (ok : Bool) (r0 : Nat) (LL : Nat → Nat) (FF : Nat → Nat → Int) (us nx : Int) (w : World) (ha : Rd .u8 w a n d) (hp : RdP w p m S L F) (hn : n ≤ maxLen) (hm : m ≤ maxLen) (hL : ∀ i, i < m → L i ≤ maxLen) (hr0 : r0 ≤ 1048576) (hLL : ∀ i, i < r0 → LL i ≤ 1048576)
    (hspec : n ≤ 1048576 → m ≤ 1048576 → ∀ W a p, Rd .u8 W a n d → RdP W p m S L F → Calls Try.prog 27 #[.agg #[.slice a n n, .slice p m m, .int .i64 fuel, .bool dead], .int .i64 at_, .int .i64 seq] W (RetA W ok r0 LL FF us nx))
    (himpl : n ≤ 1048576 → m ≤ 1048576 → ∀ W a p, Rd .u8 W a n d → RdP W p m S L F → Calls Try.prog 28 #[.agg #[.slice a n n, .slice p m m, .int .i64 fuel, .bool dead], .int .i64 at_, .int .i64 seq] W (RetA W ok r0 LL FF us nx)) :
    Calls Try.prog 7 #[.agg #[.slice a n c, .slice p m q, .int .i64 fuel, .bool dead], .int .i64 at_, .int .i64 seq] w fun e w' => e = .returned (.bool true) ∧ Below w.heap.size w w' := by
  have HA : Hid (Rd .u8 w a n d) := ha
  have HP : Hid (RdP w p m S L F) := hp
  have HL : Hid (∀ i, i < m → L i ≤ maxLen) := hL
  have HLL : Hid (∀ i, i < r0 → LL i ≤ 1048576) := hLL
  have HSI : Hid ((n ≤ 1048576 → m ≤ 1048576 → ∀ W a p, Rd .u8 W a n d → RdP W p m S L F → Calls Try.prog 27 #[.agg #[.slice a n n, .slice p m m, .int .i64 fuel, .bool dead], .int .i64 at_, .int .i64 seq] W (RetA W ok r0 LL FF us nx)) ∧ (n ≤ 1048576 → m ≤ 1048576 → ∀ W a p, Rd .u8 W a n d → RdP W p m S L F → Calls Try.prog 28 #[.agg #[.slice a n n, .slice p m m, .int .i64 fuel, .bool dead], .int .i64 at_, .int .i64 seq] W (RetA W ok r0 LL FF us nx))) := ⟨hspec, himpl⟩
  clear ha hp hL hspec himpl hLL
  go_enter Try.func7, Try.ntmps7
  go_wp2_with fail
  refine (szDisk_any a p n c m q S L F fuel dead _ hn (HP.out.below (below_alloc _ _)) hm HL.out).mono ?_
  rintro e w1 ⟨r, rfl, hr, hb1⟩
  rw [show ∀ O, (w.alloc O).heap.size = w.heap.size + 1 from fun O => by simp] at hb1
  have K1 : Hid (Below (w.heap.size + 1) (w.alloc (.cells #[.slice a n c, .slice p m q, .int .i64 fuel, .bool dead] 32)) w1) := hb1
  have HJ : Hid (∀ {W : World}, Below (w.heap.size + 1) (w.alloc (.cells #[.slice a n c, .slice p m q, .int .i64 fuel, .bool dead] 32)) W → Below w.heap.size w W) := fun h => (below_alloc _ _).trans (h.mono (by omega))
  obtain ⟨x0, x1, x2, x3, xz1⟩ := box4 hb1
  clear hb1
  rcases hr with rfl | ⟨hr0', hn1, hm1, hL1⟩
  · clear x0 x1 x2 x3
    go_wp2
    go_ret
    exact ⟨rfl, HJ.out K1.out⟩
  have hr1 : ¬ r < 0 := by omega
  have HL1 : Hid (∀ i, i < m → L i ≤ 1048576) := hL1
  have HS : Hid (∀ W a p, Rd .u8 W a n d → RdP W p m S L F → Calls Try.prog 27 #[.agg #[.slice a n n, .slice p m m, .int .i64 fuel, .bool dead], .int .i64 at_, .int .i64 seq] W (RetA W ok r0 LL FF us nx)) := HSI.out.1 hn1 hm1
  have HI : Hid (∀ W a p, Rd .u8 W a n d → RdP W p m S L F → Calls Try.prog 28 #[.agg #[.slice a n n, .slice p m m, .int .i64 fuel, .bool dead], .int .i64 at_, .int .i64 seq] W (RetA W ok r0 LL FF us nx)) := HSI.out.2 hn1 hm1
  clear hL1 hn hm HSI HL
  go_wp2_with fail
  refine (toDisk_any a p n c m q d S L F fuel dead w1 (HA.out.below (HJ.out K1.out)) (HP.out.below (HJ.out K1.out)) hn1 hm1 HL1.out).mono ?_
  rintro e w2 ⟨a2, c2, p2, q2, A2, rfl, ho2, hb2, rfl, rfl⟩
  have K2 : Hid (Below (w.heap.size + 1) (w.alloc _) w2) := K1.out.trans (hb2.mono (by omega))
  have H2 : Hid (Rd .u8 w2 a2 c2 d ∧ RdP w2 p2 q2 S L F) := ⟨ho2.data.rd, ho2.cache.rd⟩
  have z12 := hb2.size
  clear x0 x1 x2 x3 ho2 hb2
  go_wp2_with fail
  refine (HS.out w2 a2 p2 H2.out.1 H2.out.2).mono ?_
  rintro e w3 ⟨a3, c3, A3, rfl, ho3, hb3⟩
  have hrd3 := ho3.rd
  clear ho3
  have z23 := hb3.size
  have K3 : Hid (Below (w.heap.size + 1) (w.alloc _) w3) := K2.out.trans (hb3.mono (by omega))
  obtain ⟨x0, x1, x2, x3, xz3⟩ := box4 K3.out
  obtain ⟨w3b, hw3b⟩ : ∃ x, x = w3.alloc (.cells #[.bool ok, .slice a3 r0 c3, .int .i64 us, .int .i64 nx] 51) := ⟨_, rfl⟩
  have F3 : Hid (Below (w.heap.size + 1) (w.alloc (.cells #[.slice a c2 c, .slice p q2 q, .int .i64 fuel, .bool dead] 32)) w3b ∧ RdY w3b a3 r0 LL FF ∧ Bx4 w3b w3.heap.size (.bool ok) (.slice a3 r0 c3) (.int .i64 us) (.int .i64 nx) ∧ w3b.heap.size = w3.heap.size + 1) := by
    rw [hw3b]
    exact ⟨K3.out.alloc (by omega) _, hrd3.below (below_alloc _ _), blk_alloc_new _ _, by simp⟩
  have hz3b : w3b.heap.size = w3.heap.size + 1 := F3.out.2.2.2
  clear hb3 hrd3 H2 HS K3
  go_wp2_with fail
  rw [← hw3b]
  refine (toDisk_any a p c2 c q2 q d S L F fuel dead w3b (HA.out.below (HJ.out F3.out.1)) (HP.out.below (HJ.out F3.out.1)) hn1 hm1 HL1.out).mono ?_
  clear hw3b
  rintro e w4 ⟨a4, c4, p4, q4, A4, rfl, ho4, hb4, rfl, rfl⟩
  have z34 := hb4.size
  have M4 : Hid (Below w3b.heap.size w3b w4) := hb4
  have H4 : Hid (OwnD w4 w3b.heap.size a4 c4 d p4 q4 S L F A4) := ho4
  clear x0 x1 x2 x3 ho4 hb4
  go_wp2_with fail
  refine (HI.out _ a4 p4 (H4.out.data.rd.below (below_alloc _ _)) (H4.out.cache.rd.below (below_alloc _ _))).mono ?_
  rintro e w5 ⟨a5, c5, A5, rfl, ho5, hb5⟩
  rw [show ∀ O, (w4.alloc O).heap.size = w4.heap.size + 1 from fun O => by simp] at hb5 ho5
  have z45 : w4.heap.size + 1 ≤ w5.heap.size := by have := hb5.size; simpa using this
  have L5 : Hid (Below (w4.heap.size + 1) (w4.alloc (.cells #[.slice a4 c4 c4, .slice p4 q4 q4, .int .i64 fuel, .bool dead] 39)) w5) := hb5
  have M5 : Hid (Below w3b.heap.size w3b w5) := (M4.out.alloc (by omega) _).trans (hb5.mono (by omega))
  have H5 : Hid (OwnD w5 w3b.heap.size a4 c4 d p4 q4 S L F A4) := (H4.out.below (below_alloc _ _)).below (hb5.mono (by simp))
  have G5 : Hid (OwnY w5 (w4.heap.size + 1) a5 r0 LL FF A5) := ho5
  have LT5 : Hid (∀ i, i < r0 → LtB w5.heap.size (A5 i) (LL i)) := ho5.ltB
  have X5 : Hid (Bx4 w5 w3.heap.size (.bool ok) (.slice a3 r0 c3) (.int .i64 us) (.int .i64 nx)) := F3.out.2.2.1.keep M5.out
  clear hb5 ho5
  obtain ⟨s0, s1, s2, s4, s3⟩ := X5.out.cells
  obtain ⟨w5b, hw5b⟩ : ∃ x, x = w5.alloc (.cells #[.bool ok, .slice a5 r0 c5, .int .i64 us, .int .i64 nx] 51) := ⟨_, rfl⟩
  have C5 : Hid (Below w5.heap.size w5 w5b ∧ Bx4 w5b w5.heap.size (.bool ok) (.slice a5 r0 c5) (.int .i64 us) (.int .i64 nx) ∧ w5b.heap.size = w5.heap.size + 1) := by
    rw [hw5b]
    exact ⟨below_alloc _ _, blk_alloc_new _ _, by simp⟩
  have hz5b : w5b.heap.size = w5.heap.size + 1 := C5.out.2.2
  go_wp2_with fail
  rw [← hw5b]
  refine (eqArea_yes ok a5 a3 r0 c5 c3 LL FF us nx w5b (G5.out.rd.below C5.out.1) ((F3.out.2.1.below M5.out).below C5.out.1) hr0 HLL.out).mono ?_
  clear hw5b s0 s1 s2 s4 s3
  rintro e w6 ⟨rfl, hb6⟩
  have z56 := hb6.size
  have D6 : Hid (Below w5.heap.size w5 w6) := C5.out.1.trans (hb6.mono (by omega))
  have X6 : Hid (Bx4 w6 w3.heap.size (.bool ok) (.slice a3 r0 c3) (.int .i64 us) (.int .i64 nx) ∧ Bx4 w6 w5.heap.size (.bool ok) (.slice a5 r0 c5) (.int .i64 us) (.int .i64 nx)) := ⟨X5.out.keep D6.out, C5.out.2.1.keep hb6⟩
  have K6 : Hid (Below (w.heap.size + 1) (w.alloc (.cells #[.slice a c4 c, .slice p q4 q, .int .i64 fuel, .bool dead] 32)) w6) := F3.out.1.trans ((M5.out.trans (D6.out.mono (by omega))).mono (by omega))
  have L6 : Hid (Below (w4.heap.size + 1) (w4.alloc (.cells #[.slice a4 c4 c4, .slice p4 q4 q4, .int .i64 fuel, .bool dead] 39)) w6) := L5.out.trans (D6.out.mono (by omega))
  have M6 : Hid (Below w3b.heap.size w3b w6) := M5.out.trans (D6.out.mono (by omega))
  have H6 : Hid (OwnD w6 w3b.heap.size a4 c4 d p4 q4 S L F A4) := H5.out.below D6.out
  have G6 : Hid (OwnY w6 (w4.heap.size + 1) a5 r0 LL FF A5) := G5.out.below D6.out
  obtain ⟨x0, x1, x2, x3, xz6⟩ := box4 K6.out
  obtain ⟨y0, y1, y2, y3, yz6⟩ := box4 L6.out
  clear hb6 H5 G5 L5 M5 D6 X5
  have R6 : Hid (Rd .u8 w6 a c4 d ∧ RdP w6 p q4 S L F) := ⟨HA.out.below (HJ.out K6.out), HP.out.below (HJ.out K6.out)⟩
  go_wp2
  go_region_held3 (fun w' => (w'.cell? ⟨w4.heap.size, 0, none⟩ = some (.slice a4 c4 c4) ∧ w'.cell? ⟨w4.heap.size, 1, none⟩ = some (.slice p4 q4 q4) ∧ w'.cell? ⟨w4.heap.size, 2, none⟩ = some (.int .i64 fuel) ∧ w'.cell? ⟨w4.heap.size, 3, none⟩ = some (.bool dead)) ∧ w'.cell? ⟨w.heap.size, 0, none⟩ = some (.slice a c4 c) ∧ w'.cell? ⟨w.heap.size, 1, none⟩ = some (.slice p q4 q) ∧ w'.cell? ⟨w.heap.size, 2, none⟩ = some (.int .i64 fuel) ∧ w'.cell? ⟨w.heap.size, 3, none⟩ = some (.bool dead)) (go_keep)
    (first
    | (go_at_call 16; refine (toDisk_any a p c4 c q4 q d S L F fuel dead w6.drew ?_ ?_ hn1 hm1 HL1.out).mono ?_; exact R6.out.1; exact R6.out.2; rintro e w7 ⟨a7, c7, p7, q7, A7, rfl, ho7, hb7, -⟩; obtain ⟨z0, z1, z2, z3, zz⟩ := box4 (L6.out.drew.trans (hb7.mono (by simp; omega))); obtain ⟨v0, v1, v2, v3, vz⟩ := box4 (K6.out.drew.trans (hb7.mono (by simp; omega))))
    | (go_at_call 19; refine (eqDisk_yes a4 a7 c4 c4 c7 d p4 p7 q4 q4 q7 S L F fuel dead w7 ?_ ?_ ?_ ?_ ?_ hm1 HL1.out).mono ?_; exact Rd.below (w := w6.drew) H6.out.data.rd hb7; exact ho7.data.rd; exact RdP.below (w := w6.drew) H6.out.cache.rd hb7; exact ho7.cache.rd; omega; rintro e w8 ⟨rfl, hb8⟩; obtain ⟨z0, z1, z2, z3, zz⟩ := box4 ((L6.out.drew.trans (hb7.mono (by simp; omega))).trans (hb8.mono (by have := hb7.size; simp at this; omega))); obtain ⟨v0, v1, v2, v3, vz⟩ := box4 ((K6.out.drew.trans (hb7.mono (by simp; omega))).trans (hb8.mono (by have := hb7.size; simp at this; omega)))))
  have s7 : w6.heap.size ≤ w7.heap.size := by have := hb7.size; simpa using this
  have s8 := hb8.size
  have C8 : Hid (Below w6.heap.size w6 w8) := ((Below.refl _ _).drew.trans (hb7.mono (by simp))).trans (hb8.mono (by omega))
  clear hb7 hb8 ho7 z0 z1 z2 z3 v0 v1 v2 v3 zz vz x0 x1 x2 x3 y0 y1 y2 y3
  have K8 : Hid (Below (w.heap.size + 1) (w.alloc (.cells #[.slice a c4 c, .slice p q4 q, .int .i64 fuel, .bool dead] 32)) w8) := K6.out.trans (C8.out.mono (by omega))
  have L8 : Hid (Below (w4.heap.size + 1) (w4.alloc _) w8) := L6.out.trans (C8.out.mono (by omega))
  have M8 : Hid (Below w3b.heap.size w3b w8) := M6.out.trans (C8.out.mono (by omega))
  have H8 : Hid (OwnD w8 w3b.heap.size a4 c4 d p4 q4 S L F A4) := H6.out.below C8.out
  have G8 : Hid (OwnY w8 (w4.heap.size + 1) a5 r0 LL FF A5) := G6.out.below C8.out
  have X8 : Hid (Bx4 w8 w3.heap.size (.bool ok) (.slice a3 r0 c3) (.int .i64 us) (.int .i64 nx) ∧ Bx4 w8 w5.heap.size (.bool ok) (.slice a5 r0 c5) (.int .i64 us) (.int .i64 nx)) := ⟨X6.out.1.keep C8.out, X6.out.2.keep C8.out⟩
  obtain ⟨y0, y1, y2, y3, yz8⟩ := box4 L8.out
  clear H6 G6 K6 L6 M6 C8 R6 X6
  go_wp2_with fail
  refine (markDisk_own a4 p4 c4 c4 q4 q4 w3b.heap.size w4.heap.size d S L F A4 fuel dead w8 1 H8.out.data H8.out.cache H8.out.apart H4.out.data.ltB H4.out.cache.ltB hn1 hm1 HL1.out (by omega) (by omega)).mono ?_
  rintro e w9 ⟨rfl, -, -, hw9⟩
  have z89 := hw9.size
  have hB9 : Below w3b.heap.size w8 w9 := hw9.below (by omega)
  have K9 : Hid (Below (w.heap.size + 1) (w.alloc (.cells #[.slice a c4 c, .slice p q4 q, .int .i64 fuel, .bool dead] 32)) w9) := K8.out.trans (hB9.mono (by omega))
  have M9 : Hid (Below w3b.heap.size w3b w9) := M8.out.trans hB9
  have G9 : Hid (OwnY w9 (w4.heap.size + 1) a5 r0 LL FF A5) := G8.out.within (by omega) hw9
  have X9 : Hid (Bx4 w9 w3.heap.size (.bool ok) (.slice a3 r0 c3) (.int .i64 us) (.int .i64 nx) ∧ Bx4 w9 w5.heap.size (.bool ok) (.slice a5 r0 c5) (.int .i64 us) (.int .i64 nx)) := ⟨(hw9.block _ (by omega) (Or.inl (by omega))).trans X8.out.1, (hw9.block _ (by omega) (Or.inr (by omega))).trans X8.out.2⟩
  have hkk : ¬ koff L (1 + (c4 : Int)) q4 < 0 := by have := koff_ge L (1 + (c4 : Int)) q4; omega
  generalize koff L (1 + (c4 : Int)) q4 = kk at *
  clear hw9 hB9 y0 y1 y2 y3 H8 G8 K8 L8 M8 X8
  obtain ⟨s0, s1, s2, s4, s3⟩ := X9.out.1.cells
  obtain ⟨t0, t1, t2, t4, t3⟩ := X9.out.2.cells
  go_wp2_with fail
  refine (eqArea_yes ok a5 a3 r0 c5 c3 LL FF us nx w9 G9.out.rd (F3.out.2.1.below M9.out) hr0 HLL.out).mono ?_
  rintro e w10 ⟨rfl, hb10⟩
  have z910 := hb10.size
  have G10 : Hid (OwnY w10 (w4.heap.size + 1) a5 r0 LL FF A5) := G9.out.below hb10
  have M10 : Hid (Below w3b.heap.size w3b w10) := M9.out.trans (hb10.mono (by omega))
  have K10 : Hid (Below (w.heap.size + 1) (w.alloc (.cells #[.slice a c4 c, .slice p q4 q, .int .i64 fuel, .bool dead] 32)) w10) := K9.out.trans (hb10.mono (by omega))
  have X10 : Hid (Bx4 w10 w3.heap.size (.bool ok) (.slice a3 r0 c3) (.int .i64 us) (.int .i64 nx) ∧ Bx4 w10 w5.heap.size (.bool ok) (.slice a5 r0 c5) (.int .i64 us) (.int .i64 nx)) := ⟨X9.out.1.keep hb10, X9.out.2.keep hb10⟩
  clear hb10 G9 M9 K9 X9 s0 s1 s2 s4 s3 t0 t1 t2 t4 t3
  obtain ⟨t0, t1, t2, t4, t3⟩ := X10.out.2.cells
  go_wp2_with fail
  refine (markArea_own ok a5 r0 c5 (w4.heap.size + 1) w5.heap.size LL FF A5 us nx w10 1 G10.out LT5.out hr0 HLL.out (by omega) (by omega)).mono ?_
  rintro e w11 ⟨rfl, hr11, hw11⟩
  have hs11 := hw11.size
  have hB11 : Below (w4.heap.size + 1) w10 w11 := hw11.below (by omega)
  have M11 : Hid (Below w3b.heap.size w3b w11) := M10.out.trans (hB11.mono (by omega))
  have K11 : Hid (Below (w.heap.size + 1) (w.alloc (.cells #[.slice a c4 c, .slice p q4 q, .int .i64 fuel, .bool dead] 32)) w11) := K10.out.trans (hB11.mono (by omega))
  have G11 : Hid (RdY w11 a5 r0 LL (fun i j => IntKind.u8.wrap (yoff LL 1 i + j))) := hr11
  have X11 : Hid (Bx4 w11 w3.heap.size (.bool ok) (.slice a3 r0 c3) (.int .i64 us) (.int .i64 nx) ∧ Bx4 w11 w5.heap.size (.bool ok) (.slice a5 r0 c5) (.int .i64 us) (.int .i64 nx)) := ⟨(hw11.block _ (by omega) (Or.inl (by omega))).trans X10.out.1, (hw11.block _ (by omega) (Or.inr (by omega))).trans X10.out.2⟩
  clear hB11 hr11 hw11 G10 M10 K10 X10 t0 t1 t2 t4 t3
  obtain ⟨t0, t1, t2, t4, t3⟩ := X11.out.2.cells
  go_wp2_with fail
  refine (heldArea_yes ok a5 r0 c5 LL us nx w11 1 G11.out hr0 HLL.out (by omega) (by omega)).mono ?_
  rintro e w12 ⟨rfl, hb12⟩
  have z1112 := hb12.size
  have M12 : Hid (Below w3b.heap.size w3b w12) := M11.out.trans (hb12.mono (by omega))
  have K12 : Hid (Below (w.heap.size + 1) (w.alloc (.cells #[.slice a c4 c, .slice p q4 q, .int .i64 fuel, .bool dead] 32)) w12) := K11.out.trans (hb12.mono (by omega))
  clear hb12 M11 K11 G11 X11 t0 t1 t2 t4 t3
  obtain ⟨x0, x1, x2, x3, xz12⟩ := box4 K12.out
  have hq1 : ¬ yoff LL 1 r0 < 0 := by have := yoff_ge LL 1 r0; omega
  have hq2 : (yoff LL 1 r0 != yoff LL 1 r0) = false := by simp
  go_wp2_with fail
  refine (toDisk_any a p c4 c q4 q d S L F fuel dead w12 (HA.out.below (HJ.out K12.out)) (HP.out.below (HJ.out K12.out)) hn1 hm1 HL1.out).mono ?_
  rintro e w13 ⟨a13, c13, p13, q13, A13, rfl, ho13, hb13, rfl, rfl⟩
  have z1213 := hb13.size
  have H13 : Hid (Rd .u8 w13 a13 c13 d ∧ RdP w13 p13 q13 S L F) := ⟨ho13.data.rd, ho13.cache.rd⟩
  have M13 : Hid (Below w3b.heap.size w3b w13) := M12.out.trans (hb13.mono (by omega))
  have B13 : Hid (Below w.heap.size w w13) := (HJ.out K12.out).trans (hb13.mono (by omega))
  clear x0 x1 x2 x3 ho13 hb13 hq1 hq2
  go_wp2_with fail
  refine (HI.out w13 a13 p13 H13.out.1 H13.out.2).mono ?_
  rintro e w14 ⟨a14, c14, A14, rfl, ho14, hb14⟩
  have z1314 := hb14.size
  have M14 : Hid (Below w3b.heap.size w3b w14) := M13.out.trans (hb14.mono (by omega))
  have B14 : Hid (Below w.heap.size w w14) := B13.out.trans (hb14.mono (by omega))
  have H14 : Hid (RdY w14 a14 r0 LL FF) := ho14.rd
  have X14 : Hid (Bx4 w14 w3.heap.size (.bool ok) (.slice a3 r0 c3) (.int .i64 us) (.int .i64 nx)) := F3.out.2.2.1.keep M14.out
  clear ho14 hb14
  obtain ⟨s0, s1, s2, s4, s3⟩ := X14.out.cells
  go_wp2_with fail
  refine (eqArea_yes ok a14 a3 r0 c14 c3 LL FF us nx _ (H14.out.below (below_alloc _ _)) ((F3.out.2.1.below M14.out).below (below_alloc _ _)) hr0 HLL.out).mono ?_
  rintro e w15 ⟨rfl, hb15⟩
  have B15 : Hid (Below w.heap.size w w15) := (B14.out.alloc B14.out.size _).trans (hb15.mono (by have := B14.out.size; simp; omega))
  clear hb15
  go_wp2
  go_ret
  exact ⟨rfl, B15.out⟩
end Go.Proofs.Ytbpcafcipncloaa

namespace Go.Proofs.Ytbpcafcipncloaa
open Go.RowKit Go.Deep
set_option linter.unusedVariables false
set_option maxRecDepth 100000

set_option maxHeartbeats 2000000 in
theorem implArea_bad (a p : Option Addr) (n c m q : Nat) (S : Nat → Int) (L : Nat → Nat) (F : Nat → Nat → Int) (fuel : Int) (dead : Bool) (x first : Int) (w : World) (hp : RdP w p m S L F) (hn : n ≤ 1048576) (hm : m ≤ 1048576) (hbad : ¬ (VD n m S L fuel ∧ areaB x = true ∧ numB first = true)) (L2 : Nat → Nat) (F2 : Nat → Nat → Int) :
    Calls Try.prog 28 #[.agg #[.slice a n c, .slice p m q, .int .i64 fuel, .bool dead], .int .i64 x, .int .i64 first] w (RetA w false 0 L2 F2 0 0) := by
  have HP : Hid (RdP w p m S L F) := hp
  have HBAD : Hid (¬ (VD n m S L fuel ∧ areaB x = true ∧ numB first = true)) := hbad
  have HFIN : Hid (∀ W : World, Below (w.heap.size + 2) ((w.alloc (.cells #[.slice a n c, .slice p m q, .int .i64 fuel, .bool dead] 39)).alloc (.cells #[.bool false, .slice none 0 0, .int .i64 0, .int .i64 0] 51)) W → Below w.heap.size w W) := fun W h => ((below_alloc _ _).trans ((below_alloc _ _).mono (by simp))).trans (h.mono (by omega))
  have HE2 : Hid (∀ o1 o2, ((w.alloc o1).alloc o2).heap.size = w.heap.size + 2) := fun _ _ => by simp
  clear hp hbad
  go_enter Try.func28, Try.ntmps28
  go_wp2_with fail
  refine (implValid_any a p n c m q S L F fuel dead _ (HP.out.below ((below_alloc _ _).trans ((below_alloc _ _).mono (by simp)))) hn hm).mono ?_
  rintro e w1 ⟨⟨b1, rfl, hv1⟩, hb1⟩
  rw [HE2.out] at hb1
  have K1 : Hid (Below (w.heap.size + 2) ((w.alloc (.cells #[.slice a n c, .slice p m q, .int .i64 fuel, .bool dead] 39)).alloc (.cells #[.bool false, .slice none 0 0, .int .i64 0, .int .i64 0] 51)) w1) := hb1
  have z1 : w.heap.size + 2 ≤ w1.heap.size := by have := hb1.size; rw [HE2.out] at this; exact this
  have hc1 : ∀ b o, b < w.heap.size + 2 → w1.cell? ⟨b, o, none⟩ = _ := fun b o hb => K1.out.cell (p := ⟨b, o, none⟩) hb
  clear hb1
  cases b1 with
  | false =>
    clear hv1
    have RB : Hid (AxRow w1 (w.heap.size + 1) (.bool false) (.slice none 0 0) (.int .i64 0) (.int .i64 0)) := by
      have r := axNew (w.alloc (.cells #[.slice a n c, .slice p m q, .int .i64 fuel, .bool dead] 39)) (.bool false) (.slice none 0 0) (.int .i64 0) (.int .i64 0)
      rw [alloc_size] at r
      exact rowIn.of_block r (K1.out.block _ (by omega))
    obtain ⟨e0, e1, e2, e3, ef, el⟩ := RB.out.cells
    have HFX : Hid (Below w.heap.size w w1) := HFIN.out _ K1.out
    clear hc1
    go_wp2
    refine bodyPost_ret (v := .agg #[.bool false, .slice none 0 0, .int .i64 0, .int .i64 0]) (by simp [results, Try.results28, go_sem, e0, e1, e2, e3]) rfl ?_
    refine ⟨none, 0, fun _ => none, rfl, Or.inl rfl, ?_⟩
    exact (((HFX.out.setCell (by show w.heap.size ≤ w.heap.size + 1; omega) _).setCell (by show w.heap.size ≤ w.heap.size + 1; omega) _).setCell (by show w.heap.size ≤ w.heap.size + 1; omega) _).setCell (by show w.heap.size ≤ w.heap.size + 1; omega) _
  | true =>
    have HV : Hid (VD n m S L fuel) := hv1.1 rfl
    clear hv1
    go_wp2_with fail
    refine (isArea_any x w1).mono ?_
    rintro e w2 ⟨he, hw2⟩
    subst hw2
    cases hq : areaB x with
    | false =>
      rw [hq] at he
      subst he
      have RB : Hid (AxRow w2 (w.heap.size + 1) (.bool false) (.slice none 0 0) (.int .i64 0) (.int .i64 0)) := by
        have r := axNew (w.alloc (.cells #[.slice a n c, .slice p m q, .int .i64 fuel, .bool dead] 39)) (.bool false) (.slice none 0 0) (.int .i64 0) (.int .i64 0)
        rw [alloc_size] at r
        exact rowIn.of_block r (K1.out.block _ (by omega))
      obtain ⟨e0, e1, e2, e3, ef, el⟩ := RB.out.cells
      have HFX : Hid (Below w.heap.size w w2) := HFIN.out _ K1.out
      clear hc1
      go_wp2
      refine bodyPost_ret (v := .agg #[.bool false, .slice none 0 0, .int .i64 0, .int .i64 0]) (by simp [results, Try.results28, go_sem, e0, e1, e2, e3]) rfl ?_
      refine ⟨none, 0, fun _ => none, rfl, Or.inl rfl, ?_⟩
      exact (((HFX.out.setCell (by show w.heap.size ≤ w.heap.size + 1; omega) _).setCell (by show w.heap.size ≤ w.heap.size + 1; omega) _).setCell (by show w.heap.size ≤ w.heap.size + 1; omega) _).setCell (by show w.heap.size ≤ w.heap.size + 1; omega) _
    | true =>
      rw [hq] at he
      subst he
      have HNU : Hid (numB first = false) := by
        show _ = _
        cases hh : numB first with
        | false => rfl
        | true => exact absurd ⟨HV.out, hq, hh⟩ HBAD.out
      clear hq
      go_wp2_with fail
      refine (isNumber_any first w2).mono ?_
      rintro e w3 ⟨he, hw3⟩
      subst hw3
      rw [HNU.out] at he
      subst he
      have RB : Hid (AxRow w3 (w.heap.size + 1) (.bool false) (.slice none 0 0) (.int .i64 0) (.int .i64 0)) := by
        have r := axNew (w.alloc (.cells #[.slice a n c, .slice p m q, .int .i64 fuel, .bool dead] 39)) (.bool false) (.slice none 0 0) (.int .i64 0) (.int .i64 0)
        rw [alloc_size] at r
        exact rowIn.of_block r (K1.out.block _ (by omega))
      obtain ⟨e0, e1, e2, e3, ef, el⟩ := RB.out.cells
      have HFX : Hid (Below w.heap.size w w3) := HFIN.out _ K1.out
      clear hc1
      go_wp2
      refine bodyPost_ret (v := .agg #[.bool false, .slice none 0 0, .int .i64 0, .int .i64 0]) (by simp [results, Try.results28, go_sem, e0, e1, e2, e3]) rfl ?_
      refine ⟨none, 0, fun _ => none, rfl, Or.inl rfl, ?_⟩
      exact (((HFX.out.setCell (by show w.heap.size ≤ w.heap.size + 1; omega) _).setCell (by show w.heap.size ≤ w.heap.size + 1; omega) _).setCell (by show w.heap.size ≤ w.heap.size + 1; omega) _).setCell (by show w.heap.size ≤ w.heap.size + 1; omega) _
end Go.Proofs.Ytbpcafcipncloaa

namespace Go.Proofs.Ytbpcafcipncloaa
open Go.RowKit Go.Deep
set_option linter.unusedVariables false
set_option maxRecDepth 100000

set_option maxHeartbeats 2000000 in
theorem specArea_bad (a p : Option Addr) (n c m q : Nat) (S : Nat → Int) (L : Nat → Nat) (F : Nat → Nat → Int) (fuel : Int) (dead : Bool) (x first : Int) (w : World) (hp : RdP w p m S L F) (hn : n ≤ 1048576) (hm : m ≤ 1048576) (hbad : ¬ (VD n m S L fuel ∧ areaB x = true ∧ numB first = true)) (L2 : Nat → Nat) (F2 : Nat → Nat → Int) :
    Calls Try.prog 27 #[.agg #[.slice a n c, .slice p m q, .int .i64 fuel, .bool dead], .int .i64 x, .int .i64 first] w (RetA w false 0 L2 F2 0 0) := by
  have HP : Hid (RdP w p m S L F) := hp
  have HBAD : Hid (¬ (VD n m S L fuel ∧ areaB x = true ∧ numB first = true)) := hbad
  have HFIN : Hid (∀ W : World, Below (w.heap.size + 2) ((w.alloc (.cells #[.slice a n c, .slice p m q, .int .i64 fuel, .bool dead] 39)).alloc (.cells #[.bool false, .slice none 0 0, .int .i64 0, .int .i64 0] 51)) W → Below w.heap.size w W) := fun W h => ((below_alloc _ _).trans ((below_alloc _ _).mono (by simp))).trans (h.mono (by omega))
  have HE2 : Hid (∀ o1 o2, ((w.alloc o1).alloc o2).heap.size = w.heap.size + 2) := fun _ _ => by simp
  clear hp hbad
  go_enter Try.func27, Try.ntmps27
  go_wp2_with fail
  refine (specValid_any a p n c m q S L F fuel dead _ (HP.out.below ((below_alloc _ _).trans ((below_alloc _ _).mono (by simp)))) hn hm).mono ?_
  rintro e w1 ⟨⟨b1, rfl, hv1⟩, hb1⟩
  rw [HE2.out] at hb1
  have K1 : Hid (Below (w.heap.size + 2) ((w.alloc (.cells #[.slice a n c, .slice p m q, .int .i64 fuel, .bool dead] 39)).alloc (.cells #[.bool false, .slice none 0 0, .int .i64 0, .int .i64 0] 51)) w1) := hb1
  have z1 : w.heap.size + 2 ≤ w1.heap.size := by have := hb1.size; rw [HE2.out] at this; exact this
  have hc1 : ∀ b o, b < w.heap.size + 2 → w1.cell? ⟨b, o, none⟩ = _ := fun b o hb => K1.out.cell (p := ⟨b, o, none⟩) hb
  clear hb1
  cases b1 with
  | false =>
    clear hv1
    have RB : Hid (AxRow w1 (w.heap.size + 1) (.bool false) (.slice none 0 0) (.int .i64 0) (.int .i64 0)) := by
      have r := axNew (w.alloc (.cells #[.slice a n c, .slice p m q, .int .i64 fuel, .bool dead] 39)) (.bool false) (.slice none 0 0) (.int .i64 0) (.int .i64 0)
      rw [alloc_size] at r
      exact rowIn.of_block r (K1.out.block _ (by omega))
    obtain ⟨e0, e1, e2, e3, ef, el⟩ := RB.out.cells
    have HFX : Hid (Below w.heap.size w w1) := HFIN.out _ K1.out
    clear hc1
    go_wp2
    refine bodyPost_ret (v := .agg #[.bool false, .slice none 0 0, .int .i64 0, .int .i64 0]) (by simp [results, Try.results27, go_sem, e0, e1, e2, e3]) rfl ?_
    refine ⟨none, 0, fun _ => none, rfl, Or.inl rfl, ?_⟩
    exact (((HFX.out.setCell (by show w.heap.size ≤ w.heap.size + 1; omega) _).setCell (by show w.heap.size ≤ w.heap.size + 1; omega) _).setCell (by show w.heap.size ≤ w.heap.size + 1; omega) _).setCell (by show w.heap.size ≤ w.heap.size + 1; omega) _
  | true =>
    have HV : Hid (VD n m S L fuel) := hv1.1 rfl
    clear hv1
    by_cases c1 : x < 0
    · have c1' : decide (x < 0) = true := decide_eq_true c1
      have RB : Hid (AxRow w1 (w.heap.size + 1) (.bool false) (.slice none 0 0) (.int .i64 0) (.int .i64 0)) := by
        have r := axNew (w.alloc (.cells #[.slice a n c, .slice p m q, .int .i64 fuel, .bool dead] 39)) (.bool false) (.slice none 0 0) (.int .i64 0) (.int .i64 0)
        rw [alloc_size] at r
        exact rowIn.of_block r (K1.out.block _ (by omega))
      obtain ⟨e0, e1, e2, e3, ef, el⟩ := RB.out.cells
      have HFX : Hid (Below w.heap.size w w1) := HFIN.out _ K1.out
      clear hc1
      go_wp2
      refine bodyPost_ret (v := .agg #[.bool false, .slice none 0 0, .int .i64 0, .int .i64 0]) (by simp [results, Try.results27, go_sem, e0, e1, e2, e3]) rfl ?_
      refine ⟨none, 0, fun _ => none, rfl, Or.inl rfl, ?_⟩
      exact (((HFX.out.setCell (by show w.heap.size ≤ w.heap.size + 1; omega) _).setCell (by show w.heap.size ≤ w.heap.size + 1; omega) _).setCell (by show w.heap.size ≤ w.heap.size + 1; omega) _).setCell (by show w.heap.size ≤ w.heap.size + 1; omega) _
    · have c1' : decide (x < 0) = false := decide_eq_false c1
      by_cases c2 : (1 : Int) < x
      · have c2' : decide ((1 : Int) < x) = true := decide_eq_true c2
        have RB : Hid (AxRow w1 (w.heap.size + 1) (.bool false) (.slice none 0 0) (.int .i64 0) (.int .i64 0)) := by
          have r := axNew (w.alloc (.cells #[.slice a n c, .slice p m q, .int .i64 fuel, .bool dead] 39)) (.bool false) (.slice none 0 0) (.int .i64 0) (.int .i64 0)
          rw [alloc_size] at r
          exact rowIn.of_block r (K1.out.block _ (by omega))
        obtain ⟨e0, e1, e2, e3, ef, el⟩ := RB.out.cells
        have HFX : Hid (Below w.heap.size w w1) := HFIN.out _ K1.out
        clear hc1
        go_wp2
        refine bodyPost_ret (v := .agg #[.bool false, .slice none 0 0, .int .i64 0, .int .i64 0]) (by simp [results, Try.results27, go_sem, e0, e1, e2, e3]) rfl ?_
        refine ⟨none, 0, fun _ => none, rfl, Or.inl rfl, ?_⟩
        exact (((HFX.out.setCell (by show w.heap.size ≤ w.heap.size + 1; omega) _).setCell (by show w.heap.size ≤ w.heap.size + 1; omega) _).setCell (by show w.heap.size ≤ w.heap.size + 1; omega) _).setCell (by show w.heap.size ≤ w.heap.size + 1; omega) _
      · have c2' : decide ((1 : Int) < x) = false := decide_eq_false c2
        have HNU : Hid (numB first = false) := by
          show _ = _
          cases hh : numB first with
          | false => rfl
          | true => exact absurd ⟨HV.out, by unfold areaB; simp; omega, hh⟩ HBAD.out
        go_wp2_with fail
        refine (l2Number_any first w1).mono ?_
        rintro e w3 ⟨he, hw3⟩
        subst hw3
        rw [HNU.out] at he
        subst he
        have RB : Hid (AxRow w3 (w.heap.size + 1) (.bool false) (.slice none 0 0) (.int .i64 0) (.int .i64 0)) := by
          have r := axNew (w.alloc (.cells #[.slice a n c, .slice p m q, .int .i64 fuel, .bool dead] 39)) (.bool false) (.slice none 0 0) (.int .i64 0) (.int .i64 0)
          rw [alloc_size] at r
          exact rowIn.of_block r (K1.out.block _ (by omega))
        obtain ⟨e0, e1, e2, e3, ef, el⟩ := RB.out.cells
        have HFX : Hid (Below w.heap.size w w3) := HFIN.out _ K1.out
        clear hc1
        go_wp2
        refine bodyPost_ret (v := .agg #[.bool false, .slice none 0 0, .int .i64 0, .int .i64 0]) (by simp [results, Try.results27, go_sem, e0, e1, e2, e3]) rfl ?_
        refine ⟨none, 0, fun _ => none, rfl, Or.inl rfl, ?_⟩
        exact (((HFX.out.setCell (by show w.heap.size ≤ w.heap.size + 1; omega) _).setCell (by show w.heap.size ≤ w.heap.size + 1; omega) _).setCell (by show w.heap.size ≤ w.heap.size + 1; omega) _).setCell (by show w.heap.size ≤ w.heap.size + 1; omega) _
end Go.Proofs.Ytbpcafcipncloaa

namespace Go.Proofs.Ytbpcafcipncloaa
open Go.RowKit Go.Deep
set_option linter.unusedVariables false
set_option maxRecDepth 100000

/-- The disk's bytes, nought behind its end. -/
def cutY (n : Nat) (d : Nat → Int) (i : Nat) : Int := if i < n then d i else 0

theorem lastAt_ltY {S : Nat → Int} {s : Int} : ∀ {m k : Nat}, lastAt S s m = some k → k < m
  | 0, k, h => by simp [lastAt] at h
  | m + 1, k, h => by
    unfold lastAt at h
    split at h
    · injection h with h; omega
    · have := lastAt_ltY h; omega

theorem secF_allY {n m : Nat} {d S : Nat → Int} {L : Nat → Nat} {F : Nat → Nat → Int} {fuel : Int} (hv : VD n m S L fuel) (hd : ∀ i, i < n → 0 ≤ d i ∧ d i < 256) (hF : ∀ i, i < m → ∀ j, j < L i → 0 ≤ F i j ∧ F i j < 256) (s i : Nat) (hi : i < 64) : 0 ≤ secF (cutY n d) S F m s i ∧ secF (cutY n d) S F m s i < 256 := by
  cases h : lastAt S s m with
  | none =>
    rw [secF_none h]
    show 0 ≤ cutY n d (s * 64 + i) ∧ cutY n d (s * 64 + i) < 256
    unfold cutY
    split
    · rename_i h1; exact hd _ h1
    · omega
  | some k =>
    rw [secF_some h]
    have hk := lastAt_ltY h
    exact hF k hk i (by rw [(hv.2 k hk).2.2]; exact hi)

theorem raLaw (v : Value) (x first : Int) (w : World) (hv : IsDisk w v) (_ : (Lit.int .i64 x).wf = true) (_ : (Lit.int .i64 first).wf = true) :
    Calls Try.prog 7 #[v, .int .i64 x, .int .i64 first] w fun e w' => e = .returned (.bool true) ∧ Below w.heap.size w w' := by
  obtain ⟨a, n, c, d, p, m, q, S, L, F, fuel, dead, rfl, ha, hd, hn, hp, hpb, hm, _⟩ := hv
  have hL0 : ∀ i, i < m → L i ≤ maxLen := fun i hi => (hpb i hi).2.2
  have ha' : Rd .u8 w a n (cutY n d) := ha.congr (fun i hi => by unfold cutY; rw [if_pos hi])
  by_cases hg : VD n m S L fuel ∧ areaB x = true ∧ numB first = true
  · obtain ⟨hV, hx, hq⟩ := hg
    have hx2 : 0 ≤ x ∧ x < 2 := by
      unfold areaB at hx
      simp at hx
      omega
    obtain ⟨ar, har⟩ := Int.eq_ofNat_of_zero_le hx2.1
    have har1 : ar ≤ 1 := by omega
    have hf1 : 1 ≤ first := by
      unfold numB at hq
      simp at hq
      omega
    have hVH := hV.1
    unfold VH at hVH
    have hr := secF_allY hV hd (fun i hi => (hpb i hi).1)
    obtain ⟨J, hJ, hJn⟩ := ar_last (secF (cutY n d) S F m) (n / 64) ((n / 64 - 2) / 2) (2 + ar * ((n / 64 - 2) / 2)) first hf1
    have hJA := arU_le J hJ
    exact raLaw0 a p n c m q (cutY n d) S L F fuel dead x first (decide (0 < J)) J (arL (secF (cutY n d) S F m) (2 + ar * ((n / 64 - 2) / 2))) (arF (secF (cutY n d) S F m) (2 + ar * ((n / 64 - 2) / 2))) (arU (secF (cutY n d) S F m) (2 + ar * ((n / 64 - 2) / 2)) J) (if 0 < J then first + J else 0) w ha' hp hn hm hL0 (by omega) (fun i hi => by have := arL_le (hJ i hi); omega)
      (fun hn1 hm1 W a' p' hr1 hp1 => specArea_good a' p' n n m m (cutY n d) S L F fuel dead x first ar _ _ J W hr1 hp1 hV har har1 hq rfl rfl hn1 (Nat.le_refl _) (by omega) hm1 hr hJ hJn)
      (fun hn1 hm1 W a' p' hr1 hp1 => implArea_good a' p' n n m m (cutY n d) S L F fuel dead x first ar _ _ J W hr1 hp1 hV har har1 hq rfl rfl hn1 (Nat.le_refl _) (by omega) hm1 hr hJ hJn)
  · exact raLaw0 a p n c m q (cutY n d) S L F fuel dead x first false 0 (fun _ => 0) (fun _ _ => 0) 0 0 w ha' hp hn hm hL0 (by omega) (fun i hi => absurd hi (Nat.not_lt_zero _))
      (fun hn1 hm1 W a' p' hr1 hp1 => specArea_bad a' p' n n m m S L F fuel dead x first W hp1 hn1 hm1 hg _ _)
      (fun hn1 hm1 W a' p' hr1 hp1 => implArea_bad a' p' n n m m S L F fuel dead x first W hp1 hn1 hm1 hg _ _)
end Go.Proofs.Ytbpcafcipncloaa
