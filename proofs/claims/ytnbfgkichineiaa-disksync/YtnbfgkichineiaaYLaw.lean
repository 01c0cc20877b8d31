import Derived.Test.YtnbfgkichineiaaSyncI
import Derived.Test.YtnbfgkichineiaaSpecY
import Derived.Test.YtnbfgkichineiaaOpenDisk
import Derived.Test.YtnbfgkichineiaaSz
import Derived.Test.YtnbfgkichineiaaToDisk
import Derived.Test.YtnbfgkichineiaaBox
import Derived.Deep.RegionHeld3
namespace Go.Proofs.Ytnbfgkichineiaa
open Go.RowKit Go.Deep
set_option linter.unusedVariables false
set_option maxRecDepth 100000

set_option maxHeartbeats 4000000 in
theorem yLaw0 (a p : Option Addr) (n c m q : Nat) (d S : Nat → Int) (L : Nat → Nat) (F : Nat → Nat → Int) (fuel : Int) (dead : Bool) (w : World) (ha : Rd .u8 w a n d) (hp : RdP w p m S L F) (hn : n ≤ maxLen) (hm : m ≤ maxLen) (hL : ∀ i, i < m → L i ≤ maxLen)
    (n2 m2 : Nat) (d2 S2 : Nat → Int) (L2 : Nat → Nat) (F2 : Nat → Nat → Int) (fuel2 : Int) (dead2 : Bool)
    (hspec : n ≤ 1048576 → m ≤ 1048576 → (∀ i, i < m → L i ≤ 1048576) → n2 ≤ 1048576 ∧ m2 ≤ 1048576 ∧ (∀ i, i < m2 → L2 i ≤ 1048576) ∧ ∀ W a p, Rd .u8 W a n d → RdP W p m S L F → Calls Try.prog 26 #[.agg #[.slice a n n, .slice p m m, .int .i64 fuel, .bool dead]] W fun e w' => RetD W e w' n2 d2 m2 S2 L2 F2 fuel2 dead2)
    (himpl : n ≤ 1048576 → m ≤ 1048576 → (∀ i, i < m → L i ≤ 1048576) → ∀ W a p, Rd .u8 W a n d → RdP W p m S L F → Calls Try.prog 27 #[.agg #[.slice a n n, .slice p m m, .int .i64 fuel, .bool dead]] W fun e w' => RetD W e w' n2 d2 m2 S2 L2 F2 fuel2 dead2) :
    Calls Try.prog 7 #[.agg #[.slice a n c, .slice p m q, .int .i64 fuel, .bool dead]] w fun e w' => e = .returned (.bool true) ∧ Below w.heap.size w w' := by
  have HA : Hid (Rd .u8 w a n d) := ha
  have HP : Hid (RdP w p m S L F) := hp
  have HL : Hid (∀ i, i < m → L i ≤ maxLen) := hL
  have HSP : Hid (n ≤ 1048576 → m ≤ 1048576 → (∀ i, i < m → L i ≤ 1048576) → n2 ≤ 1048576 ∧ m2 ≤ 1048576 ∧ (∀ i, i < m2 → L2 i ≤ 1048576) ∧ ∀ W a p, Rd .u8 W a n d → RdP W p m S L F → Calls Try.prog 26 #[.agg #[.slice a n n, .slice p m m, .int .i64 fuel, .bool dead]] W fun e w' => RetD W e w' n2 d2 m2 S2 L2 F2 fuel2 dead2) := hspec
  have HIM : Hid (n ≤ 1048576 → m ≤ 1048576 → (∀ i, i < m → L i ≤ 1048576) → ∀ W a p, Rd .u8 W a n d → RdP W p m S L F → Calls Try.prog 27 #[.agg #[.slice a n n, .slice p m m, .int .i64 fuel, .bool dead]] W fun e w' => RetD W e w' n2 d2 m2 S2 L2 F2 fuel2 dead2) := himpl
  clear ha hp hL hspec himpl
  go_enter Try.func7, Try.ntmps7
  go_wp2_with fail
  refine (szDisk_any a p n c m q S L F fuel dead _ hn (HP.out.below (below_alloc _ _)) hm HL.out).mono ?_
  rintro e w1 ⟨r, rfl, hr, hb1⟩
  have A1 : Hid (Box4 w1 w.heap.size (.slice a n c) (.slice p m q) (.int .i64 fuel) (.bool dead)) := (Box4.new w _ _ _ _ 32).below hb1
  have B1 : Hid (Below w.heap.size w w1) := (below_alloc _ _).trans (hb1.mono (by simp))
  clear hb1
  rcases hr with rfl | ⟨hr0, hn1, hm1, hL1⟩
  · go_wp2
    go_ret
    exact ⟨rfl, B1.out⟩
  have hr1 : ¬ r < 0 := by omega
  have HL1 : Hid (∀ i, i < m → L i ≤ 1048576) := hL1
  obtain ⟨hn2, hm2, hL2, hS⟩ := HSP.out hn1 hm1 HL1.out
  have HL2 : Hid (∀ i, i < m2 → L2 i ≤ 1048576) := hL2
  have HS : Hid (∀ W a p, Rd .u8 W a n d → RdP W p m S L F → Calls Try.prog 26 #[.agg #[.slice a n n, .slice p m m, .int .i64 fuel, .bool dead]] W fun e w' => RetD W e w' n2 d2 m2 S2 L2 F2 fuel2 dead2) := hS
  have HI : Hid (∀ W a p, Rd .u8 W a n d → RdP W p m S L F → Calls Try.prog 27 #[.agg #[.slice a n n, .slice p m m, .int .i64 fuel, .bool dead]] W fun e w' => RetD W e w' n2 d2 m2 S2 L2 F2 fuel2 dead2) := HIM.out hn1 hm1 HL1.out
  clear hL1 hn hm HSP HIM HL hL2 hS
  obtain ⟨x0, x1, x2, x3, xz⟩ := A1.out
  -- the specification's answer
  go_wp2_with fail
  refine (toDisk_any a p n c m q d S L F fuel dead w1 (HA.out.below B1.out) (HP.out.below B1.out) hn1 hm1 HL1.out).mono ?_
  rintro e w2 ⟨a2, c2, p2, q2, A2, rfl, ho2, hb2, hc2, hq2⟩
  rw [hc2, hq2]
  have z2 := hb2.size
  have R2 : Hid (Rd .u8 w2 a2 n d ∧ RdP w2 p2 m S L F) := ⟨ho2.data.rd, ho2.cache.rd⟩
  have B2 : Hid (Below w.heap.size w w2) := B1.out.trans (hb2.mono B1.out.size)
  have A2' : Hid (Box4 w2 w.heap.size (.slice a n c) (.slice p m q) (.int .i64 fuel) (.bool dead)) := A1.out.below hb2
  clear ho2 hb2 hc2 hq2 x0 x1 x2 x3 xz A1 B1
  go_wp2_with fail
  refine (HS.out w2 a2 p2 R2.out.1 R2.out.2).mono ?_
  rintro e w4 ⟨a4, c4, p4, q4, A4, rfl, ho4, hb4⟩
  have z4 := hb4.size
  have B4 : Hid (Below w.heap.size w w4) := B2.out.trans (hb4.mono B2.out.size)
  have A4' : Hid (Box4 w4 w.heap.size (.slice a n c) (.slice p m q) (.int .i64 fuel) (.bool dead)) := A2'.out.below hb4
  have R4 : Hid (Rd .u8 w4 a4 n2 d2 ∧ RdP w4 p4 m2 S2 L2 F2) := ⟨ho4.data.rd, ho4.cache.rd⟩
  obtain ⟨x0, x1, x2, x3, xz⟩ := A4'.out
  clear ho4 hb4 R2 B2 A2' HS
  -- impl's arguments
  go_wp2_with fail
  refine (toDisk_any a p n c m q d S L F fuel dead _ ((HA.out.below B4.out).below (below_alloc _ _)) ((HP.out.below B4.out).below (below_alloc _ _)) hn1 hm1 HL1.out).mono ?_
  rintro e w5 ⟨a5, c5, p5, q5, A5, rfl, ho5, hb5, hc5, hq5⟩
  rw [hc5, hq5]
  rw [alloc_size] at ho5 hb5
  have z5 : w4.heap.size + 1 ≤ w5.heap.size := by have := hb5.size; simpa using this
  -- what lies below: the argument, the other argument, the specification's answer
  have LA : Hid (∀ W, Below (w4.heap.size + 1) (w4.alloc (.cells #[.slice a4 n2 c4, .slice p4 m2 q4, .int .i64 fuel2, .bool dead2] 25)) W → (Below w.heap.size w W ∧ Box4 W w.heap.size (.slice a n c) (.slice p m q) (.int .i64 fuel) (.bool dead) ∧ Rd .u8 W a n d ∧ RdP W p m S L F) ∧
      Box4 W w4.heap.size (.slice a4 n2 c4) (.slice p4 m2 q4) (.int .i64 fuel2) (.bool dead2) ∧ Rd .u8 W a4 n2 d2 ∧ RdP W p4 m2 S2 L2 F2) := by
    intro W hW
    have h4 : Below w4.heap.size w4 W := (below_alloc _ _).trans (hW.mono (by omega))
    have h0 : Below w.heap.size w W := B4.out.trans (h4.mono B4.out.size)
    exact ⟨⟨h0, A4'.out.below h4, HA.out.below h0, HP.out.below h0⟩, (Box4.new w4 _ _ _ _ 25).below (hW.mono (by simp)), R4.out.1.below h4, R4.out.2.below h4⟩
  have M5 : Hid (Below (w4.heap.size + 1) (w4.alloc (.cells #[.slice a4 n2 c4, .slice p4 m2 q4, .int .i64 fuel2, .bool dead2] 25)) w5) := hb5
  have H5 : Hid (OwnD w5 (w4.heap.size + 1) a5 n d p5 m S L F A5) := ho5
  clear ho5 hb5 hc5 hq5 x0 x1 x2 x3 xz A4' B4 R4 HA HP
  obtain ⟨w6, hw6⟩ : ∃ W, W = w5.alloc (.cells #[.slice a5 n n, .slice p5 m m, .int .i64 fuel, .bool dead] 25) := ⟨_, rfl⟩
  have z6 : w6.heap.size = w5.heap.size + 1 := by rw [hw6]; simp
  have M6 : Hid (Below (w4.heap.size + 1) (w4.alloc (.cells #[.slice a4 n2 c4, .slice p4 m2 q4, .int .i64 fuel2, .bool dead2] 25)) w6) := by rw [hw6]; exact M5.out.alloc (by omega) _
  have C6 : Hid (Below (w5.heap.size + 1) (w5.alloc (.cells #[.slice a5 n n, .slice p5 m m, .int .i64 fuel, .bool dead] 25)) w6) := by rw [hw6]; exact Below.refl _ _
  have D6 : Hid (OwnD w6 (w4.heap.size + 1) a5 n d p5 m S L F A5) := by rw [hw6]; exact H5.out.below (below_alloc _ _)
  go_wp2_with fail
  rw [← hw6]
  refine (HI.out w6 a5 p5 D6.out.data.rd D6.out.cache.rd).mono ?_
  clear hw6
  rintro e w7 ⟨a7, c7, p7, q7, A7, rfl, ho7, hb7⟩
  have z7 := hb7.size
  have M7 : Hid (Below (w4.heap.size + 1) (w4.alloc (.cells #[.slice a4 n2 c4, .slice p4 m2 q4, .int .i64 fuel2, .bool dead2] 25)) w7) := M6.out.trans (hb7.mono (by omega))
  have C7 : Hid (Below (w5.heap.size + 1) (w5.alloc (.cells #[.slice a5 n n, .slice p5 m m, .int .i64 fuel, .bool dead] 25)) w7) := C6.out.trans (hb7.mono (by omega))
  have G7 : Hid (OwnD w7 w6.heap.size a7 n2 d2 p7 m2 S2 L2 F2 A7) := ho7
  have G7L : Hid (LtB w7.heap.size a7 n2 ∧ LtB w7.heap.size p7 m2 ∧ ∀ i, i < m2 → LtB w7.heap.size (A7 i) (L2 i)) := ho7.ltB
  obtain ⟨⟨_, _⟩, yb, _⟩ := LA.out _ M7.out
  obtain ⟨y0, y1, y2, y3, yz⟩ := yb
  clear ho7 hb7 D6 C6 M6
  go_wp2_with fail
  refine (eqDisk_yes a7 a4 n2 c7 c4 d2 p7 p4 m2 q7 q4 S2 L2 F2 fuel2 dead2 _ (G7.out.data.rd.below (below_alloc _ _)) ((LA.out _ M7.out).2.2.1.below (below_alloc _ _)) (G7.out.cache.rd.below (below_alloc _ _)) ((LA.out _ M7.out).2.2.2.below (below_alloc _ _)) (by omega) hm2 HL2.out).mono ?_
  rintro e w8 ⟨rfl, hb8⟩
  rw [alloc_size] at hb8
  have z8 : w7.heap.size + 1 ≤ w8.heap.size := by have := hb8.size; simpa using this
  have N8 : Below w7.heap.size w7 w8 := (below_alloc _ _).trans (hb8.mono (by omega))
  have M8 : Hid (Below (w4.heap.size + 1) (w4.alloc (.cells #[.slice a4 n2 c4, .slice p4 m2 q4, .int .i64 fuel2, .bool dead2] 25)) w8) := M7.out.trans (N8.mono (by omega))
  have C8 : Hid (Below (w5.heap.size + 1) (w5.alloc (.cells #[.slice a5 n n, .slice p5 m m, .int .i64 fuel, .bool dead] 25)) w8) := C7.out.trans (N8.mono (by omega))
  have G8 : Hid (OwnD w8 w6.heap.size a7 n2 d2 p7 m2 S2 L2 F2 A7 ∧ Box4 w8 w7.heap.size (.slice a7 n2 c7) (.slice p7 m2 q7) (.int .i64 fuel2) (.bool dead2)) := ⟨G7.out.below N8, (Box4.new w7 _ _ _ _ 25).below (hb8.mono (by simp))⟩
  have D8 : Hid (OwnD w8 (w4.heap.size + 1) a5 n d p5 m S L F A5 ∧ Box4 w8 w5.heap.size (.slice a5 n n) (.slice p5 m m) (.int .i64 fuel) (.bool dead)) :=
    ⟨(H5.out.below (below_alloc _ _)).below (C8.out.mono (by simp)), (Box4.new w5 _ _ _ _ 25).below (C8.out.mono (by simp))⟩
  clear hb8 N8 y0 y1 y2 y3 yz C7 M7 G7
  obtain ⟨x0, x1, x2, x3, xz⟩ := (LA.out _ M8.out).1.2.1
  obtain ⟨y0, y1, y2, y3, yz⟩ := D8.out.2
  go_wp2
  go_region_held3 (fun w' => (w'.cell? ⟨w5.heap.size, 0, none⟩ = some (.slice a5 n n) ∧ w'.cell? ⟨w5.heap.size, 1, none⟩ = some (.slice p5 m m) ∧ w'.cell? ⟨w5.heap.size, 2, none⟩ = some (.int .i64 fuel) ∧ w'.cell? ⟨w5.heap.size, 3, none⟩ = some (.bool dead)) ∧ w'.cell? ⟨w.heap.size, 0, none⟩ = some (.slice a n c) ∧ w'.cell? ⟨w.heap.size, 1, none⟩ = some (.slice p m q) ∧ w'.cell? ⟨w.heap.size, 2, none⟩ = some (.int .i64 fuel) ∧ w'.cell? ⟨w.heap.size, 3, none⟩ = some (.bool dead)) (go_keep)
    (first
    | (go_at_call 16; refine (toDisk_any a p n c m q d S L F fuel dead w8.drew ?_ ?_ hn1 hm1 HL1.out).mono ?_; exact (LA.out _ M8.out).1.2.2.1; exact (LA.out _ M8.out).1.2.2.2; rintro e w9 ⟨a9, c9, p9, q9, A9, rfl, ho9, hb9, -⟩; obtain ⟨u0, u1, u2, u3, uz⟩ := Box4.below (w := w8.drew) D8.out.2 hb9; obtain ⟨v0, v1, v2, v3, vz⟩ := Box4.below (w := w8.drew) (LA.out _ M8.out).1.2.1 hb9)
    | (go_at_call 11; refine (eqDisk_yes a5 a9 n n c9 d p5 p9 m m q9 S L F fuel dead w9 ?_ ?_ ?_ ?_ ?_ hm1 HL1.out).mono ?_; exact Rd.below (w := w8.drew) D8.out.1.data.rd hb9; exact ho9.data.rd; exact RdP.below (w := w8.drew) D8.out.1.cache.rd hb9; exact ho9.cache.rd; omega; rintro e w10 ⟨rfl, hb10⟩; obtain ⟨u0, u1, u2, u3, uz⟩ := Box4.below (Box4.below (w := w8.drew) D8.out.2 hb9) hb10; obtain ⟨v0, v1, v2, v3, vz⟩ := Box4.below (Box4.below (w := w8.drew) (LA.out _ M8.out).1.2.1 hb9) hb10))
  have hb10' : Below w8.heap.size w8 w10 := ((Below.refl _ _).drew.trans (hb9.mono (by simp))).trans (hb10.mono (by have := hb9.size; simpa using this))
  clear hb9 hb10 ho9 u0 u1 u2 u3 uz v0 v1 v2 v3 vz x0 x1 x2 x3 xz y0 y1 y2 y3 yz
  have z10 := hb10'.size
  have M10 : Hid (Below (w4.heap.size + 1) (w4.alloc (.cells #[.slice a4 n2 c4, .slice p4 m2 q4, .int .i64 fuel2, .bool dead2] 25)) w10) := M8.out.trans (hb10'.mono (by omega))
  have G10 : Hid (OwnD w10 w6.heap.size a7 n2 d2 p7 m2 S2 L2 F2 A7 ∧ Box4 w10 w7.heap.size (.slice a7 n2 c7) (.slice p7 m2 q7) (.int .i64 fuel2) (.bool dead2)) := ⟨G8.out.1.below hb10', G8.out.2.below hb10'⟩
  have D10 : Hid (OwnD w10 (w4.heap.size + 1) a5 n d p5 m S L F A5 ∧ Box4 w10 w5.heap.size (.slice a5 n n) (.slice p5 m m) (.int .i64 fuel) (.bool dead)) := ⟨D8.out.1.below hb10', D8.out.2.below hb10'⟩
  clear hb10' M8 G8 D8
  obtain ⟨y0, y1, y2, y3, yz⟩ := D10.out.2
  -- the copies are written over
  go_wp2_with fail
  refine (markDisk_own a5 p5 n n m m (w4.heap.size + 1) w5.heap.size d S L F A5 fuel dead w10 1 D10.out.1.data D10.out.1.cache D10.out.1.apart H5.out.data.ltB H5.out.cache.ltB hn1 hm1 HL1.out (by omega) (by omega)).mono ?_
  rintro e w13 ⟨rfl, -, -, hw13⟩
  have z13 := hw13.size
  have hkk0 : 0 ≤ koff L (1 + (n : Int)) m := by have := koff_ge L (1 + (n : Int)) m; omega
  have hkk1 := koff_top L (1 + (n : Int)) m hm1 HL1.out (by omega) m (Nat.le_refl _)
  generalize koff L (1 + (n : Int)) m = kk at *
  have M13 : Hid (Below (w4.heap.size + 1) (w4.alloc (.cells #[.slice a4 n2 c4, .slice p4 m2 q4, .int .i64 fuel2, .bool dead2] 25)) w13) := M10.out.trans (hw13.below (by omega))
  have G13 : Hid (OwnD w13 w6.heap.size a7 n2 d2 p7 m2 S2 L2 F2 A7 ∧ Box4 w13 w7.heap.size (.slice a7 n2 c7) (.slice p7 m2 q7) (.int .i64 fuel2) (.bool dead2)) := ⟨G10.out.1.within (by omega) hw13, G10.out.2.within (by omega) hw13⟩
  clear hw13 M10 G10 D10 y0 y1 y2 y3 yz
  have hkk2 : ¬ kk < 0 := by omega
  obtain ⟨y0, y1, y2, y3, yz⟩ := G13.out.2
  obtain ⟨x0, x1, x2, x3, xz⟩ := (LA.out _ M13.out).2.1
  go_wp2_with fail
  refine (eqDisk_yes a7 a4 n2 c7 c4 d2 p7 p4 m2 q7 q4 S2 L2 F2 fuel2 dead2 w13 G13.out.1.data.rd (LA.out _ M13.out).2.2.1 G13.out.1.cache.rd (LA.out _ M13.out).2.2.2 (by omega) hm2 HL2.out).mono ?_
  rintro e w15 ⟨rfl, hb15⟩
  clear x0 x1 x2 x3 xz y0 y1 y2 y3 yz
  have z15 := hb15.size
  have M15 : Hid (Below (w4.heap.size + 1) (w4.alloc (.cells #[.slice a4 n2 c4, .slice p4 m2 q4, .int .i64 fuel2, .bool dead2] 25)) w15) := M13.out.trans (hb15.mono (by omega))
  have G15 : Hid (OwnD w15 w6.heap.size a7 n2 d2 p7 m2 S2 L2 F2 A7 ∧ Box4 w15 w7.heap.size (.slice a7 n2 c7) (.slice p7 m2 q7) (.int .i64 fuel2) (.bool dead2)) := ⟨G13.out.1.below hb15, G13.out.2.below hb15⟩
  clear hb15 M13 G13
  obtain ⟨y0, y1, y2, y3, yz⟩ := G15.out.2
  -- the answer is written over and read back
  go_wp2_with fail
  refine (markDisk_own a7 p7 n2 c7 m2 q7 w6.heap.size w7.heap.size d2 S2 L2 F2 A7 fuel2 dead2 w15 1 G15.out.1.data G15.out.1.cache G15.out.1.apart G7L.out.1 G7L.out.2 hn2 hm2 HL2.out (by omega) (by omega)).mono ?_
  rintro e w16 ⟨rfl, hr16, hp16, hw16⟩
  have z16 := hw16.size
  have M16 : Hid (Below (w4.heap.size + 1) (w4.alloc (.cells #[.slice a4 n2 c4, .slice p4 m2 q4, .int .i64 fuel2, .bool dead2] 25)) w16) := M15.out.trans ((hw16.below (by omega)).mono (by omega))
  have R16 : Hid (Rd .u8 w16 a7 n2 (fun i => IntKind.u8.wrap (1 + i)) ∧ RdP w16 p7 m2 (fun i => koff L2 (1 + (n2 : Int)) i) L2 (fun i j => IntKind.u8.wrap (koff L2 (1 + (n2 : Int)) i + 1 + j))) := ⟨hr16, hp16⟩
  have BG16 : Hid (Box4 w16 w7.heap.size (.slice a7 n2 c7) (.slice p7 m2 q7) (.int .i64 fuel2) (.bool dead2)) := G15.out.2.within (Nat.le_refl _) hw16
  clear y0 y1 y2 y3 yz hr16 hp16 hw16 M15 G15
  obtain ⟨y0, y1, y2, y3, yz⟩ := BG16.out
  go_wp2_with fail
  refine (heldDisk_yes a7 p7 n2 c7 m2 q7 L2 fuel2 dead2 w16 1 R16.out.1 R16.out.2 hn2 hm2 HL2.out (by omega) (by omega)).mono ?_
  rintro e w17 ⟨rfl, hb17⟩
  have hq1 : ¬ koff L2 (1 + (n2 : Int)) m2 < 0 := by have := koff_ge L2 (1 + (n2 : Int)) m2; omega
  have hq2 : (koff L2 (1 + (n2 : Int)) m2 != koff L2 (1 + (n2 : Int)) m2) = false := by simp
  generalize koff L2 (1 + (n2 : Int)) m2 = kq at *
  clear y0 y1 y2 y3 yz
  have z17 := hb17.size
  have M17 : Hid (Below (w4.heap.size + 1) (w4.alloc (.cells #[.slice a4 n2 c4, .slice p4 m2 q4, .int .i64 fuel2, .bool dead2] 25)) w17) := M16.out.trans (hb17.mono (by omega))
  clear hb17 M16
  obtain ⟨x0, x1, x2, x3, xz⟩ := (LA.out _ M17.out).1.2.1
  -- once more
  go_wp2_with fail
  refine (toDisk_any a p n c m q d S L F fuel dead w17 (LA.out _ M17.out).1.2.2.1 (LA.out _ M17.out).1.2.2.2 hn1 hm1 HL1.out).mono ?_
  rintro e w18 ⟨a18, c18, p18, q18, A18, rfl, ho18, hb18, hc18, hq18⟩
  rw [hc18, hq18]
  have R18 : Hid (Rd .u8 w18 a18 n d ∧ RdP w18 p18 m S L F) := ⟨ho18.data.rd, ho18.cache.rd⟩
  clear hc18 hq18 ho18 x0 x1 x2 x3 xz hq1 hq2
  have z18 := hb18.size
  have M18 : Hid (Below (w4.heap.size + 1) (w4.alloc (.cells #[.slice a4 n2 c4, .slice p4 m2 q4, .int .i64 fuel2, .bool dead2] 25)) w18) := M17.out.trans (hb18.mono (by omega))
  clear hb18 M17
  go_wp2_with fail
  refine (HI.out w18 a18 p18 R18.out.1 R18.out.2).mono ?_
  rintro e w20 ⟨a20, c20, p20, q20, A20, rfl, ho20, hb20⟩
  have R20 : Hid (Rd .u8 w20 a20 n2 d2 ∧ RdP w20 p20 m2 S2 L2 F2) := ⟨ho20.data.rd, ho20.cache.rd⟩
  clear ho20 R18
  have z20 := hb20.size
  have M20 : Hid (Below (w4.heap.size + 1) (w4.alloc (.cells #[.slice a4 n2 c4, .slice p4 m2 q4, .int .i64 fuel2, .bool dead2] 25)) w20) := M18.out.trans (hb20.mono (by omega))
  clear hb20 M18
  obtain ⟨x0, x1, x2, x3, xz⟩ := (LA.out _ M20.out).2.1
  go_wp2_with fail
  refine (eqDisk_yes a20 a4 n2 c20 c4 d2 p20 p4 m2 q20 q4 S2 L2 F2 fuel2 dead2 _ (R20.out.1.below (below_alloc _ _)) ((LA.out _ M20.out).2.2.1.below (below_alloc _ _)) (R20.out.2.below (below_alloc _ _)) ((LA.out _ M20.out).2.2.2.below (below_alloc _ _)) (by omega) hm2 HL2.out).mono ?_
  rintro e w21 ⟨rfl, hb21⟩
  have HE : Hid (Below w.heap.size w w21) := by
    have q1 := (LA.out _ M20.out).1.1
    exact (q1.alloc q1.size _).trans (hb21.mono (by have := q1.size; simp; omega))
  clear hb21 x0 x1 x2 x3 xz
  go_wp2
  go_ret
  exact ⟨rfl, HE.out⟩

theorem yLaw (v : Value) (w : World) (hv : IsDisk w v) :
    Calls Try.prog 7 #[v] w fun e w' => e = .returned (.bool true) ∧ Below w.heap.size w w' := by
  obtain ⟨a, n, c, d, p, m, q, S, L, F, fuel, dead, rfl, ha, _, hn, hp, hpb, hm, _⟩ := hv
  have hL0 : ∀ i, i < m → L i ≤ maxLen := fun i hi => (hpb i hi).2.2
  by_cases hV : VD n m S L fuel
  · have hfu : -1 ≤ fuel ∧ fuel ≤ 1000000 := by have := hV.1; unfold VH at this; omega
    have hpos : n ≠ 0 := by have := hV.1; unfold VH at this; omega
    by_cases hf0 : fuel = 0
    · subst hf0
      refine yLaw0 a p n c m q d S L F 0 dead w ha hp hn hm hL0 n m d S L F 0 true
        (fun hn1 hm1 hL1 => ⟨hn1, hm1, hL1, fun W a' p' hr hrp => ?_⟩)
        (fun hn1 hm1 hL1 W a' p' hr hrp => implSync_good a' p' n n m m d S L F 0 dead W hr hrp hV hn1 hm1 hL1 d m S L F 0 true (syncs_zero W n m d S L F dead))
      cases dead with
      | true => exact specY_2 a' p' n n m m d S L F 0 W hr hrp hn1 hm1 hL1 hV
      | false => exact (specY_zero a' p' n n m m d S L F W hr hrp hn1 hm1 hL1 hV).mono (fun e w' h => h.retD)
    · cases dead with
      | true =>
        exact yLaw0 a p n c m q d S L F fuel true w ha hp hn hm hL0 n m d S L F fuel true
          (fun hn1 hm1 hL1 => ⟨hn1, hm1, hL1, fun W a' p' hr hrp => specY_2 a' p' n n m m d S L F fuel W hr hrp hn1 hm1 hL1 hV⟩)
          (fun hn1 hm1 hL1 W a' p' hr hrp => implSync_good a' p' n n m m d S L F fuel true W hr hrp hV hn1 hm1 hL1 d m S L F fuel true (syncs_dead W n m d S L F fuel hf0))
      | false =>
        exact yLaw0 a p n c m q d S L F fuel false w ha hp hn hm hL0 n 0 (syncTo d S F m) (fun _ => 0) (fun _ => 0) (fun _ _ => 0) (fuelAfter fuel) false
          (fun hn1 hm1 hL1 => ⟨hn1, by omega, fun i hi => absurd hi (Nat.not_lt_zero _), fun W a' p' hr hrp => specY_live a' p' n n m m d S L F fuel W hr hrp hn1 hm1 hL1 hV hf0 hfu.1 hfu.2 _ _ _⟩)
          (fun hn1 hm1 hL1 W a' p' hr hrp => implSync_good a' p' n n m m d S L F fuel false W hr hrp hV hn1 hm1 hL1 _ 0 _ _ _ (fuelAfter fuel) false (syncs_live W n m d S L F fuel hf0 hfu.1 hfu.2 hpos hn1 hm1 hV.2 _ _ _))
  · exact yLaw0 a p n c m q d S L F fuel dead w ha hp hn hm hL0 n m d S L F fuel dead
      (fun hn1 hm1 hL1 => ⟨hn1, hm1, hL1, fun W a' p' hr hrp => specY_1 a' p' n n m m d S L F fuel dead W hr hrp hn1 hm1 hL1 hV⟩)
      (fun hn1 hm1 hL1 W a' p' hr hrp => implSync_bad a' p' n n m m d S L F fuel dead W hr hrp hV hn1 hm1 hL1)
end Go.Proofs.Ytnbfgkichineiaa
