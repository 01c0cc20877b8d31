import Derived.Test.YtbpcafcipncloaaOpenDisk
import Derived.Test.YtbpcafcipncloaaCopyD
import Derived.Test.YtbpcafcipncloaaToByteS
import Derived.Test.YtbpcafcipncloaaEqByteS
import Derived.Test.YtbpcafcipncloaaHeldD
import Derived.Test.YtbpcafcipncloaaEqD
import Derived.Test.YtbpcafcipncloaaMarkB
import Derived.Test.YtbpcafcipncloaaSz
import Derived.Test.YtbpcafcipncloaaToDisk
import Derived.Test.YtbpcafcipncloaaBox
import Derived.Deep.RegionHeld3
namespace Go.Proofs.Ytbpcafcipncloaa
open Go.ChangeShapes Go.WideShapes Go.ChangeAt Go.RowKit Go.Deep Go.Joins
set_option maxRecDepth 100000

section
variable {H : Type} {enc : TypeId × Value → H} {W : World}
/-- What the walk is told of a slice of bytes that came in. -/
def IsBytesR (w : World) (v : Value) : Prop := ∃ a n c f, v = .slice a n c ∧ Rd .u8 w a n f ∧ (∀ i, i < n → 0 ≤ f i ∧ f i < 256) ∧ n ≤ maxLen

theorem openByteR {r : Reach} {b0 : Nat} {v : Value} {d : DataW H} {p : List MemPlace} (hv : Value.okWide Try.prog W r b0 24 v) (h : DataW.Trod enc Try.prog W 0 (fun _ => true) true 24 v d p) : IsBytesR W v := by
  obtain ⟨a0, len, cap, rfl⟩ := okWide_slice Try.underlying24 hv
  obtain ⟨fuel, hf⟩ := h
  obtain ⟨a, n, c, f, hcs, h1, h3, h2⟩ := bytes_of hf
  simp [Value.cells] at hcs
  obtain ⟨rfl, rfl, rfl⟩ := hcs
  exact ⟨_, _, _, f, rfl, h1, h3, h2⟩
end
end Go.Proofs.Ytbpcafcipncloaa

namespace Go.Proofs.Ytbpcafcipncloaa
open Go.RowKit Go.Deep
set_option linter.unusedVariables false
set_option maxRecDepth 100000

theorem rdOf {w : World} {g : Nat} {t : TypeId} {n : Nat} {f : Nat → Int} (h : rowIn w g t n (fun i => .int .u8 (f i))) : Rd .u8 w (some ⟨g, 0, none⟩) n f :=
  Or.inr ⟨g, 0, rfl, fun i hi => by rw [Nat.zero_add]; exact h.cell hi⟩
theorem toByteS_row (a : Option Addr) (len cap : Nat) (f : Nat → Int) (w : World) (h : Rd .u8 w a len f) (hm : len ≤ 1048576) :
    Calls Try.prog 11 #[.slice a len cap] w fun e w' => e = .returned (.slice (some ⟨w.heap.size, 0, none⟩) len len) ∧
      rowIn w' w.heap.size 5 len (fun i => .int .u8 (f i)) ∧ Below w.heap.size w w' ∧ w.heap.size < w'.heap.size :=
  (toByteS_any a len cap f w h (by omega)).mono (fun e w' ⟨h1, h2, h3, h4⟩ => ⟨h1, rowIn.ofIs h2, h3, by omega⟩)
theorem eqByteS_b (a b : Option Addr) (len ca cb : Nat) (f : Nat → Int) (w : World) (ha : Rd .u8 w a len f) (hb : Rd .u8 w b len f) (hm : len ≤ 1048576) :
    Calls Try.prog 13 #[.slice a len ca, .slice b len cb] w fun e w' => e = .returned (.bool true) ∧ Below w.heap.size w w' :=
  (eqByteS_yes a b len ca cb f w ha hb (by omega)).mono (fun e w' ⟨h1, k, h2⟩ => ⟨h1, by rw [h2]; exact below_drewN (Below.refl _ _) k⟩)
theorem markByteS_r (g n cap : Nat) (f : Nat → Int) (w : World) (k0 : Int) (h : rowIn w g 5 n (fun i => .int .u8 (f i))) (hn : n ≤ 1048576) (h0 : 0 ≤ k0) (h1 : k0 ≤ 4611686018427387904) :
    Calls Try.prog 25 #[.slice (some ⟨g, 0, none⟩) n cap, .int .i64 k0] w fun e w' => e = .returned (.int .i64 (k0 + n)) ∧ OnlyAt (some ⟨g, 0, none⟩) w w' :=
  (markByteS_row g n cap f w k0 h (by omega) h0 h1).mono (fun e w' ⟨a, _, c⟩ => ⟨a, c⟩)

set_option maxHeartbeats 4000000 in
theorem wrLaw0 (a p ka : Option Addr) (n c m q nk kc : Nat) (d S : Nat → Int) (L : Nat → Nat) (F : Nat → Nat → Int) (K : Nat → Int) (s sq : Int) (fuel : Int) (dead : Bool) (w : World) (ha : Rd .u8 w a n d) (hp : RdP w p m S L F) (hk : Rd .u8 w ka nk K) (hn : n ≤ maxLen) (hm : m ≤ maxLen) (hL : ∀ i, i < m → L i ≤ maxLen) (hnk : nk ≤ 1048576)
    (n2 m2 : Nat) (d2 S2 : Nat → Int) (L2 : Nat → Nat) (F2 : Nat → Nat → Int) (fuel2 : Int) (dead2 : Bool)
    (hspec : n ≤ 1048576 → m ≤ 1048576 → (∀ i, i < m → L i ≤ 1048576) → n2 ≤ 1048576 ∧ m2 ≤ 1048576 ∧ (∀ i, i < m2 → L2 i ≤ 1048576) ∧ ∀ W a p ka, Rd .u8 W a n d → RdP W p m S L F → Rd .u8 W ka nk K → Calls Try.prog 23 #[.agg #[.slice a n n, .slice p m m, .int .i64 fuel, .bool dead], .int .i64 s, .int .i64 sq, .slice ka nk nk] W fun e w' => RetD W e w' n2 d2 m2 S2 L2 F2 fuel2 dead2)
    (himpl : n ≤ 1048576 → m ≤ 1048576 → (∀ i, i < m → L i ≤ 1048576) → ∀ W a p ka, Rd .u8 W a n d → RdP W p m S L F → Rd .u8 W ka nk K → Calls Try.prog 24 #[.agg #[.slice a n n, .slice p m m, .int .i64 fuel, .bool dead], .int .i64 s, .int .i64 sq, .slice ka nk nk] W fun e w' => RetD W e w' n2 d2 m2 S2 L2 F2 fuel2 dead2) :
    Calls Try.prog 6 #[.agg #[.slice a n c, .slice p m q, .int .i64 fuel, .bool dead], .int .i64 s, .int .i64 sq, .slice ka nk kc] w fun e w' => e = .returned (.bool true) ∧ Below w.heap.size w w' := by
  have HA : Hid (Rd .u8 w a n d) := ha
  have HP : Hid (RdP w p m S L F) := hp
  have HK : Hid (Rd .u8 w ka nk K) := hk
  have HL : Hid (∀ i, i < m → L i ≤ maxLen) := hL
  have HSP : Hid (n ≤ 1048576 → m ≤ 1048576 → (∀ i, i < m → L i ≤ 1048576) → n2 ≤ 1048576 ∧ m2 ≤ 1048576 ∧ (∀ i, i < m2 → L2 i ≤ 1048576) ∧ ∀ W a p ka, Rd .u8 W a n d → RdP W p m S L F → Rd .u8 W ka nk K → Calls Try.prog 23 #[.agg #[.slice a n n, .slice p m m, .int .i64 fuel, .bool dead], .int .i64 s, .int .i64 sq, .slice ka nk nk] W fun e w' => RetD W e w' n2 d2 m2 S2 L2 F2 fuel2 dead2) := hspec
  have HIM : Hid (n ≤ 1048576 → m ≤ 1048576 → (∀ i, i < m → L i ≤ 1048576) → ∀ W a p ka, Rd .u8 W a n d → RdP W p m S L F → Rd .u8 W ka nk K → Calls Try.prog 24 #[.agg #[.slice a n n, .slice p m m, .int .i64 fuel, .bool dead], .int .i64 s, .int .i64 sq, .slice ka nk nk] W fun e w' => RetD W e w' n2 d2 m2 S2 L2 F2 fuel2 dead2) := himpl
  have i0 : ¬ (1048576 : Int) < (nk : Int) := by omega
  clear ha hp hk hL hspec himpl
  go_enter Try.func6, Try.ntmps6
  go_wp2_with fail
  refine (szDisk_any a p n c m q S L F fuel dead _ hn (HP.out.below (below_alloc _ _)) hm HL.out).mono ?_
  rintro e w1 ⟨r, rfl, hr, hb1⟩
  have A1 : Hid (Box4 w1 w.heap.size (.slice a n c) (.slice p m q) (.int .i64 fuel) (.bool dead)) := (Box4.new w _ _ _ _ 32).below hb1
  have B1 : Hid (Below w.heap.size w w1) := (below_alloc _ _).trans (hb1.mono (by simp))
  clear hb1
  rcases hr with rfl | ⟨hr0, hn1, hm1, hL1⟩
  · go_wp2
    go_ret
    exact ⟨rfl, B1.out⟩
  have hr1 : ¬ r < 0 := by omega
  have HL1 : Hid (∀ i, i < m → L i ≤ 1048576) := hL1
  obtain ⟨hn2, hm2, hL2, hS⟩ := HSP.out hn1 hm1 HL1.out
  have HL2 : Hid (∀ i, i < m2 → L2 i ≤ 1048576) := hL2
  have HS : Hid (∀ W a p ka, Rd .u8 W a n d → RdP W p m S L F → Rd .u8 W ka nk K → Calls Try.prog 23 #[.agg #[.slice a n n, .slice p m m, .int .i64 fuel, .bool dead], .int .i64 s, .int .i64 sq, .slice ka nk nk] W fun e w' => RetD W e w' n2 d2 m2 S2 L2 F2 fuel2 dead2) := hS
  have HI : Hid (∀ W a p ka, Rd .u8 W a n d → RdP W p m S L F → Rd .u8 W ka nk K → Calls Try.prog 24 #[.agg #[.slice a n n, .slice p m m, .int .i64 fuel, .bool dead], .int .i64 s, .int .i64 sq, .slice ka nk nk] W fun e w' => RetD W e w' n2 d2 m2 S2 L2 F2 fuel2 dead2) := HIM.out hn1 hm1 HL1.out
  clear hL1 hn hm HSP HIM HL hL2 hS
  obtain ⟨x0, x1, x2, x3, xz⟩ := A1.out
  -- the specification's answer
  go_wp2_with fail
  refine (toDisk_any a p n c m q d S L F fuel dead w1 (HA.out.below B1.out) (HP.out.below B1.out) hn1 hm1 HL1.out).mono ?_
  rintro e w2 ⟨a2, c2, p2, q2, A2, rfl, ho2, hb2, hc2, hq2⟩
  rw [hc2, hq2]
  have z2 := hb2.size
  have R2 : Hid (Rd .u8 w2 a2 n d ∧ RdP w2 p2 m S L F) := ⟨ho2.data.rd, ho2.cache.rd⟩
  have B2 : Hid (Below w.heap.size w w2) := B1.out.trans (hb2.mono B1.out.size)
  have A2' : Hid (Box4 w2 w.heap.size (.slice a n c) (.slice p m q) (.int .i64 fuel) (.bool dead)) := A1.out.below hb2
  clear ho2 hb2 hc2 hq2 x0 x1 x2 x3 xz A1 B1
  go_wp2_with fail
  refine (toByteS_row ka nk kc K w2 (HK.out.below B2.out) hnk).mono ?_
  rintro e w3 ⟨rfl, hr3, hb3, hs3⟩
  have z3 := hb3.size
  have R3 : Hid (Rd .u8 w3 a2 n d ∧ RdP w3 p2 m S L F ∧ Rd .u8 w3 (some ⟨w2.heap.size, 0, none⟩) nk K) := ⟨R2.out.1.below hb3, R2.out.2.below hb3, rdOf hr3⟩
  have B3 : Hid (Below w.heap.size w w3) := B2.out.trans (hb3.mono B2.out.size)
  have A3 : Hid (Box4 w3 w.heap.size (.slice a n c) (.slice p m q) (.int .i64 fuel) (.bool dead)) := A2'.out.below hb3
  clear hr3 hb3 R2 B2 A2'
  go_wp2_with fail
  refine (HS.out w3 a2 p2 (some ⟨w2.heap.size, 0, none⟩) R3.out.1 R3.out.2.1 R3.out.2.2).mono ?_
  rintro e w4 ⟨a4, c4, p4, q4, A4, rfl, ho4, hb4⟩
  have z4 := hb4.size
  have B4 : Hid (Below w.heap.size w w4) := B3.out.trans (hb4.mono B3.out.size)
  have A4' : Hid (Box4 w4 w.heap.size (.slice a n c) (.slice p m q) (.int .i64 fuel) (.bool dead)) := A3.out.below hb4
  have R4 : Hid (Rd .u8 w4 a4 n2 d2 ∧ RdP w4 p4 m2 S2 L2 F2) := ⟨ho4.data.rd, ho4.cache.rd⟩
  obtain ⟨x0, x1, x2, x3, xz⟩ := A4'.out
  clear ho4 hb4 R3 B3 A3 HS
  -- impl's arguments
  go_wp2_with fail
  refine (toDisk_any a p n c m q d S L F fuel dead _ ((HA.out.below B4.out).below (below_alloc _ _)) ((HP.out.below B4.out).below (below_alloc _ _)) hn1 hm1 HL1.out).mono ?_
  rintro e w5 ⟨a5, c5, p5, q5, A5, rfl, ho5, hb5, hc5, hq5⟩
  rw [hc5, hq5]
  rw [alloc_size] at ho5 hb5
  have z5 : w4.heap.size + 1 ≤ w5.heap.size := by have := hb5.size; simpa using this
  -- what lies below: the argument, the other argument, the specification's answer
  have LA : Hid (∀ W, Below (w4.heap.size + 1) (w4.alloc (.cells #[.slice a4 n2 c4, .slice p4 m2 q4, .int .i64 fuel2, .bool dead2] 39)) W → (Below w.heap.size w W ∧ Box4 W w.heap.size (.slice a n c) (.slice p m q) (.int .i64 fuel) (.bool dead) ∧ Rd .u8 W a n d ∧ RdP W p m S L F ∧ Rd .u8 W ka nk K) ∧
      Box4 W w4.heap.size (.slice a4 n2 c4) (.slice p4 m2 q4) (.int .i64 fuel2) (.bool dead2) ∧ Rd .u8 W a4 n2 d2 ∧ RdP W p4 m2 S2 L2 F2) := by
    intro W hW
    have h4 : Below w4.heap.size w4 W := (below_alloc _ _).trans (hW.mono (by omega))
    have h0 : Below w.heap.size w W := B4.out.trans (h4.mono B4.out.size)
    exact ⟨⟨h0, A4'.out.below h4, HA.out.below h0, HP.out.below h0, HK.out.below h0⟩, (Box4.new w4 _ _ _ _ 39).below (hW.mono (by simp)), R4.out.1.below h4, R4.out.2.below h4⟩
  have M5 : Hid (Below (w4.heap.size + 1) (w4.alloc (.cells #[.slice a4 n2 c4, .slice p4 m2 q4, .int .i64 fuel2, .bool dead2] 39)) w5) := hb5
  have H5 : Hid (OwnD w5 (w4.heap.size + 1) a5 n d p5 m S L F A5) := ho5
  clear ho5 hb5 hc5 hq5 x0 x1 x2 x3 xz A4' B4 R4 HA HP HK
  go_wp2_with fail
  refine (toByteS_row ka nk kc K _ ((LA.out _ M5.out).1.2.2.2.2.below (below_alloc _ _)) hnk).mono ?_
  rintro e w6 ⟨rfl, hr6, hb6, hs6⟩
  rw [alloc_size] at hr6 hb6 hs6 ⊢
  have M6 : Hid (Below (w4.heap.size + 1) (w4.alloc (.cells #[.slice a4 n2 c4, .slice p4 m2 q4, .int .i64 fuel2, .bool dead2] 39)) w6) := (M5.out.alloc (by omega) _).trans (hb6.mono (by omega))
  have C6 : Hid (Below (w5.heap.size + 1) (w5.alloc (.cells #[.slice a5 n n, .slice p5 m m, .int .i64 fuel, .bool dead] 39)) w6) := hb6
  have X6 : Hid (rowIn w6 (w5.heap.size + 1) 5 nk (fun i => .int .u8 (K i))) := hr6
  obtain ⟨x0, x1, x2, x3, xz⟩ := (Box4.new w5 (.slice a5 n n) (.slice p5 m m) (.int .i64 fuel) (.bool dead) 39).below (hb6.mono (by simp))
  have D6 : Hid (OwnD w6 (w4.heap.size + 1) a5 n d p5 m S L F A5) := (H5.out.below (below_alloc _ _)).below (hb6.mono (by simp))
  clear hr6 hb6
  go_wp2_with fail
  refine (HI.out w6 a5 p5 (some ⟨w5.heap.size + 1, 0, none⟩) D6.out.data.rd D6.out.cache.rd (rdOf X6.out)).mono ?_
  rintro e w7 ⟨a7, c7, p7, q7, A7, rfl, ho7, hb7⟩
  have z7 := hb7.size
  have M7 : Hid (Below (w4.heap.size + 1) (w4.alloc (.cells #[.slice a4 n2 c4, .slice p4 m2 q4, .int .i64 fuel2, .bool dead2] 39)) w7) := M6.out.trans (hb7.mono (by omega))
  have C7 : Hid (Below (w5.heap.size + 1) (w5.alloc (.cells #[.slice a5 n n, .slice p5 m m, .int .i64 fuel, .bool dead] 39)) w7) := C6.out.trans (hb7.mono (by omega))
  have X7 : Hid (rowIn w7 (w5.heap.size + 1) 5 nk (fun i => .int .u8 (K i))) := X6.out.below hb7
  have G7 : Hid (OwnD w7 w6.heap.size a7 n2 d2 p7 m2 S2 L2 F2 A7) := ho7
  have G7L : Hid (LtB w7.heap.size a7 n2 ∧ LtB w7.heap.size p7 m2 ∧ ∀ i, i < m2 → LtB w7.heap.size (A7 i) (L2 i)) := ho7.ltB
  obtain ⟨⟨_, _⟩, yb, _⟩ := LA.out _ M7.out
  obtain ⟨y0, y1, y2, y3, yz⟩ := yb
  clear ho7 hb7 x0 x1 x2 x3 xz D6 X6 C6 M6
  go_wp2_with fail
  refine (eqDisk_yes a7 a4 n2 c7 c4 d2 p7 p4 m2 q7 q4 S2 L2 F2 fuel2 dead2 _ (G7.out.data.rd.below (below_alloc _ _)) ((LA.out _ M7.out).2.2.1.below (below_alloc _ _)) (G7.out.cache.rd.below (below_alloc _ _)) ((LA.out _ M7.out).2.2.2.below (below_alloc _ _)) (by omega) hm2 HL2.out).mono ?_
  rintro e w8 ⟨rfl, hb8⟩
  rw [alloc_size] at hb8
  have z8 : w7.heap.size + 1 ≤ w8.heap.size := by have := hb8.size; simpa using this
  have N8 : Below w7.heap.size w7 w8 := (below_alloc _ _).trans (hb8.mono (by omega))
  have M8 : Hid (Below (w4.heap.size + 1) (w4.alloc (.cells #[.slice a4 n2 c4, .slice p4 m2 q4, .int .i64 fuel2, .bool dead2] 39)) w8) := M7.out.trans (N8.mono (by omega))
  have C8 : Hid (Below (w5.heap.size + 1) (w5.alloc (.cells #[.slice a5 n n, .slice p5 m m, .int .i64 fuel, .bool dead] 39)) w8) := C7.out.trans (N8.mono (by omega))
  have X8 : Hid (rowIn w8 (w5.heap.size + 1) 5 nk (fun i => .int .u8 (K i))) := X7.out.below N8
  have G8 : Hid (OwnD w8 w6.heap.size a7 n2 d2 p7 m2 S2 L2 F2 A7 ∧ Box4 w8 w7.heap.size (.slice a7 n2 c7) (.slice p7 m2 q7) (.int .i64 fuel2) (.bool dead2)) := ⟨G7.out.below N8, (Box4.new w7 _ _ _ _ 39).below (hb8.mono (by simp))⟩
  have D8 : Hid (OwnD w8 (w4.heap.size + 1) a5 n d p5 m S L F A5 ∧ Box4 w8 w5.heap.size (.slice a5 n n) (.slice p5 m m) (.int .i64 fuel) (.bool dead)) :=
    ⟨(H5.out.below (below_alloc _ _)).below (C8.out.mono (by simp)), (Box4.new w5 _ _ _ _ 39).below (C8.out.mono (by simp))⟩
  clear hb8 N8 y0 y1 y2 y3 yz X7 C7 M7 G7
  obtain ⟨x0, x1, x2, x3, xz⟩ := (LA.out _ M8.out).1.2.1
  obtain ⟨y0, y1, y2, y3, yz⟩ := D8.out.2
  go_wp2
  go_region_held3 (fun w' => (w'.cell? ⟨w5.heap.size, 0, none⟩ = some (.slice a5 n n) ∧ w'.cell? ⟨w5.heap.size, 1, none⟩ = some (.slice p5 m m) ∧ w'.cell? ⟨w5.heap.size, 2, none⟩ = some (.int .i64 fuel) ∧ w'.cell? ⟨w5.heap.size, 3, none⟩ = some (.bool dead)) ∧ w'.cell? ⟨w.heap.size, 0, none⟩ = some (.slice a n c) ∧ w'.cell? ⟨w.heap.size, 1, none⟩ = some (.slice p m q) ∧ w'.cell? ⟨w.heap.size, 2, none⟩ = some (.int .i64 fuel) ∧ w'.cell? ⟨w.heap.size, 3, none⟩ = some (.bool dead)) (go_keep)
    (first
    | (go_at_call 16; refine (toDisk_any a p n c m q d S L F fuel dead w8.drew ?_ ?_ hn1 hm1 HL1.out).mono ?_; exact (LA.out _ M8.out).1.2.2.1; exact (LA.out _ M8.out).1.2.2.2.1; rintro e w9 ⟨a9, c9, p9, q9, A9, rfl, ho9, hb9, -⟩; obtain ⟨u0, u1, u2, u3, uz⟩ := Box4.below (w := w8.drew) D8.out.2 hb9; obtain ⟨v0, v1, v2, v3, vz⟩ := Box4.below (w := w8.drew) (LA.out _ M8.out).1.2.1 hb9)
    | (go_at_call 19; refine (eqDisk_yes a5 a9 n n c9 d p5 p9 m m q9 S L F fuel dead w9 ?_ ?_ ?_ ?_ ?_ hm1 HL1.out).mono ?_; exact Rd.below (w := w8.drew) D8.out.1.data.rd hb9; exact ho9.data.rd; exact RdP.below (w := w8.drew) D8.out.1.cache.rd hb9; exact ho9.cache.rd; omega; rintro e w10 ⟨rfl, hb10⟩; obtain ⟨u0, u1, u2, u3, uz⟩ := Box4.below (Box4.below (w := w8.drew) D8.out.2 hb9) hb10; obtain ⟨v0, v1, v2, v3, vz⟩ := Box4.below (Box4.below (w := w8.drew) (LA.out _ M8.out).1.2.1 hb9) hb10))
  have hb10' : Below w8.heap.size w8 w10 := ((Below.refl _ _).drew.trans (hb9.mono (by simp))).trans (hb10.mono (by have := hb9.size; simpa using this))
  clear hb9 hb10 ho9 u0 u1 u2 u3 uz v0 v1 v2 v3 vz x0 x1 x2 x3 xz y0 y1 y2 y3 yz
  have z10 := hb10'.size
  have M10 : Hid (Below (w4.heap.size + 1) (w4.alloc (.cells #[.slice a4 n2 c4, .slice p4 m2 q4, .int .i64 fuel2, .bool dead2] 39)) w10) := M8.out.trans (hb10'.mono (by omega))
  have X10 : Hid (rowIn w10 (w5.heap.size + 1) 5 nk (fun i => .int .u8 (K i))) := X8.out.below hb10'
  have G10 : Hid (OwnD w10 w6.heap.size a7 n2 d2 p7 m2 S2 L2 F2 A7 ∧ Box4 w10 w7.heap.size (.slice a7 n2 c7) (.slice p7 m2 q7) (.int .i64 fuel2) (.bool dead2)) := ⟨G8.out.1.below hb10', G8.out.2.below hb10'⟩
  have D10 : Hid (OwnD w10 (w4.heap.size + 1) a5 n d p5 m S L F A5 ∧ Box4 w10 w5.heap.size (.slice a5 n n) (.slice p5 m m) (.int .i64 fuel) (.bool dead)) := ⟨D8.out.1.below hb10', D8.out.2.below hb10'⟩
  clear hb10' M8 X8 G8 D8
  go_wp2_with fail
  refine (toByteS_row ka nk kc K w10 (LA.out _ M10.out).1.2.2.2.2 hnk).mono ?_
  rintro e w11 ⟨rfl, hr11, hb11, hs11⟩
  have Y11 : Hid (Rd .u8 w11 (some ⟨w10.heap.size, 0, none⟩) nk K) := rdOf hr11
  clear hr11 hs11
  have z11 := hb11.size
  have M11 : Hid (Below (w4.heap.size + 1) (w4.alloc (.cells #[.slice a4 n2 c4, .slice p4 m2 q4, .int .i64 fuel2, .bool dead2] 39)) w11) := M10.out.trans (hb11.mono (by omega))
  have X11 : Hid (rowIn w11 (w5.heap.size + 1) 5 nk (fun i => .int .u8 (K i))) := X10.out.below hb11
  have G11 : Hid (OwnD w11 w6.heap.size a7 n2 d2 p7 m2 S2 L2 F2 A7 ∧ Box4 w11 w7.heap.size (.slice a7 n2 c7) (.slice p7 m2 q7) (.int .i64 fuel2) (.bool dead2)) := ⟨G10.out.1.below hb11, G10.out.2.below hb11⟩
  have D11 : Hid (OwnD w11 (w4.heap.size + 1) a5 n d p5 m S L F A5 ∧ Box4 w11 w5.heap.size (.slice a5 n n) (.slice p5 m m) (.int .i64 fuel) (.bool dead)) := ⟨D10.out.1.below hb11, D10.out.2.below hb11⟩
  clear hb11 M10 X10 G10 D10
  go_wp2_with fail
  refine (eqByteS_b (some ⟨w5.heap.size + 1, 0, none⟩) (some ⟨w10.heap.size, 0, none⟩) nk nk nk K w11 (rdOf X11.out) Y11.out hnk).mono ?_
  rintro e w12 ⟨rfl, hb12⟩
  clear Y11
  have z12 := hb12.size
  have M12 : Hid (Below (w4.heap.size + 1) (w4.alloc (.cells #[.slice a4 n2 c4, .slice p4 m2 q4, .int .i64 fuel2, .bool dead2] 39)) w12) := M11.out.trans (hb12.mono (by omega))
  have X12 : Hid (rowIn w12 (w5.heap.size + 1) 5 nk (fun i => .int .u8 (K i))) := X11.out.below hb12
  have G12 : Hid (OwnD w12 w6.heap.size a7 n2 d2 p7 m2 S2 L2 F2 A7 ∧ Box4 w12 w7.heap.size (.slice a7 n2 c7) (.slice p7 m2 q7) (.int .i64 fuel2) (.bool dead2)) := ⟨G11.out.1.below hb12, G11.out.2.below hb12⟩
  have D12 : Hid (OwnD w12 (w4.heap.size + 1) a5 n d p5 m S L F A5 ∧ Box4 w12 w5.heap.size (.slice a5 n n) (.slice p5 m m) (.int .i64 fuel) (.bool dead)) := ⟨D11.out.1.below hb12, D11.out.2.below hb12⟩
  clear hb12 M11 X11 G11 D11
  obtain ⟨y0, y1, y2, y3, yz⟩ := D12.out.2
  -- the copies are written over
  go_wp2_with fail
  refine (markDisk_own a5 p5 n n m m (w4.heap.size + 1) w5.heap.size d S L F A5 fuel dead w12 1 D12.out.1.data D12.out.1.cache D12.out.1.apart H5.out.data.ltB H5.out.cache.ltB hn1 hm1 HL1.out (by omega) (by omega)).mono ?_
  rintro e w13 ⟨rfl, -, -, hw13⟩
  have z13 := hw13.size
  have hkk0 : 0 ≤ koff L (1 + (n : Int)) m := by have := koff_ge L (1 + (n : Int)) m; omega
  have hkk1 := koff_top L (1 + (n : Int)) m hm1 HL1.out (by omega) m (Nat.le_refl _)
  generalize koff L (1 + (n : Int)) m = kk at *
  have M13 : Hid (Below (w4.heap.size + 1) (w4.alloc (.cells #[.slice a4 n2 c4, .slice p4 m2 q4, .int .i64 fuel2, .bool dead2] 39)) w13) := M12.out.trans (hw13.below (by omega))
  have X13 : Hid (rowIn w13 (w5.heap.size + 1) 5 nk (fun i => .int .u8 (K i))) := X12.out.within (Or.inl (by omega)) hw13
  have G13 : Hid (OwnD w13 w6.heap.size a7 n2 d2 p7 m2 S2 L2 F2 A7 ∧ Box4 w13 w7.heap.size (.slice a7 n2 c7) (.slice p7 m2 q7) (.int .i64 fuel2) (.bool dead2)) := ⟨G12.out.1.within (by omega) hw13, G12.out.2.within (by omega) hw13⟩
  clear hw13 M12 X12 G12 D12 y0 y1 y2 y3 yz
  go_wp2_with fail
  refine (markByteS_r (w5.heap.size + 1) nk nk K w13 kk X13.out hnk hkk0 (by omega)).mono ?_
  rintro e w14 ⟨rfl, ho14⟩
  have hw14 : Within (w5.heap.size + 1) (w5.heap.size + 2) w13 w14 := Within.ofOnly ho14 (fun x e => by injection e with e; subst e; exact ⟨Nat.le_refl _, Nat.lt_succ_self _⟩)
  have z14 := hw14.size
  have M14 : Hid (Below (w4.heap.size + 1) (w4.alloc (.cells #[.slice a4 n2 c4, .slice p4 m2 q4, .int .i64 fuel2, .bool dead2] 39)) w14) := M13.out.trans ((hw14.below (by omega)).mono (by omega))
  have G14 : Hid (OwnD w14 w6.heap.size a7 n2 d2 p7 m2 S2 L2 F2 A7 ∧ Box4 w14 w7.heap.size (.slice a7 n2 c7) (.slice p7 m2 q7) (.int .i64 fuel2) (.bool dead2)) := ⟨G13.out.1.within (by omega) hw14, G13.out.2.within (by omega) hw14⟩
  have hkk2 : ¬ kk + (nk : Int) < 0 := by omega
  clear ho14 hw14 M13 X13 G13
  obtain ⟨y0, y1, y2, y3, yz⟩ := G14.out.2
  obtain ⟨x0, x1, x2, x3, xz⟩ := (LA.out _ M14.out).2.1
  go_wp2_with fail
  refine (eqDisk_yes a7 a4 n2 c7 c4 d2 p7 p4 m2 q7 q4 S2 L2 F2 fuel2 dead2 w14 G14.out.1.data.rd (LA.out _ M14.out).2.2.1 G14.out.1.cache.rd (LA.out _ M14.out).2.2.2 (by omega) hm2 HL2.out).mono ?_
  rintro e w15 ⟨rfl, hb15⟩
  clear x0 x1 x2 x3 xz y0 y1 y2 y3 yz
  have z15 := hb15.size
  have M15 : Hid (Below (w4.heap.size + 1) (w4.alloc (.cells #[.slice a4 n2 c4, .slice p4 m2 q4, .int .i64 fuel2, .bool dead2] 39)) w15) := M14.out.trans (hb15.mono (by omega))
  have G15 : Hid (OwnD w15 w6.heap.size a7 n2 d2 p7 m2 S2 L2 F2 A7 ∧ Box4 w15 w7.heap.size (.slice a7 n2 c7) (.slice p7 m2 q7) (.int .i64 fuel2) (.bool dead2)) := ⟨G14.out.1.below hb15, G14.out.2.below hb15⟩
  clear hb15 M14 G14
  obtain ⟨y0, y1, y2, y3, yz⟩ := G15.out.2
  -- the answer is written over and read back
  go_wp2_with fail
  refine (markDisk_own a7 p7 n2 c7 m2 q7 w6.heap.size w7.heap.size d2 S2 L2 F2 A7 fuel2 dead2 w15 1 G15.out.1.data G15.out.1.cache G15.out.1.apart G7L.out.1 G7L.out.2 hn2 hm2 HL2.out (by omega) (by omega)).mono ?_
  rintro e w16 ⟨rfl, hr16, hp16, hw16⟩
  have z16 := hw16.size
  have M16 : Hid (Below (w4.heap.size + 1) (w4.alloc (.cells #[.slice a4 n2 c4, .slice p4 m2 q4, .int .i64 fuel2, .bool dead2] 39)) w16) := M15.out.trans ((hw16.below (by omega)).mono (by omega))
  have R16 : Hid (Rd .u8 w16 a7 n2 (fun i => IntKind.u8.wrap (1 + i)) ∧ RdP w16 p7 m2 (fun i => koff L2 (1 + (n2 : Int)) i) L2 (fun i j => IntKind.u8.wrap (koff L2 (1 + (n2 : Int)) i + 1 + j))) := ⟨hr16, hp16⟩
  have BG16 : Hid (Box4 w16 w7.heap.size (.slice a7 n2 c7) (.slice p7 m2 q7) (.int .i64 fuel2) (.bool dead2)) := G15.out.2.within (Nat.le_refl _) hw16
  clear y0 y1 y2 y3 yz hr16 hp16 hw16 M15 G15
  obtain ⟨y0, y1, y2, y3, yz⟩ := BG16.out
  go_wp2_with fail
  refine (heldDisk_yes a7 p7 n2 c7 m2 q7 L2 fuel2 dead2 w16 1 R16.out.1 R16.out.2 hn2 hm2 HL2.out (by omega) (by omega)).mono ?_
  rintro e w17 ⟨rfl, hb17⟩
  have hq1 : ¬ koff L2 (1 + (n2 : Int)) m2 < 0 := by have := koff_ge L2 (1 + (n2 : Int)) m2; omega
  have hq2 : (koff L2 (1 + (n2 : Int)) m2 != koff L2 (1 + (n2 : Int)) m2) = false := by simp
  generalize koff L2 (1 + (n2 : Int)) m2 = kq at *
  clear y0 y1 y2 y3 yz
  have z17 := hb17.size
  have M17 : Hid (Below (w4.heap.size + 1) (w4.alloc (.cells #[.slice a4 n2 c4, .slice p4 m2 q4, .int .i64 fuel2, .bool dead2] 39)) w17) := M16.out.trans (hb17.mono (by omega))
  clear hb17 M16
  obtain ⟨x0, x1, x2, x3, xz⟩ := (LA.out _ M17.out).1.2.1
  -- once more
  go_wp2_with fail
  refine (toDisk_any a p n c m q d S L F fuel dead w17 (LA.out _ M17.out).1.2.2.1 (LA.out _ M17.out).1.2.2.2.1 hn1 hm1 HL1.out).mono ?_
  rintro e w18 ⟨a18, c18, p18, q18, A18, rfl, ho18, hb18, hc18, hq18⟩
  rw [hc18, hq18]
  have R18 : Hid (Rd .u8 w18 a18 n d ∧ RdP w18 p18 m S L F) := ⟨ho18.data.rd, ho18.cache.rd⟩
  clear hc18 hq18 ho18 x0 x1 x2 x3 xz hq1 hq2
  have z18 := hb18.size
  have M18 : Hid (Below (w4.heap.size + 1) (w4.alloc (.cells #[.slice a4 n2 c4, .slice p4 m2 q4, .int .i64 fuel2, .bool dead2] 39)) w18) := M17.out.trans (hb18.mono (by omega))
  clear hb18 M17
  go_wp2_with fail
  refine (toByteS_row ka nk kc K w18 (LA.out _ M18.out).1.2.2.2.2 hnk).mono ?_
  rintro e w19 ⟨rfl, hr19, hb19, hs19⟩
  have R19 : Hid (Rd .u8 w19 a18 n d ∧ RdP w19 p18 m S L F ∧ Rd .u8 w19 (some ⟨w18.heap.size, 0, none⟩) nk K) := ⟨R18.out.1.below hb19, R18.out.2.below hb19, rdOf hr19⟩
  clear hr19 hs19 R18
  have z19 := hb19.size
  have M19 : Hid (Below (w4.heap.size + 1) (w4.alloc (.cells #[.slice a4 n2 c4, .slice p4 m2 q4, .int .i64 fuel2, .bool dead2] 39)) w19) := M18.out.trans (hb19.mono (by omega))
  clear hb19 M18
  go_wp2_with fail
  refine (HI.out w19 a18 p18 (some ⟨w18.heap.size, 0, none⟩) R19.out.1 R19.out.2.1 R19.out.2.2).mono ?_
  rintro e w20 ⟨a20, c20, p20, q20, A20, rfl, ho20, hb20⟩
  have R20 : Hid (Rd .u8 w20 a20 n2 d2 ∧ RdP w20 p20 m2 S2 L2 F2) := ⟨ho20.data.rd, ho20.cache.rd⟩
  clear ho20 R19
  have z20 := hb20.size
  have M20 : Hid (Below (w4.heap.size + 1) (w4.alloc (.cells #[.slice a4 n2 c4, .slice p4 m2 q4, .int .i64 fuel2, .bool dead2] 39)) w20) := M19.out.trans (hb20.mono (by omega))
  clear hb20 M19
  obtain ⟨x0, x1, x2, x3, xz⟩ := (LA.out _ M20.out).2.1
  go_wp2_with fail
  refine (eqDisk_yes a20 a4 n2 c20 c4 d2 p20 p4 m2 q20 q4 S2 L2 F2 fuel2 dead2 _ (R20.out.1.below (below_alloc _ _)) ((LA.out _ M20.out).2.2.1.below (below_alloc _ _)) (R20.out.2.below (below_alloc _ _)) ((LA.out _ M20.out).2.2.2.below (below_alloc _ _)) (by omega) hm2 HL2.out).mono ?_
  rintro e w21 ⟨rfl, hb21⟩
  have HE : Hid (Below w.heap.size w w21) := by
    have q1 := (LA.out _ M20.out).1.1
    exact (q1.alloc q1.size _).trans (hb21.mono (by have := q1.size; simp; omega))
  clear hb21 x0 x1 x2 x3 xz
  go_wp2
  go_ret
  exact ⟨rfl, HE.out⟩

set_option maxHeartbeats 400000 in
theorem wrLaw_big (v : Value) (s sq : Int) (ka : Option Addr) (nk kc : Nat) (w : World) (h : 1048576 < nk) (hm : nk ≤ maxLen) (hv : IsDisk w v) :
    Calls Try.prog 6 #[v, .int .i64 s, .int .i64 sq, .slice ka nk kc] w fun e w' => e = .returned (.bool true) ∧ Below w.heap.size w w' := by
  obtain ⟨a, n, c, d, p, m, q, S, L, F, fuel, dead, rfl, _⟩ := hv
  unfold maxLen at hm
  have i0 : (1048576 : Int) < (nk : Int) := by omega
  go_enter Try.func6, Try.ntmps6
  go_wp2
  go_ret
  exact ⟨rfl, below_alloc _ _⟩

end Go.Proofs.Ytbpcafcipncloaa
