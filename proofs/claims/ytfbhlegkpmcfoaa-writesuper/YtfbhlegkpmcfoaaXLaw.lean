import Derived.Test.YtfbhlegkpmcfoaaSupX
import Derived.Test.YtfbhlegkpmcfoaaSpX
import Derived.Test.YtfbhlegkpmcfoaaOpenDisk
import Derived.Test.YtfbhlegkpmcfoaaSz
import Derived.Test.YtfbhlegkpmcfoaaToDisk
import Derived.Test.YtfbhlegkpmcfoaaBox
import Derived.Deep.RegionHeld3
namespace Go.Proofs.Ytfbhlegkpmcfoaa
open Go.RowKit Go.Deep
set_option linter.unusedVariables false
set_option maxRecDepth 100000

/-- A box of three cells. -/
def Box3 (w : World) (b : Nat) (v0 v1 v2 : Value) : Prop :=
  w.cell? ⟨b, 0, none⟩ = some v0 ∧ w.cell? ⟨b, 1, none⟩ = some v1 ∧ w.cell? ⟨b, 2, none⟩ = some v2 ∧ b < w.heap.size
theorem Box3.new (w : World) (v0 v1 v2 : Value) (t : TypeId) : Box3 (w.alloc (.cells #[v0, v1, v2] t)) w.heap.size v0 v1 v2 := by
  refine ⟨?_, ?_, ?_, ?_⟩ <;> simp
theorem Box3.below {w w' : World} {b : Nat} {v0 v1 v2 : Value} (h : Box3 w b v0 v1 v2) (hb : Below w.heap.size w w') : Box3 w' b v0 v1 v2 := by
  obtain ⟨h0, h1, h2, hl⟩ := h
  have := hb.size
  exact ⟨(hb.cell (p := ⟨b, 0, none⟩) hl).trans h0, (hb.cell (p := ⟨b, 1, none⟩) hl).trans h1, (hb.cell (p := ⟨b, 2, none⟩) hl).trans h2, by omega⟩

set_option maxHeartbeats 400000 in
theorem toSuper_any (gen ar fi : Int) (w : World) :
    Calls Try.prog 16 #[.agg #[.int .i64 gen, .int .i64 ar, .int .i64 fi]] w fun e w' => e = .returned (.agg #[.int .i64 gen, .int .i64 ar, .int .i64 fi]) ∧ Below w.heap.size w w' := by
  go_enter Try.func16, Try.ntmps16
  go_wp2
  refine bodyPost_ret (v := .agg #[.int .i64 gen, .int .i64 ar, .int .i64 fi]) (by simp [results, Try.results16, go_sem]) rfl ⟨rfl, ?_⟩
  repeat first | exact below_alloc2' _ _ _ | exact below_alloc _ _ | refine Below.setCell ?_ (by simp; try omega) _ | refine Below.alloc ?_ (by simp; try omega) _


/-- A disk handed back, its caps its lengths. -/
def RetC (W : World) (e : Ending) (w' : World) (n : Nat) (d : Nat → Int) (m : Nat) (S : Nat → Int) (L : Nat → Nat) (F : Nat → Nat → Int) (fuel : Int) (dead : Bool) : Prop :=
  ∃ a' p' A', e = .returned (.agg #[.slice a' n n, .slice p' m m, .int .i64 fuel, .bool dead]) ∧ OwnD w' W.heap.size a' n d p' m S L F A' ∧ Below W.heap.size W w'

theorem toDisk_c (a p : Option Addr) (n c m q : Nat) (d S : Nat → Int) (L : Nat → Nat) (F : Nat → Nat → Int) (fuel : Int) (dead : Bool) (W : World) (ha : Rd .u8 W a n d) (hp : RdP W p m S L F) (hn : n ≤ 1048576) (hm : m ≤ 1048576) (hL : ∀ i, i < m → L i ≤ 1048576) :
    Calls Try.prog 11 #[.agg #[.slice a n c, .slice p m q, .int .i64 fuel, .bool dead]] W fun e w' => RetC W e w' n d m S L F fuel dead :=
  (toDisk_any a p n c m q d S L F fuel dead W ha hp hn hm hL).mono (fun e w' ⟨a2, c2, p2, q2, A2, he, ho2, hb2, hc2, hq2⟩ => ⟨a2, p2, A2, by rw [he, hc2, hq2], ho2, hb2⟩)

theorem ne_facts {a b : Nat} (h : a + 1 < b) : ¬ b = a ∧ ¬ a = b ∧ ¬ b = a + 1 ∧ ¬ a + 1 = b := by omega
theorem Below.next {W0 W w : World} (h : Below W0.heap.size W0 W) (hb : Below W.heap.size W w) : Below W0.heap.size W0 w := h.trans (hb.mono h.size)

/-- What the drawn statement 'x := f(..)' leaves: the answer, boxed. -/
def Boxed (W0 wx : World) (lo : Nat) (s : Value) (n : Nat) (d : Nat → Int) (m : Nat) (S : Nat → Int) (L : Nat → Nat) (F : Nat → Nat → Int) (fuel : Int) (dead : Bool) : Prop :=
  ∃ bo B T a c p q A, s = .pointer (some ⟨bo, 0, none⟩) ∧ lo ≤ bo ∧ Box4 wx bo (.slice a n c) (.slice p m q) (.int .i64 fuel) (.bool dead) ∧ OwnD wx B a n d p m S L F A ∧ (LtB T a n ∧ LtB T p m ∧ ∀ i, i < m → LtB T (A i) (L i)) ∧ lo ≤ B ∧ (bo < B ∨ T ≤ bo) ∧ T ≤ wx.heap.size ∧ B ≤ wx.heap.size ∧ Below W0.heap.size W0 wx

theorem boxed_new {W0 w : World} {lo B : Nat} {a p : Option Addr} {n c m q : Nat} {d S : Nat → Int} {L : Nat → Nat} {F : Nat → Nat → Int} {A : Nat → Option Addr} {fuel : Int} {dead : Bool} (ho : OwnD w B a n d p m S L F A) (hlo : lo ≤ B) (hb : Below W0.heap.size W0 w) (hB : B ≤ w.heap.size) :
    Boxed W0 (w.alloc (.cells #[.slice a n c, .slice p m q, .int .i64 fuel, .bool dead] 40)) lo (.pointer (some ⟨w.heap.size, 0, none⟩)) n d m S L F fuel dead :=
  ⟨_, B, w.heap.size, a, c, p, q, A, rfl, by omega, Box4.new w _ _ _ _ 40, ho.below (below_alloc _ _), ho.ltB, hlo, Or.inr (Nat.le_refl _), by simp, by simp; omega, hb.alloc hb.size _⟩

theorem boxed_set {W0 w : World} {lo B bo : Nat} {a p : Option Addr} {n c m q : Nat} {d S : Nat → Int} {L : Nat → Nat} {F : Nat → Nat → Int} {A : Nat → Option Addr} {fuel : Int} {dead : Bool} {u0 u1 : Value} {f0 : Int} {e0 : Bool} (ho : OwnD w B a n d p m S L F A) (hk : DkRow w bo u0 u1 f0 e0) (hlo : lo ≤ bo) (hbo : bo < B) (hW : W0.heap.size ≤ bo) (hB : B ≤ w.heap.size) (hb : Below W0.heap.size W0 w) :
    Boxed W0 ((((w.setCell ⟨bo, 0, none⟩ (.slice a n c)).setCell ⟨bo, 1, none⟩ (.slice p m q)).setCell ⟨bo, 2, none⟩ (.int .i64 fuel)).setCell ⟨bo, 3, none⟩ (.bool dead)) lo (.pointer (some ⟨bo, 0, none⟩)) n d m S L F fuel dead := by
  have hr : DkRow ((((w.setCell ⟨bo, 0, none⟩ (.slice a n c)).setCell ⟨bo, 1, none⟩ (.slice p m q)).setCell ⟨bo, 2, none⟩ (.int .i64 fuel)).setCell ⟨bo, 3, none⟩ (.bool dead)) bo (.slice a n c) (.slice p m q) fuel dead := by
    refine (rowIn.set (rowIn.set (rowIn.set (rowIn.set hk 0 _) 1 _) 2 _) 3 _).congr (fun i hi => ?_)
    unfold diskCell
    match i, hi with
    | 0, _ => rfl
    | 1, _ => rfl
    | 2, _ => rfl
    | 3, _ => rfl
  obtain ⟨r0, r1, r2, r3, rf, rl⟩ := hr.cells
  refine ⟨bo, B, w.heap.size, a, c, p, q, A, rfl, hlo, ⟨r0, r1, r2, r3, rl⟩, ?_, ho.ltB, by omega, Or.inl hbo, by simp, by simpa using hB, ?_⟩
  · exact (((ho.setOther (by simpa using hbo) _).setOther (by simpa using hbo) _).setOther (by simpa using hbo) _).setOther (by simpa using hbo) _
  · exact (((hb.setCell (by simpa using hW) _).setCell (by simpa using hW) _).setCell (by simpa using hW) _).setCell (by simpa using hW) _

theorem Box4.apart {w w' : World} {B T b : Nat} {v0 v1 v2 v3 : Value} (h : Box4 w b v0 v1 v2 v3) (hT : b < B ∨ T ≤ b) (hw : Within B T w w') : Box4 w' b v0 v1 v2 v3 := by
  obtain ⟨h0, h1, h2, h3, hl⟩ := h
  have hs := hw.size
  have hb := hw.block b hl (by omega)
  exact ⟨(World.cell?_of_block (a := ⟨b, 0, none⟩) hb).trans h0, (World.cell?_of_block (a := ⟨b, 1, none⟩) hb).trans h1, (World.cell?_of_block (a := ⟨b, 2, none⟩) hb).trans h2, (World.cell?_of_block (a := ⟨b, 3, none⟩) hb).trans h3, by omega⟩

theorem boxed_late {W0 w : World} {lo B : Nat} {a p : Option Addr} {n c m q : Nat} {d S : Nat → Int} {L : Nat → Nat} {F : Nat → Nat → Int} {A : Nat → Option Addr} {fuel : Int} {dead : Bool} (ho : OwnD w B a n d p m S L F A) (hlo : lo ≤ B) (hb : Below W0.heap.size W0 w) (hB : B ≤ w.heap.size) :
    Boxed W0 (((((w.alloc (.cells #[.slice none 0 0, .slice none 0 0, .int .i64 0, .bool false] 40)).setCell ⟨w.heap.size, 0, none⟩ (.slice a n c)).setCell ⟨w.heap.size, 1, none⟩ (.slice p m q)).setCell ⟨w.heap.size, 2, none⟩ (.int .i64 fuel)).setCell ⟨w.heap.size, 3, none⟩ (.bool dead)) lo (.pointer (some ⟨w.heap.size, 0, none⟩)) n d m S L F fuel dead := by
  have hk := rowInNew w (.slice none 0 0) (.slice none 0 0) 0 false
  have hr : DkRow (((((w.alloc (.cells #[.slice none 0 0, .slice none 0 0, .int .i64 0, .bool false] 40)).setCell ⟨w.heap.size, 0, none⟩ (.slice a n c)).setCell ⟨w.heap.size, 1, none⟩ (.slice p m q)).setCell ⟨w.heap.size, 2, none⟩ (.int .i64 fuel)).setCell ⟨w.heap.size, 3, none⟩ (.bool dead)) w.heap.size (.slice a n c) (.slice p m q) fuel dead := by
    refine (rowIn.set (rowIn.set (rowIn.set (rowIn.set hk 0 _) 1 _) 2 _) 3 _).congr (fun i hi => ?_)
    unfold diskCell
    match i, hi with
    | 0, _ => rfl
    | 1, _ => rfl
    | 2, _ => rfl
    | 3, _ => rfl
  obtain ⟨r0, r1, r2, r3, rf, rl⟩ := hr.cells
  have hbl : Below w.heap.size w (((((w.alloc (.cells #[.slice none 0 0, .slice none 0 0, .int .i64 0, .bool false] 40)).setCell ⟨w.heap.size, 0, none⟩ (.slice a n c)).setCell ⟨w.heap.size, 1, none⟩ (.slice p m q)).setCell ⟨w.heap.size, 2, none⟩ (.int .i64 fuel)).setCell ⟨w.heap.size, 3, none⟩ (.bool dead)) :=
    ((((below_alloc _ _).setCell (Nat.le_refl _) _).setCell (Nat.le_refl _) _).setCell (Nat.le_refl _) _).setCell (Nat.le_refl _) _
  exact ⟨_, B, w.heap.size, a, c, p, q, A, rfl, by omega, ⟨r0, r1, r2, r3, rl⟩, ho.below hbl, ho.ltB, hlo, Or.inr (Nat.le_refl _), by simp, by simp; omega, Below.next hb hbl⟩
theorem belowA6 (w6 : World) (O : Obj) : Below w6.heap.size w6 (w6.drew.alloc O) := (Below.refl w6.heap.size w6).drew.alloc (Nat.le_refl _) O
theorem ne7 {a b z : Nat} (h : a < z) (k : b < z) : ¬ z = a ∧ ¬ a = z ∧ ¬ z = b ∧ ¬ b = z := by omega

set_option maxHeartbeats 4000000 in
theorem xLaw0 (a p : Option Addr) (n c m q : Nat) (d S : Nat → Int) (L : Nat → Nat) (F : Nat → Nat → Int) (fuel : Int) (dead : Bool) (gen ar fi : Int) (w : World) (ha : Rd .u8 w a n d) (hp : RdP w p m S L F) (hn : n ≤ maxLen) (hm : m ≤ maxLen) (hL : ∀ i, i < m → L i ≤ maxLen)
    (n2 m2 : Nat) (d2 S2 : Nat → Int) (L2 : Nat → Nat) (F2 : Nat → Nat → Int) (fuel2 : Int) (dead2 : Bool)
    (hspec : n ≤ 1048576 → m ≤ 1048576 → (∀ i, i < m → L i ≤ 1048576) → n2 ≤ 1048576 ∧ m2 ≤ 1048576 ∧ (∀ i, i < m2 → L2 i ≤ 1048576) ∧ ∀ W a p, Rd .u8 W a n d → RdP W p m S L F → Calls Try.prog 15 #[.agg #[.slice a n n, .slice p m m, .int .i64 fuel, .bool dead], .agg #[.int .i64 gen, .int .i64 ar, .int .i64 fi]] W fun e w' => RetD W e w' n2 d2 m2 S2 L2 F2 fuel2 dead2)
    (himpl : n ≤ 1048576 → m ≤ 1048576 → (∀ i, i < m → L i ≤ 1048576) → ∀ W a p, Rd .u8 W a n d → RdP W p m S L F → Calls Try.prog 17 #[.agg #[.slice a n n, .slice p m m, .int .i64 fuel, .bool dead], .agg #[.int .i64 gen, .int .i64 ar, .int .i64 fi]] W fun e w' => RetD W e w' n2 d2 m2 S2 L2 F2 fuel2 dead2) :
    Calls Try.prog 5 #[.agg #[.slice a n c, .slice p m q, .int .i64 fuel, .bool dead], .agg #[.int .i64 gen, .int .i64 ar, .int .i64 fi]] w fun e w' => e = .returned (.bool true) ∧ Below w.heap.size w w' := by
  have HA : Hid (Rd .u8 w a n d) := ha
  have HP : Hid (RdP w p m S L F) := hp
  have HL : Hid (∀ i, i < m → L i ≤ maxLen) := hL
  have HSP : Hid (n ≤ 1048576 → m ≤ 1048576 → (∀ i, i < m → L i ≤ 1048576) → n2 ≤ 1048576 ∧ m2 ≤ 1048576 ∧ (∀ i, i < m2 → L2 i ≤ 1048576) ∧ ∀ W a p, Rd .u8 W a n d → RdP W p m S L F → Calls Try.prog 15 #[.agg #[.slice a n n, .slice p m m, .int .i64 fuel, .bool dead], .agg #[.int .i64 gen, .int .i64 ar, .int .i64 fi]] W fun e w' => RetD W e w' n2 d2 m2 S2 L2 F2 fuel2 dead2) := hspec
  have HIM : Hid (n ≤ 1048576 → m ≤ 1048576 → (∀ i, i < m → L i ≤ 1048576) → ∀ W a p, Rd .u8 W a n d → RdP W p m S L F → Calls Try.prog 17 #[.agg #[.slice a n n, .slice p m m, .int .i64 fuel, .bool dead], .agg #[.int .i64 gen, .int .i64 ar, .int .i64 fi]] W fun e w' => RetD W e w' n2 d2 m2 S2 L2 F2 fuel2 dead2) := himpl
  clear ha hp hL hspec himpl
  go_enter Try.func5, Try.ntmps5
  go_wp2_with fail
  obtain ⟨W0, hW0⟩ : ∃ W, W = (w.alloc (.cells #[.slice a n c, .slice p m q, .int .i64 fuel, .bool dead] 31)).alloc (.cells #[.int .i64 gen, .int .i64 ar, .int .i64 fi] 45) := ⟨_, rfl⟩
  rw [← hW0]
  have HB0 : Hid (Below w.heap.size w W0) := by rw [hW0]; exact below_alloc2' _ _ _
  have LB : Hid (∀ W, Below W0.heap.size W0 W → Box4 W w.heap.size (.slice a n c) (.slice p m q) (.int .i64 fuel) (.bool dead) ∧ Box3 W (w.heap.size + 1) (.int .i64 gen) (.int .i64 ar) (.int .i64 fi)) := by
    intro W hb
    rw [hW0] at hb
    have q3 := Box3.new (w.alloc (.cells #[.slice a n c, .slice p m q, .int .i64 fuel, .bool dead] 31)) (.int .i64 gen) (.int .i64 ar) (.int .i64 fi) 45
    rw [alloc_size] at q3
    exact ⟨((Box4.new w _ _ _ _ 31).below (below_alloc _ _)).below hb, q3.below hb⟩
  have HA : Hid (Rd .u8 W0 a n d) := HA.out.below HB0.out
  have HP : Hid (RdP W0 p m S L F) := HP.out.below HB0.out
  clear hW0
  refine (szDisk_any a p n c m q S L F fuel dead _ hn HP.out hm HL.out).mono ?_
  rintro e w1 ⟨r, rfl, hr, hb1⟩
  have B1 : Hid (Below W0.heap.size W0 w1) := hb1
  have A1 : Hid (Box4 w1 w.heap.size (.slice a n c) (.slice p m q) (.int .i64 fuel) (.bool dead)) := (LB.out _ hb1).1
  clear hb1
  rcases hr with rfl | ⟨hr0, hn1, hm1, hL1⟩
  · go_wp2
    go_ret
    exact ⟨rfl, HB0.out.trans (B1.out.mono HB0.out.size)⟩
  have hr1 : ¬ r < 0 := by omega
  have HL1 : Hid (∀ i, i < m → L i ≤ 1048576) := hL1
  obtain ⟨hn2, hm2, hL2, hS⟩ := HSP.out hn1 hm1 HL1.out
  have HL2 : Hid (∀ i, i < m2 → L2 i ≤ 1048576) := hL2
  have HS : Hid (∀ W a p, Rd .u8 W a n d → RdP W p m S L F → Calls Try.prog 15 #[.agg #[.slice a n n, .slice p m m, .int .i64 fuel, .bool dead], .agg #[.int .i64 gen, .int .i64 ar, .int .i64 fi]] W fun e w' => RetD W e w' n2 d2 m2 S2 L2 F2 fuel2 dead2) := hS
  have HI : Hid (∀ W a p, Rd .u8 W a n d → RdP W p m S L F → Calls Try.prog 17 #[.agg #[.slice a n n, .slice p m m, .int .i64 fuel, .bool dead], .agg #[.int .i64 gen, .int .i64 ar, .int .i64 fi]] W fun e w' => RetD W e w' n2 d2 m2 S2 L2 F2 fuel2 dead2) := HIM.out hn1 hm1 HL1.out
  clear hL1 hn hm HSP HIM HL hL2 hS
  have HTD : Hid (∀ W, Below W0.heap.size W0 W → Calls Try.prog 11 #[.agg #[.slice a n c, .slice p m q, .int .i64 fuel, .bool dead]] W fun e w' => RetC W e w' n d m S L F fuel dead) := fun W hb => toDisk_c a p n c m q d S L F fuel dead W (HA.out.below hb) (HP.out.below hb) hn1 hm1 HL1.out
  have BD1 : Hid (Below W0.heap.size W0 w1.drew) := B1.out.drew
  obtain ⟨⟨x0, x1, x2, x3, xz⟩, x4, x5, x6, xy⟩ := LB.out w1 B1.out
  clear HA HP A1
  go_wp2
  go_cut [6] from 18 to 22 (fun s6 wx => Boxed W0 wx W0.heap.size s6 n2 d2 m2 S2 L2 F2 fuel2 dead2)
  case first =>
    have z1 : W0.heap.size ≤ w1.heap.size := B1.out.size
    obtain ⟨m10, m11, m12, m13⟩ := ne_facts xy
    go_region_held3 (fun w' => (w'.cell? ⟨w.heap.size, 0, none⟩ = some (.slice a n c) ∧ w'.cell? ⟨w.heap.size, 1, none⟩ = some (.slice p m q) ∧ w'.cell? ⟨w.heap.size, 2, none⟩ = some (.int .i64 fuel) ∧ w'.cell? ⟨w.heap.size, 3, none⟩ = some (.bool dead)) ∧ w'.cell? ⟨w.heap.size + 1, 0, none⟩ = some (.int .i64 gen) ∧ w'.cell? ⟨w.heap.size + 1, 1, none⟩ = some (.int .i64 ar) ∧ w'.cell? ⟨w.heap.size + 1, 2, none⟩ = some (.int .i64 fi)) (go_keep)
      (first
      | (go_at_call 11; refine (HTD.out w1.drew BD1.out).mono ?_; rintro e w2 ⟨a2, p2, A2, rfl, ho2, hb2⟩; have b2 := Below.next BD1.out hb2; obtain ⟨⟨u0, u1, u2, u3, uz⟩, v0, v1, v2, vz⟩ := LB.out w2 b2; obtain ⟨mw20, mw21, mw22, mw23⟩ := ne_facts vz; have zz : w1.heap.size ≤ w2.heap.size := hb2.size)
      | (go_at_call 11; refine (HTD.out (w1.drew.alloc (.cells #[.slice none 0 0, .slice none 0 0, .int .i64 0, .bool false] 40)) (BD1.out.alloc BD1.out.size _)).mono ?_; rintro e w2 ⟨a2, p2, A2, rfl, ho2, hb2⟩; have b2 := Below.next (BD1.out.alloc BD1.out.size _) hb2; obtain ⟨⟨u0, u1, u2, u3, uz⟩, v0, v1, v2, vz⟩ := LB.out w2 b2; obtain ⟨mw20, mw21, mw22, mw23⟩ := ne_facts vz; have k2 : DkRow w2 w1.heap.size (.slice none 0 0) (.slice none 0 0) 0 false := (rowInNew w1.drew _ _ _ _).below hb2; have zz : w1.heap.size + 1 ≤ w2.heap.size := (by have := hb2.size; rw [alloc_size] at this; exact this))
      | (go_at_call 16; refine (toSuper_any gen ar fi w2).mono ?_; rintro e w3 ⟨rfl, hb3⟩; have b3 := Below.next b2 hb3; obtain ⟨⟨u0, u1, u2, u3, uz⟩, v0, v1, v2, vz⟩ := LB.out w3 b3; obtain ⟨mw30, mw31, mw32, mw33⟩ := ne_facts vz; have r3 : Rd .u8 w3 a2 n d ∧ RdP w3 p2 m S L F := ⟨ho2.data.rd.below hb3, ho2.cache.rd.below hb3⟩; have zy := hb3.size; (try have k3 := k2.below hb3))
      | (go_at_call 16; refine (toSuper_any gen ar fi (w2.alloc (.cells #[.slice none 0 0, .slice none 0 0, .int .i64 0, .bool false] 40))).mono ?_; rintro e w3 ⟨rfl, hb3⟩; have b3 := Below.next (b2.alloc b2.size _) hb3; obtain ⟨⟨u0, u1, u2, u3, uz⟩, v0, v1, v2, vz⟩ := LB.out w3 b3; obtain ⟨mw30, mw31, mw32, mw33⟩ := ne_facts vz; have r3 : Rd .u8 w3 a2 n d ∧ RdP w3 p2 m S L F := ⟨(ho2.data.rd.below (below_alloc _ _)).below hb3, (ho2.cache.rd.below (below_alloc _ _)).below hb3⟩; have k3 : DkRow w3 w2.heap.size (.slice none 0 0) (.slice none 0 0) 0 false := (rowInNew w2 _ _ _ _).below hb3; have zy := hb3.size; rw [alloc_size] at zy)
      | (go_at_call 15; refine (HS.out w3 a2 p2 r3.1 r3.2).mono ?_; rintro e w4 ⟨a4, c4, p4, q4, A4, rfl, ho4, hb4⟩; have b4 := Below.next b3 hb4; obtain ⟨⟨u0, u1, u2, u3, uz⟩, v0, v1, v2, vz⟩ := LB.out w4 b4; obtain ⟨mw40, mw41, mw42, mw43⟩ := ne_facts vz; have zx := hb4.size; (try have k4 := k3.below hb4); (try obtain ⟨f0, f1, f2, f3, ff, fl⟩ := k4.cells))
      | (go_at_call 15; refine (HS.out (w3.alloc (.cells #[.slice none 0 0, .slice none 0 0, .int .i64 0, .bool false] 40)) a2 p2 (r3.1.below (below_alloc _ _)) (r3.2.below (below_alloc _ _))).mono ?_; rintro e w4 ⟨a4, c4, p4, q4, A4, rfl, ho4, hb4⟩; have b4 := Below.next (b3.alloc b3.size _) hb4; obtain ⟨⟨u0, u1, u2, u3, uz⟩, v0, v1, v2, vz⟩ := LB.out w4 b4; obtain ⟨mw40, mw41, mw42, mw43⟩ := ne_facts vz; have k4 : DkRow w4 w3.heap.size (.slice none 0 0) (.slice none 0 0) 0 false := (rowInNew w3 _ _ _ _).below hb4; obtain ⟨f0, f1, f2, f3, ff, fl⟩ := k4.cells; have zx := hb4.size; rw [alloc_size] at zx ho4)
      | fail)
    all_goals
      go_wp2
      go_meet
      case rel =>
        have q3 := b3.size
        have q2 := b2.size
        first
        | ((with_reducible refine boxed_set ho4 k4 ?_ ?_ ?_ ?_ b4) <;> omega)
        | ((with_reducible refine boxed_new ho4 ?_ b4 ?_) <;> omega)
        | ((with_reducible refine boxed_late ho4 ?_ b4 ?_) <;> omega)
  case rest =>
  obtain ⟨wk, rfl⟩ : ∃ x, x = wc := ⟨_, rfl⟩
  obtain ⟨g4, B4, T4, a4, c4, p4, q4, A4, rfl, hlo4, hbx4, ho4, -, -, -, -, -, hb4⟩ := hcut
  have LA : Hid (∀ W, Below wk.heap.size wk W → (Box4 W w.heap.size (.slice a n c) (.slice p m q) (.int .i64 fuel) (.bool dead) ∧ Box3 W (w.heap.size + 1) (.int .i64 gen) (.int .i64 ar) (.int .i64 fi)) ∧ Box4 W g4 (.slice a4 n2 c4) (.slice p4 m2 q4) (.int .i64 fuel2) (.bool dead2) ∧ Rd .u8 W a4 n2 d2 ∧ RdP W p4 m2 S2 L2 F2 ∧ Below W0.heap.size W0 W) := fun W hb =>
    ⟨LB.out W (Below.next hb4 hb), hbx4.below hb, ho4.data.rd.below hb, ho4.cache.rd.below hb, Below.next hb4 hb⟩
  have B4' : Hid (Below W0.heap.size W0 wk) := hb4
  have hg4 : g4 < wk.heap.size := hbx4.2.2.2.2
  clear x0 x1 x2 x3 xz x4 x5 x6 xy hbx4 ho4 hb4 HS B1 BD1
  obtain ⟨⟨x0, x1, x2, x3, xz⟩, -⟩ := (LA.out wk (Below.refl _ _)).1
  -- impl's argument
  go_wp2_with fail
  refine (HTD.out wk B4'.out).mono ?_
  rintro e w5 ⟨a5, p5, A5, rfl, ho5, hb5⟩
  have z5 := hb5.size
  have M5 : Hid (Below wk.heap.size wk w5) := hb5
  have H5 : Hid (OwnD w5 wk.heap.size a5 n d p5 m S L F A5) := ho5
  clear ho5 hb5 x0 x1 x2 x3 xz
  go_wp2
  obtain ⟨w6, hw6⟩ : ∃ W, W = w5.alloc (.cells #[.slice a5 n n, .slice p5 m m, .int .i64 fuel, .bool dead] 40) := ⟨_, rfl⟩
  rw [← hw6]
  have z6 : w6.heap.size = w5.heap.size + 1 := by rw [hw6]; simp
  have M6 : Hid (Below wk.heap.size wk w6) := by rw [hw6]; exact M5.out.alloc (by omega) _
  have KX : Hid (∀ W, Below w6.heap.size w6 W → Box4 W w5.heap.size (.slice a5 n n) (.slice p5 m m) (.int .i64 fuel) (.bool dead) ∧ Box3 W (w.heap.size + 1) (.int .i64 gen) (.int .i64 ar) (.int .i64 fi)) := fun W hb => ⟨Box4.below (by rw [hw6]; exact Box4.new w5 _ _ _ _ 40) hb, (LA.out W (Below.next M6.out hb)).1.2⟩
  have D6 : Hid (∀ W, Below w6.heap.size w6 W → OwnD W wk.heap.size a5 n d p5 m S L F A5) := fun W hb => OwnD.below (by rw [hw6]; exact H5.out.below (below_alloc _ _)) hb
  have R6 : Hid (∀ W, Below w6.heap.size w6 W → Rd .u8 W a5 n d ∧ RdP W p5 m S L F) := fun W hb => ⟨(D6.out W hb).data.rd, (D6.out W hb).cache.rd⟩
  clear hw6
  have z6' : w5.heap.size < w6.heap.size := by omega
  have z6'' : wk.heap.size ≤ w6.heap.size := by omega
  clear z6
  obtain ⟨⟨x0, x1, x2, x3, xz⟩, x4, x5, x6, xy⟩ := KX.out w6 (Below.refl _ _)
  go_cut [8] from 25 to 28 (fun s8 wx => Boxed w6 wx w6.heap.size s8 n2 d2 m2 S2 L2 F2 fuel2 dead2)
  case first =>
    obtain ⟨m10, m11, m12, m13⟩ := ne7 xy xz
    go_region_held3 (fun w' => (w'.cell? ⟨w5.heap.size, 0, none⟩ = some (.slice a5 n n) ∧ w'.cell? ⟨w5.heap.size, 1, none⟩ = some (.slice p5 m m) ∧ w'.cell? ⟨w5.heap.size, 2, none⟩ = some (.int .i64 fuel) ∧ w'.cell? ⟨w5.heap.size, 3, none⟩ = some (.bool dead)) ∧ w'.cell? ⟨w.heap.size + 1, 0, none⟩ = some (.int .i64 gen) ∧ w'.cell? ⟨w.heap.size + 1, 1, none⟩ = some (.int .i64 ar) ∧ w'.cell? ⟨w.heap.size + 1, 2, none⟩ = some (.int .i64 fi)) (go_keep)
      (first
      | (go_at_call 16; refine (toSuper_any gen ar fi w6.drew).mono ?_; rintro e w3 ⟨rfl, hb3⟩; have b3 : Below w6.heap.size w6 w3 := Below.next (Below.refl w6.heap.size w6).drew hb3; obtain ⟨⟨u0, u1, u2, u3, uz⟩, v0, v1, v2, vz⟩ := KX.out w3 b3; obtain ⟨mw30, mw31, mw32, mw33⟩ := ne7 vz uz; have zy : w6.heap.size ≤ w3.heap.size := hb3.size)
      | (go_at_call 16; refine (toSuper_any gen ar fi (w6.drew.alloc (.cells #[.slice none 0 0, .slice none 0 0, .int .i64 0, .bool false] 40))).mono ?_; rintro e w3 ⟨rfl, hb3⟩; have b3 : Below w6.heap.size w6 w3 := Below.next (belowA6 w6 _) hb3; obtain ⟨⟨u0, u1, u2, u3, uz⟩, v0, v1, v2, vz⟩ := KX.out w3 b3; obtain ⟨mw30, mw31, mw32, mw33⟩ := ne7 vz uz; have k3 : DkRow w3 w6.heap.size (.slice none 0 0) (.slice none 0 0) 0 false := (rowInNew w6.drew _ _ _ _).below hb3; have zy : w6.heap.size + 1 ≤ w3.heap.size := (by have := hb3.size; rw [alloc_size] at this; exact this))
      | (go_at_call 17; refine (HI.out w3 a5 p5 (R6.out w3 b3).1 (R6.out w3 b3).2).mono ?_; rintro e w9 ⟨a4', c4', p4', q4', A4', rfl, ho4', hb4'⟩; have b4' := Below.next b3 hb4'; obtain ⟨⟨u0, u1, u2, u3, uz⟩, v0, v1, v2, vz⟩ := KX.out w9 b4'; obtain ⟨mw90, mw91, mw92, mw93⟩ := ne7 vz uz; have zx := hb4'.size; (try have k4 := k3.below hb4'); (try obtain ⟨f0, f1, f2, f3, ff, fl⟩ := k4.cells))
      | (go_at_call 17; refine (HI.out (w3.alloc (.cells #[.slice none 0 0, .slice none 0 0, .int .i64 0, .bool false] 40)) a5 p5 ((R6.out w3 b3).1.below (below_alloc _ _)) ((R6.out w3 b3).2.below (below_alloc _ _))).mono ?_; rintro e w9 ⟨a4', c4', p4', q4', A4', rfl, ho4', hb4'⟩; have b4' := Below.next (b3.alloc b3.size _) hb4'; obtain ⟨⟨u0, u1, u2, u3, uz⟩, v0, v1, v2, vz⟩ := KX.out w9 b4'; obtain ⟨mw90, mw91, mw92, mw93⟩ := ne7 vz uz; have k4 : DkRow w9 w3.heap.size (.slice none 0 0) (.slice none 0 0) 0 false := (rowInNew w3 _ _ _ _).below hb4'; obtain ⟨f0, f1, f2, f3, ff, fl⟩ := k4.cells; have zx := hb4'.size; rw [alloc_size] at zx ho4')
      | fail)
    all_goals
      go_wp2
      go_meet
      case rel =>
        have q3 := b3.size
        first
        | ((with_reducible refine boxed_set ho4' k4 ?_ ?_ ?_ ?_ b4') <;> omega)
        | ((with_reducible refine boxed_new ho4' ?_ b4' ?_) <;> omega)
        | ((with_reducible refine boxed_late ho4' ?_ b4' ?_) <;> omega)
  case rest =>
  obtain ⟨w7, rfl⟩ : ∃ x, x = wc := ⟨_, rfl⟩
  obtain ⟨g8, B8, T8, a7, c7, p7, q7, A7, rfl, hlo8, hbx8, ho7, hlt7, hB8, hap8, hT8, hBs8, hb7⟩ := hcut
  have hg8 : g8 < w7.heap.size := hbx8.2.2.2.2
  have HAP : Hid (g8 < B8 ∨ T8 ≤ g8) := hap8
  have G7L : Hid (LtB T8 a7 n2 ∧ LtB T8 p7 m2 ∧ ∀ i, i < m2 → LtB T8 (A7 i) (L2 i)) := hlt7
  have z7 := hb7.size
  have M7 : Hid (Below wk.heap.size wk w7) := Below.next M6.out hb7
  have G7 : Hid (OwnD w7 B8 a7 n2 d2 p7 m2 S2 L2 F2 A7 ∧ Box4 w7 g8 (.slice a7 n2 c7) (.slice p7 m2 q7) (.int .i64 fuel2) (.bool dead2)) := ⟨ho7, hbx8⟩
  have D7 : Hid (OwnD w7 wk.heap.size a5 n d p5 m S L F A5 ∧ Box4 w7 w5.heap.size (.slice a5 n n) (.slice p5 m m) (.int .i64 fuel) (.bool dead)) := ⟨D6.out w7 hb7, (KX.out w7 hb7).1⟩
  clear hap8 hlt7 hb7 ho7 x0 x1 x2 x3 xz x4 x5 x6 xy KX D6 R6 M6
  obtain ⟨y0, y1, y2, y3, yz⟩ := hbx8
  obtain ⟨x0, x1, x2, x3, xz⟩ := (LA.out _ M7.out).2.1
  go_wp2_with fail
  refine (eqDisk_yes a7 a4 n2 c7 c4 d2 p7 p4 m2 q7 q4 S2 L2 F2 fuel2 dead2 w7 G7.out.1.data.rd (LA.out _ M7.out).2.2.1 G7.out.1.cache.rd (LA.out _ M7.out).2.2.2.1 (by omega) hm2 HL2.out).mono ?_
  rintro e w8 ⟨rfl, hb8⟩
  have z8 := hb8.size
  have M8 : Hid (Below wk.heap.size wk w8) := Below.next M7.out hb8
  have G8 : Hid (OwnD w8 B8 a7 n2 d2 p7 m2 S2 L2 F2 A7 ∧ Box4 w8 g8 (.slice a7 n2 c7) (.slice p7 m2 q7) (.int .i64 fuel2) (.bool dead2)) := ⟨G7.out.1.below hb8, G7.out.2.below hb8⟩
  have D8 : Hid (OwnD w8 wk.heap.size a5 n d p5 m S L F A5 ∧ Box4 w8 w5.heap.size (.slice a5 n n) (.slice p5 m m) (.int .i64 fuel) (.bool dead)) := ⟨D7.out.1.below hb8, D7.out.2.below hb8⟩
  clear hb8 y0 y1 y2 y3 yz x0 x1 x2 x3 xz M7 G7 D7
  obtain ⟨x0, x1, x2, x3, xz⟩ := (LA.out _ M8.out).1.1
  obtain ⟨y0, y1, y2, y3, yz⟩ := D8.out.2
  go_wp2
  go_region_held3 (fun w' => (w'.cell? ⟨w5.heap.size, 0, none⟩ = some (.slice a5 n n) ∧ w'.cell? ⟨w5.heap.size, 1, none⟩ = some (.slice p5 m m) ∧ w'.cell? ⟨w5.heap.size, 2, none⟩ = some (.int .i64 fuel) ∧ w'.cell? ⟨w5.heap.size, 3, none⟩ = some (.bool dead)) ∧ w'.cell? ⟨w.heap.size, 0, none⟩ = some (.slice a n c) ∧ w'.cell? ⟨w.heap.size, 1, none⟩ = some (.slice p m q) ∧ w'.cell? ⟨w.heap.size, 2, none⟩ = some (.int .i64 fuel) ∧ w'.cell? ⟨w.heap.size, 3, none⟩ = some (.bool dead)) (go_keep)
    (first
    | (go_at_call 11; refine (HTD.out w8.drew (LA.out _ M8.out).2.2.2.2.drew).mono ?_; rintro e w9 ⟨a9, p9, A9, rfl, ho9, hb9⟩; obtain ⟨u0, u1, u2, u3, uz⟩ := Box4.below (w := w8.drew) D8.out.2 hb9; obtain ⟨v0, v1, v2, v3, vz⟩ := Box4.below (w := w8.drew) (LA.out _ M8.out).1.1 hb9)
    | (go_at_call 14; refine (eqDisk_yes a5 a9 n n n d p5 p9 m m m S L F fuel dead w9 ?_ ?_ ?_ ?_ ?_ hm1 HL1.out).mono ?_; exact Rd.below (w := w8.drew) D8.out.1.data.rd hb9; exact ho9.data.rd; exact RdP.below (w := w8.drew) D8.out.1.cache.rd hb9; exact ho9.cache.rd; omega; rintro e w10 ⟨rfl, hb10⟩; obtain ⟨u0, u1, u2, u3, uz⟩ := Box4.below (Box4.below (w := w8.drew) D8.out.2 hb9) hb10; obtain ⟨v0, v1, v2, v3, vz⟩ := Box4.below (Box4.below (w := w8.drew) (LA.out _ M8.out).1.1 hb9) hb10))
  have hb10' : Below w8.heap.size w8 w10 := ((Below.refl _ _).drew.trans (hb9.mono (by simp))).trans (hb10.mono (by have := hb9.size; simpa using this))
  clear hb9 hb10 ho9 u0 u1 u2 u3 uz v0 v1 v2 v3 vz x0 x1 x2 x3 xz y0 y1 y2 y3 yz
  have z10 := hb10'.size
  have M10 : Hid (Below wk.heap.size wk w10) := Below.next M8.out hb10'
  have G10 : Hid (OwnD w10 B8 a7 n2 d2 p7 m2 S2 L2 F2 A7 ∧ Box4 w10 g8 (.slice a7 n2 c7) (.slice p7 m2 q7) (.int .i64 fuel2) (.bool dead2)) := ⟨G8.out.1.below hb10', G8.out.2.below hb10'⟩
  have D10 : Hid (OwnD w10 wk.heap.size a5 n d p5 m S L F A5 ∧ Box4 w10 w5.heap.size (.slice a5 n n) (.slice p5 m m) (.int .i64 fuel) (.bool dead)) := ⟨D8.out.1.below hb10', D8.out.2.below hb10'⟩
  clear hb10' M8 G8 D8
  obtain ⟨y0, y1, y2, y3, yz⟩ := D10.out.2
  -- the copies are written over
  go_wp2_with fail
  refine (markDisk_own a5 p5 n n m m wk.heap.size w5.heap.size d S L F A5 fuel dead w10 1 D10.out.1.data D10.out.1.cache D10.out.1.apart H5.out.data.ltB H5.out.cache.ltB hn1 hm1 HL1.out (by omega) (by omega)).mono ?_
  rintro e w13 ⟨rfl, -, -, hw13⟩
  have z13 := hw13.size
  have hkk0 : 0 ≤ koff L (1 + (n : Int)) m := by have := koff_ge L (1 + (n : Int)) m; omega
  have hkk1 := koff_top L (1 + (n : Int)) m hm1 HL1.out (by omega) m (Nat.le_refl _)
  generalize koff L (1 + (n : Int)) m = kk at *
  have M13 : Hid (Below wk.heap.size wk w13) := M10.out.trans (hw13.below (by omega))
  have G13 : Hid (OwnD w13 B8 a7 n2 d2 p7 m2 S2 L2 F2 A7 ∧ Box4 w13 g8 (.slice a7 n2 c7) (.slice p7 m2 q7) (.int .i64 fuel2) (.bool dead2)) := ⟨G10.out.1.within (by omega) hw13, G10.out.2.within (by omega) hw13⟩
  clear hw13 M10 G10 D10 y0 y1 y2 y3 yz
  have hkk2 : ¬ kk < 0 := by omega
  obtain ⟨y0, y1, y2, y3, yz⟩ := G13.out.2
  obtain ⟨x0, x1, x2, x3, xz⟩ := (LA.out _ M13.out).2.1
  go_wp2_with fail
  refine (eqDisk_yes a7 a4 n2 c7 c4 d2 p7 p4 m2 q7 q4 S2 L2 F2 fuel2 dead2 w13 G13.out.1.data.rd (LA.out _ M13.out).2.2.1 G13.out.1.cache.rd (LA.out _ M13.out).2.2.2.1 (by omega) hm2 HL2.out).mono ?_
  rintro e w15 ⟨rfl, hb15⟩
  clear x0 x1 x2 x3 xz y0 y1 y2 y3 yz
  have z15 := hb15.size
  have M15 : Hid (Below wk.heap.size wk w15) := Below.next M13.out hb15
  have G15 : Hid (OwnD w15 B8 a7 n2 d2 p7 m2 S2 L2 F2 A7 ∧ Box4 w15 g8 (.slice a7 n2 c7) (.slice p7 m2 q7) (.int .i64 fuel2) (.bool dead2)) := ⟨G13.out.1.below hb15, G13.out.2.below hb15⟩
  clear hb15 M13 G13
  obtain ⟨y0, y1, y2, y3, yz⟩ := G15.out.2
  -- the answer is written over and read back
  go_wp2_with fail
  refine (markDisk_own a7 p7 n2 c7 m2 q7 B8 T8 d2 S2 L2 F2 A7 fuel2 dead2 w15 1 G15.out.1.data G15.out.1.cache G15.out.1.apart G7L.out.1 G7L.out.2 hn2 hm2 HL2.out (by omega) (by omega)).mono ?_
  rintro e w16 ⟨rfl, hr16, hp16, hw16⟩
  have z16 := hw16.size
  have M16 : Hid (Below wk.heap.size wk w16) := M15.out.trans ((hw16.below (by omega)).mono (by omega))
  have R16 : Hid (Rd .u8 w16 a7 n2 (fun i => IntKind.u8.wrap (1 + i)) ∧ RdP w16 p7 m2 (fun i => koff L2 (1 + (n2 : Int)) i) L2 (fun i j => IntKind.u8.wrap (koff L2 (1 + (n2 : Int)) i + 1 + j))) := ⟨hr16, hp16⟩
  have BG16 : Hid (Box4 w16 g8 (.slice a7 n2 c7) (.slice p7 m2 q7) (.int .i64 fuel2) (.bool dead2)) := G15.out.2.apart HAP.out hw16
  clear y0 y1 y2 y3 yz hr16 hp16 hw16 M15 G15
  obtain ⟨y0, y1, y2, y3, yz⟩ := BG16.out
  go_wp2_with fail
  refine (heldDisk_yes a7 p7 n2 c7 m2 q7 L2 fuel2 dead2 w16 1 R16.out.1 R16.out.2 hn2 hm2 HL2.out (by omega) (by omega)).mono ?_
  rintro e w17 ⟨rfl, hb17⟩
  have hq1 : ¬ koff L2 (1 + (n2 : Int)) m2 < 0 := by have := koff_ge L2 (1 + (n2 : Int)) m2; omega
  have hq2 : (koff L2 (1 + (n2 : Int)) m2 != koff L2 (1 + (n2 : Int)) m2) = false := by simp
  generalize koff L2 (1 + (n2 : Int)) m2 = kq at *
  clear y0 y1 y2 y3 yz
  have M17 : Hid (Below wk.heap.size wk w17) := Below.next M16.out hb17
  clear hb17 M16 R16 BG16 H5 M5 G7L HAP hlo8 hB8 hT8 hg8 hlo4
  -- once more
  have BD17 : Hid (Below w17.heap.size w17 w17.drew) := (Below.refl _ _).drew
  have HTD17 : Hid (∀ W, Below w17.heap.size w17 W → Calls Try.prog 11 #[.agg #[.slice a n c, .slice p m q, .int .i64 fuel, .bool dead]] W fun e w' => RetC W e w' n d m S L F fuel dead) := fun W hb => HTD.out W (LA.out _ (Below.next M17.out hb)).2.2.2.2
  have LB17 : Hid (∀ W, Below w17.heap.size w17 W → Box4 W w.heap.size (.slice a n c) (.slice p m q) (.int .i64 fuel) (.bool dead) ∧ Box3 W (w.heap.size + 1) (.int .i64 gen) (.int .i64 ar) (.int .i64 fi)) := fun W hb => (LA.out _ (Below.next M17.out hb)).1
  obtain ⟨⟨x0, x1, x2, x3, xz⟩, x4, x5, x6, xy⟩ := LB17.out w17 (Below.refl _ _)
  go_wp2
  go_cut [12] from 60 to 64 (fun s12 wx => Boxed w17 wx w17.heap.size s12 n2 d2 m2 S2 L2 F2 fuel2 dead2)
  case first =>
    obtain ⟨m10, m11, m12, m13⟩ := ne_facts xy
    go_region_held3 (fun w' => (w'.cell? ⟨w.heap.size, 0, none⟩ = some (.slice a n c) ∧ w'.cell? ⟨w.heap.size, 1, none⟩ = some (.slice p m q) ∧ w'.cell? ⟨w.heap.size, 2, none⟩ = some (.int .i64 fuel) ∧ w'.cell? ⟨w.heap.size, 3, none⟩ = some (.bool dead)) ∧ w'.cell? ⟨w.heap.size + 1, 0, none⟩ = some (.int .i64 gen) ∧ w'.cell? ⟨w.heap.size + 1, 1, none⟩ = some (.int .i64 ar) ∧ w'.cell? ⟨w.heap.size + 1, 2, none⟩ = some (.int .i64 fi)) (go_keep)
      (first
      | (go_at_call 11; refine (HTD17.out w17.drew BD17.out).mono ?_; rintro e w2 ⟨a2, p2, A2, rfl, ho2, hb2⟩; have b2 := Below.next BD17.out hb2; obtain ⟨⟨u0, u1, u2, u3, uz⟩, v0, v1, v2, vz⟩ := LB17.out w2 b2; obtain ⟨mw20, mw21, mw22, mw23⟩ := ne_facts vz; have zz : w17.heap.size ≤ w2.heap.size := hb2.size)
      | (go_at_call 11; refine (HTD17.out (w17.drew.alloc (.cells #[.slice none 0 0, .slice none 0 0, .int .i64 0, .bool false] 40)) (BD17.out.alloc BD17.out.size _)).mono ?_; rintro e w2 ⟨a2, p2, A2, rfl, ho2, hb2⟩; have b2 := Below.next (BD17.out.alloc BD17.out.size _) hb2; obtain ⟨⟨u0, u1, u2, u3, uz⟩, v0, v1, v2, vz⟩ := LB17.out w2 b2; obtain ⟨mw20, mw21, mw22, mw23⟩ := ne_facts vz; have k2 : DkRow w2 w17.heap.size (.slice none 0 0) (.slice none 0 0) 0 false := (rowInNew w17.drew _ _ _ _).below hb2; have zz : w17.heap.size + 1 ≤ w2.heap.size := (by have := hb2.size; rw [alloc_size] at this; exact this))
      | (go_at_call 16; refine (toSuper_any gen ar fi w2).mono ?_; rintro e w3 ⟨rfl, hb3⟩; have b3 := Below.next b2 hb3; obtain ⟨⟨u0, u1, u2, u3, uz⟩, v0, v1, v2, vz⟩ := LB17.out w3 b3; obtain ⟨mw30, mw31, mw32, mw33⟩ := ne_facts vz; have r3 : Rd .u8 w3 a2 n d ∧ RdP w3 p2 m S L F := ⟨ho2.data.rd.below hb3, ho2.cache.rd.below hb3⟩; have zy := hb3.size; (try have k3 := k2.below hb3))
      | (go_at_call 16; refine (toSuper_any gen ar fi (w2.alloc (.cells #[.slice none 0 0, .slice none 0 0, .int .i64 0, .bool false] 40))).mono ?_; rintro e w3 ⟨rfl, hb3⟩; have b3 := Below.next (b2.alloc b2.size _) hb3; obtain ⟨⟨u0, u1, u2, u3, uz⟩, v0, v1, v2, vz⟩ := LB17.out w3 b3; obtain ⟨mw30, mw31, mw32, mw33⟩ := ne_facts vz; have r3 : Rd .u8 w3 a2 n d ∧ RdP w3 p2 m S L F := ⟨(ho2.data.rd.below (below_alloc _ _)).below hb3, (ho2.cache.rd.below (below_alloc _ _)).below hb3⟩; have k3 : DkRow w3 w2.heap.size (.slice none 0 0) (.slice none 0 0) 0 false := (rowInNew w2 _ _ _ _).below hb3; have zy := hb3.size; rw [alloc_size] at zy)
      | (go_at_call 17; refine (HI.out w3 a2 p2 r3.1 r3.2).mono ?_; rintro e w4 ⟨a4, c4, p4, q4, A4, rfl, ho4, hb4⟩; have b4 := Below.next b3 hb4; obtain ⟨⟨u0, u1, u2, u3, uz⟩, v0, v1, v2, vz⟩ := LB17.out w4 b4; obtain ⟨mw40, mw41, mw42, mw43⟩ := ne_facts vz; have zx := hb4.size; (try have k4 := k3.below hb4); (try obtain ⟨f0, f1, f2, f3, ff, fl⟩ := k4.cells))
      | (go_at_call 17; refine (HI.out (w3.alloc (.cells #[.slice none 0 0, .slice none 0 0, .int .i64 0, .bool false] 40)) a2 p2 (r3.1.below (below_alloc _ _)) (r3.2.below (below_alloc _ _))).mono ?_; rintro e w4 ⟨a4, c4, p4, q4, A4, rfl, ho4, hb4⟩; have b4 := Below.next (b3.alloc b3.size _) hb4; obtain ⟨⟨u0, u1, u2, u3, uz⟩, v0, v1, v2, vz⟩ := LB17.out w4 b4; obtain ⟨mw40, mw41, mw42, mw43⟩ := ne_facts vz; have k4 : DkRow w4 w3.heap.size (.slice none 0 0) (.slice none 0 0) 0 false := (rowInNew w3 _ _ _ _).below hb4; obtain ⟨f0, f1, f2, f3, ff, fl⟩ := k4.cells; have zx := hb4.size; rw [alloc_size] at zx ho4)
      | fail)
    all_goals
      go_wp2
      go_meet
      case rel =>
        have q3 := b3.size
        have q2 := b2.size
        first
        | ((with_reducible refine boxed_set ho4 k4 ?_ ?_ ?_ ?_ b4) <;> omega)
        | ((with_reducible refine boxed_new ho4 ?_ b4 ?_) <;> omega)
        | ((with_reducible refine boxed_late ho4 ?_ b4 ?_) <;> omega)
  case rest =>
  obtain ⟨w20, rfl⟩ : ∃ x, x = wc := ⟨_, rfl⟩
  obtain ⟨g20, B20, T20, a20, c20, p20, q20, A20, rfl, -, hbx20, ho20, -, -, -, -, -, hb20⟩ := hcut
  have R20 : Hid (Rd .u8 w20 a20 n2 d2 ∧ RdP w20 p20 m2 S2 L2 F2) := ⟨ho20.data.rd, ho20.cache.rd⟩
  have M20 : Hid (Below wk.heap.size wk w20) := Below.next M17.out hb20
  clear x0 x1 x2 x3 xz x4 x5 x6 xy ho20 hb20 HTD17 LB17 BD17 M17
  obtain ⟨y0, y1, y2, y3, yz⟩ := hbx20
  obtain ⟨x0, x1, x2, x3, xz⟩ := (LA.out _ M20.out).2.1
  go_wp2_with fail
  refine (eqDisk_yes a20 a4 n2 c20 c4 d2 p20 p4 m2 q20 q4 S2 L2 F2 fuel2 dead2 w20 R20.out.1 (LA.out _ M20.out).2.2.1 R20.out.2 (LA.out _ M20.out).2.2.2.1 (by omega) hm2 HL2.out).mono ?_
  rintro e w21 ⟨rfl, hb21⟩
  have HE : Hid (Below w.heap.size w w21) := (HB0.out.trans ((LA.out _ M20.out).2.2.2.2.mono HB0.out.size)).trans (hb21.mono (Nat.le_trans HB0.out.size (LA.out _ M20.out).2.2.2.2.size))
  clear hb21 x0 x1 x2 x3 xz y0 y1 y2 y3 yz
  go_wp2
  go_ret
  exact ⟨rfl, HE.out⟩

/-- What the walk is told of a super that came in. -/
def IsSuper (w : World) (v : Value) : Prop := ∃ gen ar fi, v = .agg #[.int .i64 gen, .int .i64 ar, .int .i64 fi]

theorem vd_more {n m : Nat} {S : Nat → Int} {L : Nat → Nat} {fuel gen : Int} (hV : VD n m S L fuel) (hf : fuel ≠ 0) (hm : m < 2000) (g0 : 0 ≤ gen) :
    VD n (m + 1) (fun i => if i = m then gen % 2 else S i) (fun i => if i = m then 64 else L i) (fuelAfter fuel) := by
  obtain ⟨h1, h2⟩ := hV
  unfold VH at h1
  refine ⟨?_, fun i hi => ?_⟩
  · unfold VH fuelAfter
    split <;> omega
  · unfold VP
    by_cases e : i = m
    · subst e
      show 0 ≤ (if i = i then gen % 2 else S i) ∧ (if i = i then gen % 2 else S i) < (n : Int) / 64 ∧ (if i = i then 64 else L i) = 64
      rw [if_pos rfl, if_pos rfl]
      omega
    · simp only [if_neg e]
      exact h2 i (by omega)

set_option maxHeartbeats 1000000 in
theorem xLaw (v s : Value) (w : World) (hv : IsDisk w v) (hs : IsSuper w s) :
    Calls Try.prog 5 #[v, s] w fun e w' => e = .returned (.bool true) ∧ Below w.heap.size w w' := by
  obtain ⟨a, n, c, d, p, m, q, S, L, F, fuel, dead, rfl, ha, _, hn, hp, hpb, hm, _⟩ := hv
  obtain ⟨gen, ar, fi, rfl⟩ := hs
  have hL0 : ∀ i, i < m → L i ≤ maxLen := fun i hi => (hpb i hi).2.2
  by_cases hV : VD n m S L fuel ∧ goodB gen ar fi = true
  · obtain ⟨hV, hG⟩ := hV
    obtain ⟨g0, g1, a0, a1, f0, f1⟩ := goodB_range hG
    have hVH := hV.1
    unfold VH at hVH
    have hfu : -1 ≤ fuel ∧ fuel ≤ 1000000 := by omega
    have hpos : n ≠ 0 := by omega
    have s0 : ¬ gen % 2 < 0 := by omega
    have s1 : ¬ (n : Int) / 64 ≤ gen % 2 := by omega
    by_cases hm2 : m = 2000
    · subst hm2
      by_cases hf0 : fuel = 0
      · subst hf0
        refine xLaw0 a p n c 2000 q d S L F 0 dead gen ar fi w ha hp hn hm hL0 n 2000 d S L F 0 true
          (fun hn1 hm1 hL1 => ⟨hn1, hm1, hL1, fun W a' p' hr hrp => ?_⟩)
          (fun hn1 hm1 hL1 W a' p' hr hrp => implSuper_good a' p' n n 2000 2000 d S L F 0 dead gen ar fi W hr hrp hV hG hn1 hm1 hL1 d 2000 S L F 0 true (super_full W n d S L F 0 dead gen ar fi d 2000 S L F 0 true g0 g1 (syncs_zero W n 2000 d S L F dead)))
        cases dead with
        | true =>
          exact specSuper_good a' p' n n 2000 2000 d S L F 0 true gen ar fi W hr hrp hV hG hn1 hm1 hL1 d 2000 S L F 0 true d 2000 S L F 0 true
            (fun W ad cp h1 h2 h3 => specW_2 a' p' ad n n 2000 2000 64 cp d S L F 0 (gen % 2) W h1 h2 hn1 hm1 hL1 (by omega) hV)
            (fun W a p c q h1 h2 => specY_2 a p n c 2000 q d S L F 0 W h1 h2 hn1 hm1 hL1 hV)
        | false =>
          exact specSuper_good a' p' n n 2000 2000 d S L F 0 false gen ar fi W hr hrp hV hG hn1 hm1 hL1 d 2000 S L F 0 false d 2000 S L F 0 true
            (fun W ad cp h1 h2 h3 => specW_6 a' p' ad n n 2000 2000 cp d S L F 0 (gen % 2) W h1 h2 hn1 hm1 hL1 hV s0 s1 rfl)
            (fun W a p c q h1 h2 => (specY_zero a p n c 2000 q d S L F W h1 h2 hn1 hm1 hL1 hV).mono (fun e w' h => h.retD))
      · cases dead with
        | true =>
          exact xLaw0 a p n c 2000 q d S L F fuel true gen ar fi w ha hp hn hm hL0 n 2000 d S L F fuel true
            (fun hn1 hm1 hL1 => ⟨hn1, hm1, hL1, fun W a' p' hr hrp => specSuper_good a' p' n n 2000 2000 d S L F fuel true gen ar fi W hr hrp hV hG hn1 hm1 hL1 d 2000 S L F fuel true d 2000 S L F fuel true
              (fun W ad cp h1 h2 h3 => specW_2 a' p' ad n n 2000 2000 64 cp d S L F fuel (gen % 2) W h1 h2 hn1 hm1 hL1 (by omega) hV)
              (fun W a p c q h1 h2 => specY_2 a p n c 2000 q d S L F fuel W h1 h2 hn1 hm1 hL1 hV)⟩)
            (fun hn1 hm1 hL1 W a' p' hr hrp => implSuper_good a' p' n n 2000 2000 d S L F fuel true gen ar fi W hr hrp hV hG hn1 hm1 hL1 d 2000 S L F fuel true (super_full W n d S L F fuel true gen ar fi d 2000 S L F fuel true g0 g1 (syncs_dead W n 2000 d S L F fuel hf0)))
        | false =>
          exact xLaw0 a p n c 2000 q d S L F fuel false gen ar fi w ha hp hn hm hL0 n 0 (syncTo d S F 2000) (fun _ => 0) (fun _ => 0) (fun _ _ => 0) (fuelAfter fuel) false
            (fun hn1 hm1 hL1 => ⟨hn1, by omega, fun i hi => absurd hi (Nat.not_lt_zero _), fun W a' p' hr hrp => specSuper_good a' p' n n 2000 2000 d S L F fuel false gen ar fi W hr hrp hV hG hn1 hm1 hL1 d 2000 S L F fuel false (syncTo d S F 2000) 0 (fun _ => 0) (fun _ => 0) (fun _ _ => 0) (fuelAfter fuel) false
              (fun W ad cp h1 h2 h3 => specW_6 a' p' ad n n 2000 2000 cp d S L F fuel (gen % 2) W h1 h2 hn1 hm1 hL1 hV s0 s1 rfl)
              (fun W a p c q h1 h2 => specY_live a p n c 2000 q d S L F fuel W h1 h2 hn1 hm1 hL1 hV hf0 hfu.1 hfu.2 _ _ _)⟩)
            (fun hn1 hm1 hL1 W a' p' hr hrp => implSuper_good a' p' n n 2000 2000 d S L F fuel false gen ar fi W hr hrp hV hG hn1 hm1 hL1 _ 0 _ _ _ (fuelAfter fuel) false (super_full W n d S L F fuel false gen ar fi _ 0 _ _ _ (fuelAfter fuel) false g0 g1 (syncs_live W n 2000 d S L F fuel hf0 hfu.1 hfu.2 hpos hn1 hm1 hV.2 _ _ _)))
    · have hlt : m < 2000 := by omega
      by_cases hf0 : fuel = 0
      · subst hf0
        refine xLaw0 a p n c m q d S L F 0 dead gen ar fi w ha hp hn hm hL0 n m d S L F 0 true
          (fun hn1 hm1 hL1 => ⟨hn1, hm1, hL1, fun W a' p' hr hrp => ?_⟩)
          (fun hn1 hm1 hL1 W a' p' hr hrp => implSuper_good a' p' n n m m d S L F 0 dead gen ar fi W hr hrp hV hG hn1 hm1 hL1 d m S L F 0 true (super_zero n m d S L F dead gen ar fi g0 g1 hlt))
        cases dead with
        | true =>
          exact specSuper_good a' p' n n m m d S L F 0 true gen ar fi W hr hrp hV hG hn1 hm1 hL1 d m S L F 0 true d m S L F 0 true
            (fun W ad cp h1 h2 h3 => specW_2 a' p' ad n n m m 64 cp d S L F 0 (gen % 2) W h1 h2 hn1 hm1 hL1 (by omega) hV)
            (fun W a p c q h1 h2 => specY_2 a p n c m q d S L F 0 W h1 h2 hn1 hm1 hL1 hV)
        | false =>
          exact specSuper_good a' p' n n m m d S L F 0 false gen ar fi W hr hrp hV hG hn1 hm1 hL1 d m S L F 0 true d m S L F 0 true
            (fun W ad cp h1 h2 h3 => (specW_zero a' p' ad n n m m cp d S L F (gen % 2) W h1 h2 hn1 hm1 hL1 hV s0 s1 hm2).mono (fun e w' h => h.retD))
            (fun W a p c q h1 h2 => specY_2 a p n c m q d S L F 0 W h1 h2 hn1 hm1 hL1 hV)
      · cases dead with
        | true =>
          exact xLaw0 a p n c m q d S L F fuel true gen ar fi w ha hp hn hm hL0 n m d S L F fuel true
            (fun hn1 hm1 hL1 => ⟨hn1, hm1, hL1, fun W a' p' hr hrp => specSuper_good a' p' n n m m d S L F fuel true gen ar fi W hr hrp hV hG hn1 hm1 hL1 d m S L F fuel true d m S L F fuel true
              (fun W ad cp h1 h2 h3 => specW_2 a' p' ad n n m m 64 cp d S L F fuel (gen % 2) W h1 h2 hn1 hm1 hL1 (by omega) hV)
              (fun W a p c q h1 h2 => specY_2 a p n c m q d S L F fuel W h1 h2 hn1 hm1 hL1 hV)⟩)
            (fun hn1 hm1 hL1 W a' p' hr hrp => implSuper_good a' p' n n m m d S L F fuel true gen ar fi W hr hrp hV hG hn1 hm1 hL1 d m S L F fuel true (super_dead n m d S L F fuel gen ar fi g0 g1 hf0 hlt))
        | false =>
          have hV2 := vd_more hV hf0 hlt g0
          have hL2 : (∀ i, i < m → L i ≤ 1048576) → ∀ i, i < m + 1 → (fun i => if i = m then 64 else L i) i ≤ 1048576 := fun h i hi => by
            by_cases e : i = m
            · simp [e]
            · simp only [if_neg e]; exact h i (by omega)
          have hfa : -1 ≤ fuelAfter fuel ∧ fuelAfter fuel ≤ 1000000 := by unfold fuelAfter; split <;> omega
          by_cases hz : fuelAfter fuel = 0
          · refine xLaw0 a p n c m q d S L F fuel false gen ar fi w ha hp hn hm hL0 n (m + 1) d (fun i => if i = m then gen % 2 else S i) (fun i => if i = m then 64 else L i) (fun i => if i = m then superF gen ar fi else F i) 0 true
              (fun hn1 hm1 hL1 => ⟨hn1, by omega, hL2 hL1, fun W a' p' hr hrp => specSuper_good a' p' n n m m d S L F fuel false gen ar fi W hr hrp hV hG hn1 hm1 hL1 d (m + 1) (fun i => if i = m then gen % 2 else S i) (fun i => if i = m then 64 else L i) (fun i => if i = m then superF gen ar fi else F i) (fuelAfter fuel) false d (m + 1) (fun i => if i = m then gen % 2 else S i) (fun i => if i = m then 64 else L i) (fun i => if i = m then superF gen ar fi else F i) 0 true
                (fun W ad cp h1 h2 h3 => (specW_live a' p' ad n n m m cp d S L F fuel (gen % 2) W h1 h2 hn1 hm1 hL1 (superF gen ar fi) h3 hV s0 s1 hm2 hf0 hfu.1 hfu.2).mono (fun e w' h => h.retD))
                (fun W a p c q h1 h2 => ?_)⟩)
              (fun hn1 hm1 hL1 W a' p' hr hrp => implSuper_good a' p' n n m m d S L F fuel false gen ar fi W hr hrp hV hG hn1 hm1 hL1 _ _ _ _ _ 0 true (super_live W n m d S L F fuel gen ar fi _ _ _ _ _ 0 true g0 g1 hf0 hfu.1 hfu.2 hlt ?_))
            · rw [hz] at hV2 ⊢
              exact (specY_zero a p n c (m + 1) q d _ _ _ W h1 h2 hn1 (by omega) (hL2 hL1) hV2).mono (fun e w' h => h.retD)
            · rw [hz]
              exact syncs_zero W n (m + 1) d _ _ _ false
          · exact xLaw0 a p n c m q d S L F fuel false gen ar fi w ha hp hn hm hL0 n 0 (syncTo d (fun i => if i = m then gen % 2 else S i) (fun i => if i = m then superF gen ar fi else F i) (m + 1)) (fun _ => 0) (fun _ => 0) (fun _ _ => 0) (fuelAfter (fuelAfter fuel)) false
              (fun hn1 hm1 hL1 => ⟨hn1, by omega, fun i hi => absurd hi (Nat.not_lt_zero _), fun W a' p' hr hrp => specSuper_good a' p' n n m m d S L F fuel false gen ar fi W hr hrp hV hG hn1 hm1 hL1 d (m + 1) (fun i => if i = m then gen % 2 else S i) (fun i => if i = m then 64 else L i) (fun i => if i = m then superF gen ar fi else F i) (fuelAfter fuel) false _ 0 (fun _ => 0) (fun _ => 0) (fun _ _ => 0) (fuelAfter (fuelAfter fuel)) false
                (fun W ad cp h1 h2 h3 => (specW_live a' p' ad n n m m cp d S L F fuel (gen % 2) W h1 h2 hn1 hm1 hL1 (superF gen ar fi) h3 hV s0 s1 hm2 hf0 hfu.1 hfu.2).mono (fun e w' h => h.retD))
                (fun W a p c q h1 h2 => specY_live a p n c (m + 1) q d _ _ _ (fuelAfter fuel) W h1 h2 hn1 (by omega) (hL2 hL1) hV2 hz hfa.1 hfa.2 _ _ _)⟩)
              (fun hn1 hm1 hL1 W a' p' hr hrp => implSuper_good a' p' n n m m d S L F fuel false gen ar fi W hr hrp hV hG hn1 hm1 hL1 _ 0 _ _ _ _ false (super_live W n m d S L F fuel gen ar fi _ 0 _ _ _ _ false g0 g1 hf0 hfu.1 hfu.2 hlt (syncs_live W n (m + 1) d _ _ _ (fuelAfter fuel) hz hfa.1 hfa.2 hpos hn1 (by omega) hV2.2 _ _ _)))
  · exact xLaw0 a p n c m q d S L F fuel dead gen ar fi w ha hp hn hm hL0 n m d S L F fuel dead
      (fun hn1 hm1 hL1 => ⟨hn1, hm1, hL1, fun W a' p' hr hrp => specSuper_bad a' p' n n m m d S L F fuel dead gen ar fi W hr hrp hV hn1 hm1 hL1⟩)
      (fun hn1 hm1 hL1 W a' p' hr hrp => implSuper_bad a' p' n n m m d S L F fuel dead gen ar fi W hr hrp hV hn1 hm1 hL1)
end Go.Proofs.Ytfbhlegkpmcfoaa
