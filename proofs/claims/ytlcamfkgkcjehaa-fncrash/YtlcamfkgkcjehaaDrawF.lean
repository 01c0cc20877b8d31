import Derived.Test.YtlcamfkgkcjehaaDrawE
import Derived.Test.YtlcamfkgkcjehaaDiskNewS
import Derived.Deep.CutRange
namespace Go.Proofs.Ytlcamfkgkcjehaa
open Go.RowKit Go.Deep
set_option linter.unusedVariables false
set_option maxRecDepth 100000

theorem rowIn.belC {w w' : World} {g k : Nat} {t : TypeId} {n : Nat} {F : Nat → Value} (h : rowIn w k t n F) (hk : k ≠ g) (hb : BelC w.heap.size g w w') : rowIn w' k t n F := h.of_block (hb.block k h.lt hk)
theorem OwnB.belC {w w' : World} {B g n : Nat} {a : Option Addr} {f : Nat → Int} (h : OwnB w B a n f) (hg : g < B) (hb : BelC w.heap.size g w w') : OwnB w' B a n f := by
  rcases h with h | ⟨k, rfl, hk, hr⟩
  · exact Or.inl h
  · exact Or.inr ⟨k, rfl, hk, hr.belC (by omega) hb⟩
theorem OwnP.belC {w w' : World} {B g m : Nat} {a : Option Addr} {S : Nat → Int} {L : Nat → Nat} {F : Nat → Nat → Int} {A : Nat → Option Addr} (h : OwnP w B a m S L F A) (hg : g < B) (hb : BelC w.heap.size g w w') : OwnP w' B a m S L F A := by
  rcases h with h | ⟨k, C, rfl, h⟩
  · exact Or.inl h
  · exact Or.inr ⟨k, C, rfl, h.le, h.row.belC (by have := h.le; omega) hb, fun i hi => (h.each i hi).belC hg hb, h.apart⟩
theorem OwnD.belC {w w' : World} {B g n m : Nat} {a p : Option Addr} {d S : Nat → Int} {L : Nat → Nat} {F : Nat → Nat → Int} {A : Nat → Option Addr} (h : OwnD w B a n d p m S L F A) (hg : g < B) (hb : BelC w.heap.size g w w') : OwnD w' B a n d p m S L F A :=
  ⟨h.data.belC hg hb, h.cache.belC hg hb, h.apart⟩
theorem BelC.setCell {B g : Nat} {w w' : World} (h : BelC B g w w') {p : Addr} (hp : B ≤ p.block) (v : Value) : BelC B g w (w'.setCell p v) :=
  ⟨h.os, h.tape, h.output, by have := h.size; simp [World.setCell]; exact this, fun k hk hx => (Below.heap_setCell _ _ _ _ (by omega)).trans (h.block k hk hx)⟩
theorem BelC.alloc {B g : Nat} {w w' : World} (h : BelC B g w w') (hB : B ≤ w'.heap.size) (o : Obj) : BelC B g w (w'.alloc o) := h.trans (BelC.ofBelow (below_alloc w' o) hB)

/-- What l1Disk's variables are between two statements. -/
structure DSt (w W : World) (g : Nat) (b : Option Addr) (n c : Nat) (f : Nat → Int) (bx nn : Nat) (t : Stt) : Prop where
  cur : DrwL W w.heap.size g b n c f
  box : ∃ a c' p q A, DkRow W bx (.slice a nn c') (.slice p t.m q) t.fuel t.dead ∧ OwnD W w.heap.size a nn t.d p t.m t.S t.L t.F A
  ok : t.ok nn
  res : DkRow W w.heap.size (.slice none 0 0) (.slice none 0 0) 0 false
  bel : BelC w.heap.size g w W
  lt : w.heap.size < bx

theorem DSt.move {w W W' : World} {g : Nat} {b : Option Addr} {n c : Nat} {f : Nat → Int} {bx nn : Nat} {t : Stt} (h : DSt w W g b n c f bx nn t) (hb : BelC W.heap.size g W W') (hd : Drw W' g b n c f) : DSt w W' g b n c f bx nn t := by
  obtain ⟨h1, ⟨a, c', p, q, A, h2, h3⟩, h4, h5, h6, h7⟩ := h
  have hg := h1.cur
  have hz : w.heap.size < W.heap.size := rowIn.lt h5
  exact ⟨⟨hd, hg, h1.bytes⟩, ⟨a, c', p, q, A, rowIn.belC h2 (by omega) hb, h3.belC hg hb⟩, h4, rowIn.belC h5 (by omega) hb, h6.trans (hb.mono (by omega)), h7⟩

theorem DSt.next {w W w4 : World} {g : Nat} {b : Option Addr} {n c : Nat} {f : Nat → Int} {bx nn c' q : Nat} {t t2 : Stt} {a p : Option Addr} {A : Nat → Option Addr} (h : DSt w W g b n c f bx nn t) (hb : Below W.heap.size W w4) (ho : OwnD w4 W.heap.size a nn t2.d p t2.m t2.S t2.L t2.F A) (hk : t2.ok nn) :
    DSt w ((((w4.setCell ⟨bx, 0, none⟩ (.slice a nn c')).setCell ⟨bx, 1, none⟩ (.slice p t2.m q)).setCell ⟨bx, 2, none⟩ (.int .i64 t2.fuel)).setCell ⟨bx, 3, none⟩ (.bool t2.dead)) g b n c f bx nn t2 := by
  obtain ⟨h1, ⟨a0, c0, p0, q0, A0, h2, h3⟩, h4, h5, h6, h7⟩ := h
  have hg := h1.cur
  have hz : w.heap.size < W.heap.size := rowIn.lt h5
  have hl2 : bx < W.heap.size := rowIn.lt h2
  have hbT : Below (w.heap.size + 1) W w4 := hb.mono (by omega)
  have hs : Below (w.heap.size + 1) W ((((w4.setCell ⟨bx, 0, none⟩ (.slice a nn c')).setCell ⟨bx, 1, none⟩ (.slice p t2.m q)).setCell ⟨bx, 2, none⟩ (.int .i64 t2.fuel)).setCell ⟨bx, 3, none⟩ (.bool t2.dead)) :=
    (((hbT.setCell (by show w.heap.size + 1 ≤ bx; omega) _).setCell (by show w.heap.size + 1 ≤ bx; omega) _).setCell (by show w.heap.size + 1 ≤ bx; omega) _).setCell (by show w.heap.size + 1 ≤ bx; omega) _
  refine ⟨h1.below (hs.mono (by omega)), ⟨a, c', p, q, A, dk_set4 (h2.below hb), ?_⟩, hk, rowIn.of_block h5 (hs.block w.heap.size (by omega)), h6.trans (BelC.ofBelow hs (by omega)), h7⟩
  exact ((((ho.setOther (x := ⟨bx, 0, none⟩) hl2 _).setOther (x := ⟨bx, 1, none⟩) hl2 _).setOther (x := ⟨bx, 2, none⟩) hl2 _).setOther (x := ⟨bx, 3, none⟩) hl2 _).mono (by omega)

/-- New blocks may be written over. -/
theorem S10mk {w wr W W' : World} {g : Nat} {b : Option Addr} {n c : Nat} {f : Nat → Int} {bx nn : Nat} {t : Stt} (h : DSt w wr g b n c f bx nn t) (k : DSt w W g b n c f bx nn t) (hb : Below wr.heap.size W W') (hc : BelC wr.heap.size g wr W) : DSt w W' g b n c f bx nn t := by
  have hz : w.heap.size < wr.heap.size := rowIn.lt h.res
  exact h.move (hc.trans (BelC.ofBelow hb (Nat.le_refl _))) (k.cur.below (hb.mono (by omega))).drw

/-- What l1Disk hands back. -/
def RetDraw (w : World) (g : Nat) (b : Option Addr) (n c : Nat) (f : Nat → Int) (e : Ending) (w' : World) : Prop :=
  ∃ (nn : Nat) (t : Stt) (a p : Option Addr) (c' q : Nat) (A : Nat → Option Addr), e = .returned (.agg #[.slice a nn c', .slice p t.m q, .int .i64 t.fuel, .bool t.dead]) ∧ OwnD w' w.heap.size a nn t.d p t.m t.S t.L t.F A ∧ t.ok nn ∧ Drw w' g b n c f ∧ BelC w.heap.size g w w'

set_option maxHeartbeats 400000 in
theorem l1Disk_any (g : Nat) (b : Option Addr) (n c : Nat) (f : Nat → Int) (w : World) (h : Drw w g b n c f) :
    Calls Try.prog 56 #[.pointer (some ⟨g, 0, none⟩)] w (RetDraw w g b n c f) := by
  have HW : Hid (DrwL w w.heap.size g b n c f) := DrwL.of h
  clear h
  go_enter Try.func56, Try.ntmps56
  go_wp2_with fail
  refine (l1Below_any g b n c f 4 _ (HW.out.drw.below (below_alloc _ _)) (by omega) (by omega)).mono ?_
  rintro e w1 ⟨x, rfl, hx0, hx1, hd1, ho1⟩
  have z1 : w1.heap.size = w.heap.size + 1 := by rw [ho1.size]; simp
  have hgl := HW.out.cur
  have R1 : Hid (DkRow w1 w.heap.size (.slice none 0 0) (.slice none 0 0) 0 false) := rowIn.of_block (rowInNew w _ _ _ _) (ho1.block w.heap.size (fun y e => by injection e with e; subst e; show g ≠ w.heap.size; omega))
  have B1 : Hid (BelC w.heap.size g w w1) := (BelC.ofBelow (below_alloc _ _) (Nat.le_refl _)).trans (BelC.ofOnly ho1)
  have D1 : Hid (Drw w1 g b n c f) := hd1
  have e1 : IntKind.i64.wrap (16 + x) = 16 + x := by rw [IntKind.wrap_i64]; omega
  clear hd1 ho1
  obtain ⟨N, hN⟩ : ∃ N : Nat, (16 + x) = (N : Int) := Int.eq_ofNat_of_zero_le (by omega)
  have HNN : Hid ((16 + x) = (N : Int)) := hN
  have HN16 : Hid (16 ≤ N ∧ N ≤ 20) := ⟨by omega, by omega⟩
  clear hN
  go_wp2_with fail
  refine (specNew_at (16 + x) N w1 HNN.out HN16.out.1 (by have := HN16.out; omega)).mono ?_
  rintro e w2 ⟨a2, c2, rfl, ho2, hb2⟩
  have z2 := hb2.size
  have S3 : Hid (DSt w (w2.alloc (.cells #[.slice a2 (N * 64) c2, .slice none 0 0, .int .i64 (-1), .bool false] 25)) g b n c f w2.heap.size (N * 64) ⟨fun _ => 0, 0, fun _ => 0, fun _ => 0, fun _ _ => 0, -1, false⟩) := by
    have hb3 : Below w1.heap.size w1 (w2.alloc (.cells #[.slice a2 (N * 64) c2, .slice none 0 0, .int .i64 (-1), .bool false] 25)) := hb2.alloc z2 _
    refine ⟨⟨D1.out.below hb3, hgl, HW.out.bytes⟩, ⟨a2, c2, none, 0, fun _ => none, rowInNew _ _ _ _ _, ⟨(ho2.mono (by omega)).below (below_alloc _ _), Or.inl rfl, fun _ i hi => absurd hi (Nat.not_lt_zero _)⟩⟩, ?_, rowIn.below R1.out hb3, B1.out.trans (BelC.ofBelow hb3 (by omega)), by omega⟩
    refine ⟨?_, fun i hi => absurd hi (Nat.not_lt_zero _)⟩
    have := HN16.out
    show VH (N * 64) 0 (-1)
    unfold VH
    omega
  clear ho2 hb2 R1 B1 D1
  obtain ⟨W3, hW3⟩ : ∃ W3, W3 = w2.alloc (.cells #[.slice a2 (N * 64) c2, .slice none 0 0, .int .i64 (-1), .bool false] 25) := ⟨_, rfl⟩
  rw [← hW3] at S3
  obtain ⟨bx, hbx⟩ : ∃ bx, bx = w2.heap.size := ⟨_, rfl⟩
  rw [← hbx] at S3
  go_wp2_with fail
  rw [← hW3, ← hbx]
  clear hW3 hbx
  refine (l1Below_any g b n c f 7 W3 S3.out.cur.drw (by omega) (by omega)).mono ?_
  rintro e w4 ⟨y, rfl, hy0, hy1, hd4, ho4⟩
  have S4 : Hid (DSt w w4 g b n c f bx (N * 64) ⟨fun _ => 0, 0, fun _ => 0, fun _ => 0, fun _ _ => 0, -1, false⟩) := S3.out.move (BelC.ofOnly ho4) hd4
  clear S3 hd4 ho4
  go_wp2
  go_loopw [5, 6, 7, 8, 9] (fun i _ _ _ _ wr => ∃ (j : Nat) (t : Stt), (j : Int) ≤ y ∧ i = .int .i64 j ∧ DSt w wr g b n c f bx (N * 64) t) (fun i _ _ _ _ _ => (y - intOf i).toNat)
  case atStart => exact ⟨0, _, by omega, rfl, S4.out⟩
  case round =>
    obtain ⟨j, t, hj, rfl, hst⟩ := hrel
    have SR : Hid (DSt w wr g b n c f bx (N * 64) t) := hst
    have hN4 : 16 ≤ N ∧ N ≤ 20 := HN16.out
    clear hst
    by_cases hlt : (j : Int) < y
    · obtain ⟨a0, c0, p0, q0, A0, hrow, -⟩ := SR.out.box
      obtain ⟨x0, x1, x2, x3, xf, xl⟩ := hrow.cells
      have hres : w.heap.size < wr.heap.size := rowIn.lt SR.out.res
      clear hrow
      go_wp2_with fail
      refine (l1Sectors_any a0 p0 (N * 64) c0 t.m q0 t.fuel t.dead wr (by omega)).mono ?_
      rintro e w5 ⟨rfl, hb5⟩
      have z5 := hb5.size
      have B5 : Hid (BelC wr.heap.size g wr w5) := BelC.ofBelow hb5 (Nat.le_refl _)
      have D5 : Hid (Drw w5 g b n c f) := SR.out.cur.drw.below hb5
      have es : ((N * 64 : Nat) : Int) / 64 = (N : Int) := by omega
      rw [es]
      clear hb5 x0 x1 x2 x3 xf es
      go_wp2_with fail
      refine (l1Below_any g b n c f (N : Int) w5 D5.out (by omega) (by omega)).mono ?_
      rintro e w6 ⟨s, rfl, s0, s1, hd6, ho6⟩
      have z6 : w6.heap.size = w5.heap.size := ho6.size
      have B6 : Hid (BelC wr.heap.size g wr w6) := B5.out.trans (BelC.ofOnly ho6)
      have D6 : Hid (Drw w6 g b n c f) := hd6
      clear hd6 ho6 B5 D5
      go_wp2_with fail
      refine (zeros_at 64 64 w6 (by rfl) (by omega)).mono ?_
      rintro e w7 ⟨a7, c7, rfl, ho7, hb7⟩
      rcases ho7 with h0 | ⟨gd, rfl, hgd, hr7⟩
      · exact absurd h0 (by decide)
      have z7 := hb7.size
      have B7 : Hid (BelC wr.heap.size g wr w7) := B6.out.trans (BelC.ofBelow hb7 (by omega))
      have D7 : Hid (Drw w7 g b n c f) := D6.out.below hb7
      have R7 : Hid (rowIn w7 gd 5 64 (fun i => .int .u8 0)) := hr7
      have hgl := SR.out.cur.cur
      have hbxl : w.heap.size < bx := SR.out.lt
      clear hr7 hb7 B6 D6
      go_wp2_with fail
      refine (l1Below_any g b n c f 64 w7 D7.out (by omega) (by omega)).mono ?_
      rintro e w8 ⟨k, rfl, k0, k1, hd8, ho8⟩
      have z8 : w8.heap.size = w7.heap.size := ho8.size
      have B8 : Hid (BelC wr.heap.size g wr w8) := B7.out.trans (BelC.ofOnly ho8)
      have D8 : Hid (Drw w8 g b n c f) := hd8
      have R8 : Hid (rowIn w8 gd 5 64 (fun i => .int .u8 0)) := R7.out.of_block (ho8.block gd (fun y e => by injection e with e; subst e; show g ≠ gd; omega))
      clear hd8 ho8 B7 D7 R7
      go_wp2_with fail
      refine (D8.out.byte).mono ?_
      rintro e w9 ⟨xb, rfl, xb0, xb1, hd9, ho9⟩
      have z9 : w9.heap.size = w8.heap.size := ho9.size
      have S9 : Hid (DSt w w9 g b n c f bx (N * 64) t) := SR.out.move (B8.out.trans (BelC.ofOnly ho9)) hd9
      have R9 : Hid (rowIn w9 gd 5 64 (fun i => .int .u8 0)) := R8.out.of_block (ho9.block gd (fun y e => by injection e with e; subst e; show g ≠ gd; omega))
      have B9 : Hid (BelC wr.heap.size g wr w9) := B8.out.trans (BelC.ofOnly ho9)
      clear hd9 ho9 B8 D8 R8
      have hne1 : ¬ gd = bx := by obtain ⟨_, _, _, _, _, hh, _⟩ := SR.out.box; have := rowIn.lt hh; omega
      have hne2 : ¬ bx = gd := fun e => hne1 e.symm
      have hc9 : w9.cell? ⟨gd, k.toNat, none⟩ = some (.int .u8 0) := R9.out.cell (by omega)
      have hf9 : ∀ o, w9.frozen? ⟨gd, o, none⟩ = false := fun o => R9.out.frozen o
      have wx : IntKind.u8.wrap xb = xb := by rw [IntKind.wrap_u8]; omega
      have wj : IntKind.u8.wrap (j : Int) = (j : Int) := by rw [IntKind.wrap_u8]; omega
      go_upto_region 11 with fail
      obtain ⟨Wa, hWa⟩ : ∃ Wa, Wa = w9.setCell ⟨gd, k.toNat, none⟩ (.int .u8 xb) := ⟨_, rfl⟩
      rw [← hWa]
      have Ra : Hid (rowIn Wa gd 5 64 (fun i => if i = k.toNat then .int .u8 xb else .int .u8 0)) := by
        show rowIn _ _ _ _ _
        rw [hWa]
        exact R9.out.set k.toNat _
      have Ba : Hid (Below wr.heap.size w9 Wa) := by
        show Below _ _ _
        rw [hWa]
        exact (Below.refl _ _).setCell (by show wr.heap.size ≤ gd; omega) _
      obtain ⟨z63, hz63⟩ : ∃ z63 : Int, Wa.cell? ⟨gd, 63, none⟩ = some (.int .u8 z63) := by
        have := Ra.out.cell (i := 63) (by omega)
        by_cases e : 63 = k.toNat
        · exact ⟨xb, by rw [this]; simp only [if_pos e]⟩
        · exact ⟨0, by rw [this]; simp only [if_neg e]⟩
      have hfa : ∀ o, Wa.frozen? ⟨gd, o, none⟩ = false := fun o => Ra.out.frozen o
      clear hWa hc9 hf9
      go_upto_region 12 with fail
      obtain ⟨Wb, hWb⟩ : ∃ Wb, Wb = Wa.setCell ⟨gd, 63, none⟩ (.int .u8 (j : Int)) := ⟨_, rfl⟩
      rw [← hWb]
      have RD : Hid (Rd .u8 Wb (some ⟨gd, 0, none⟩) 64 (fun i => if i = 63 then (j : Int) else if i = k.toNat then xb else 0)) := by
        show Rd _ _ _ _ _
        rw [hWb]
        have r2 := Ra.out.set 63 (.int .u8 (j : Int))
        refine Or.inr ⟨gd, 0, rfl, fun i hi => ?_⟩
        have r3 := r2.cell (i := i) hi
        rw [Nat.zero_add, r3]
        by_cases e1 : i = 63
        · simp only [if_pos e1]
        · by_cases e2 : i = k.toNat
          · simp only [if_neg e1, if_pos e2]
          · simp only [if_neg e1, if_neg e2]
      have S10 : Hid (DSt w Wb g b n c f bx (N * 64) t) := by
        have hb : Below wr.heap.size w9 Wb := by
          rw [hWb]
          exact Ba.out.setCell (by show wr.heap.size ≤ gd; omega) _
        exact S10mk SR.out S9.out hb B9.out
      clear hWb hz63 hfa Ra Ba R9
      obtain ⟨a1, c1, p1, q1, A1, hrow, hown⟩ := S10.out.box
      have HR10 : Hid (Rd .u8 Wb a1 (N * 64) t.d ∧ RdP Wb p1 t.m t.S t.L t.F ∧ DkRow Wb bx (.slice a1 (N * 64) c1) (.slice p1 t.m q1) t.fuel t.dead) := ⟨hown.data.rd, hown.cache.rd, hrow⟩
      obtain ⟨x0, x1, x2, x3, xf, xl⟩ := hrow.cells
      clear hrow hown
      go_wp2_with fail
      refine (specW_st t a1 p1 (some ⟨gd, 0, none⟩) (N * 64) c1 q1 c7 s (fun i => if i = 63 then (j : Int) else if i = k.toNat then xb else 0) Wb HR10.out.1 HR10.out.2.1 RD.out SR.out.ok s0 (by omega)).mono ?_
      rintro e w11 ⟨a9, c9, p9, q9, A9, rfl, ho9, hb9⟩
      obtain ⟨y0, y1, y2, y3, yf, yl⟩ := (HR10.out.2.2.below hb9).cells
      obtain ⟨t1, ht1⟩ : ∃ t1, t1 = t.write s (fun i => if i = 63 then (j : Int) else if i = k.toNat then xb else 0) := ⟨_, rfl⟩
      have hok1 : t1.ok (N * 64) := by rw [ht1]; exact SR.out.ok.write _ s0 (by omega)
      rw [← ht1] at ho9 ⊢
      have S11 : Hid (DSt w ((((w11.setCell ⟨bx, 0, none⟩ (.slice a9 (N * 64) c9)).setCell ⟨bx, 1, none⟩ (.slice p9 t1.m q9)).setCell ⟨bx, 2, none⟩ (.int .i64 t1.fuel)).setCell ⟨bx, 3, none⟩ (.bool t1.dead)) g b n c f bx (N * 64) t1) := S10.out.next hb9 ho9 hok1
      clear ho9 hb9 ht1 hok1 x0 x1 x2 x3 xf xl S10 S9 HR10 RD
      go_upto_region 13 with fail
      obtain ⟨Wc, hWc⟩ : ∃ Wc, Wc = ((((w11.setCell ⟨bx, 0, none⟩ (.slice a9 (N * 64) c9)).setCell ⟨bx, 1, none⟩ (.slice p9 t1.m q9)).setCell ⟨bx, 2, none⟩ (.int .i64 t1.fuel)).setCell ⟨bx, 3, none⟩ (.bool t1.dead)) := ⟨_, rfl⟩
      rw [← hWc] at S11 ⊢
      clear hWc y0 y1 y2 y3 yf yl
      go_wp2_with fail
      refine (l1Once_any g b n c f 4 Wc S11.out.cur.drw (by omega) (by omega)).mono ?_
      rintro e w12 ⟨o, rfl, hd12, ho12⟩
      have S12 : Hid (DSt w w12 g b n c f bx (N * 64) t1) := S11.out.move (BelC.ofOnly ho12) hd12
      clear hd12 ho12 S11
      cases o with
      | false =>
        go_wp2
        go_roundw
        case rel => exact ⟨j + 1, t1, by omega, by go_num, S12.out⟩
        case measure => simp [intOf]; omega
      | true =>
        obtain ⟨a1, c1, p1, q1, A1, hrow, hown⟩ := S12.out.box
        have HR12 : Hid (Rd .u8 w12 a1 (N * 64) t1.d ∧ RdP w12 p1 t1.m t1.S t1.L t1.F ∧ DkRow w12 bx (.slice a1 (N * 64) c1) (.slice p1 t1.m q1) t1.fuel t1.dead) := ⟨hown.data.rd, hown.cache.rd, hrow⟩
        obtain ⟨x0, x1, x2, x3, xf, xl⟩ := hrow.cells
        clear hrow hown
        go_wp2_with fail
        refine (specY_st t1 a1 p1 (N * 64) c1 q1 w12 HR12.out.1 HR12.out.2.1 S12.out.ok).mono ?_
        rintro e w13 ⟨a9, c9, p9, q9, A9, rfl, ho9, hb9⟩
        obtain ⟨y0, y1, y2, y3, yf, yl⟩ := (HR12.out.2.2.below hb9).cells
        have S13 : Hid (DSt w ((((w13.setCell ⟨bx, 0, none⟩ (.slice a9 (N * 64) c9)).setCell ⟨bx, 1, none⟩ (.slice p9 t1.sync.m q9)).setCell ⟨bx, 2, none⟩ (.int .i64 t1.sync.fuel)).setCell ⟨bx, 3, none⟩ (.bool t1.sync.dead)) g b n c f bx (N * 64) t1.sync) := S12.out.next hb9 ho9 S12.out.ok.sync
        clear ho9 hb9 x0 x1 x2 x3 xf xl S12 HR12
        go_wp2
        go_roundw
        case rel => exact ⟨j + 1, t1.sync, by omega, by go_num, S13.out⟩
        case measure => simp [intOf]; omega
    · have SE : Hid (DSt w wr g b n c f bx (N * 64) t) := SR.out
      clear SR S4
      go_upto_region 15 with fail
      go_wp2_with fail
      refine (l1Below_any g b n c f 8 wr SE.out.cur.drw (by omega) (by omega)).mono ?_
      rintro e w5 ⟨kk, rfl, kk0, kk1, hd5, ho5⟩
      have S5 : Hid (DSt w w5 g b n c f bx (N * 64) t) := SE.out.move (BelC.ofOnly ho5) hd5
      clear hd5 ho5 SE
      obtain ⟨a1, c1, p1, q1, A1, hrow, hown⟩ := S5.out.box
      have HB5 : Hid (DkRow w5 bx (.slice a1 (N * 64) c1) (.slice p1 t.m q1) t.fuel t.dead ∧ OwnD w5 w.heap.size a1 (N * 64) t.d p1 t.m t.S t.L t.F A1) := ⟨hrow, hown⟩
      obtain ⟨x0, x1, x2, x3, xf, xl⟩ := hrow.cells
      have hbl := S5.out.lt
      clear hrow hown
      by_cases h3 : kk < 3
      · have h33 : ¬ kk = 3 := by omega
        have h34 : (kk == 3) = false := by simp; omega
        have HS6 : Hid (DSt w (w5.setCell ⟨bx, 2, none⟩ (.int .i64 kk)) g b n c f bx (N * 64) ⟨t.d, t.m, t.S, t.L, t.F, kk, t.dead⟩) := by
          have ho : OnlyAt (some ⟨bx, 0, none⟩) w5 (w5.setCell ⟨bx, 2, none⟩ (.int .i64 kk)) := (OnlyAt.refl _ _).setCell 2 _
          have hlo : Below (w.heap.size + 1) w5 (w5.setCell ⟨bx, 2, none⟩ (.int .i64 kk)) := (Below.refl _ _).setCell (by show w.heap.size + 1 ≤ bx; omega) _
          refine ⟨S5.out.cur.below (hlo.mono (by omega)), ⟨a1, c1, p1, q1, A1, ?_, HB5.out.2.onlyDk HB5.out.1 ho⟩, ?_, rowIn.of_block S5.out.res (hlo.block _ (by omega)), S5.out.bel.trans (BelC.ofBelow hlo (by omega)), hbl⟩
          · exact (rowIn.set HB5.out.1 2 _).congr (fun i hi => by match i, hi with
              | 0, _ => rfl
              | 1, _ => rfl
              | 2, _ => rfl
              | 3, _ => rfl)
          · refine ⟨?_, S5.out.ok.2⟩
            have := S5.out.ok.1
            unfold VH at this ⊢
            dsimp only
            omega
        clear HB5
        go_upto_region 18 with fail
        obtain ⟨W6, hW6⟩ : ∃ W6, W6 = w5.setCell ⟨bx, 2, none⟩ (.int .i64 kk) := ⟨_, rfl⟩
        rw [← hW6] at HS6 ⊢
        clear hW6 x0 x1 x2 x3 xf xl
        have HR : Hid (DSt w W6 g b n c f bx (N * 64) (Stt.mk t.d t.m t.S t.L t.F kk t.dead)) := HS6.out
        obtain ⟨ar, cr, pr, qr, Ar, hrow, hown⟩ := HR.out.box
        obtain ⟨x0, x1, x2, x3, xf, xl⟩ := hrow.cells
        obtain ⟨y0, y1, y2, y3, yf, yl⟩ := HR.out.res.cells
        have HO : Hid (OwnD W6 w.heap.size ar (N * 64) (Stt.mk t.d t.m t.S t.L t.F kk t.dead).d pr (Stt.mk t.d t.m t.S t.L t.F kk t.dead).m (Stt.mk t.d t.m t.S t.L t.F kk t.dead).S (Stt.mk t.d t.m t.S t.L t.F kk t.dead).L (Stt.mk t.d t.m t.S t.L t.F kk t.dead).F Ar) := hown
        clear hrow hown
        go_wp2
        refine bodyPost_ret (v := .agg #[.slice ar (N * 64) cr, .slice pr (Stt.mk t.d t.m t.S t.L t.F kk t.dead).m qr, .int .i64 (Stt.mk t.d t.m t.S t.L t.F kk t.dead).fuel, .bool (Stt.mk t.d t.m t.S t.L t.F kk t.dead).dead]) (by simp [results, Try.results56, go_sem, y0, y1, y2, y3]) rfl ⟨N * 64, (Stt.mk t.d t.m t.S t.L t.F kk t.dead), ar, pr, cr, qr, Ar, rfl, ?_, HR.out.ok, ?_, ?_⟩
        · exact HO.out.onlyDk HR.out.res (((((OnlyAt.refl _ _).setCell 0 _).setCell 1 _).setCell 2 _).setCell 3 _)
        · exact (HR.out.cur.below (((((Below.refl _ _).setCell (by show w.heap.size ≤ w.heap.size; omega) _).setCell (by show w.heap.size ≤ w.heap.size; omega) _).setCell (by show w.heap.size ≤ w.heap.size; omega) _).setCell (by show w.heap.size ≤ w.heap.size; omega) _)).drw
        · exact ((((HR.out.bel.setCell (by show w.heap.size ≤ w.heap.size; omega) _).setCell (by show w.heap.size ≤ w.heap.size; omega) _).setCell (by show w.heap.size ≤ w.heap.size; omega) _).setCell (by show w.heap.size ≤ w.heap.size; omega) _)
      · by_cases h33 : kk = 3
        · have h34 : (kk == 3) = true := by simp; omega
          have HS6 : Hid (DSt w (w5.setCell ⟨bx, 3, none⟩ (.bool true)) g b n c f bx (N * 64) ⟨t.d, t.m, t.S, t.L, t.F, t.fuel, true⟩) := by
            have ho : OnlyAt (some ⟨bx, 0, none⟩) w5 (w5.setCell ⟨bx, 3, none⟩ (.bool true)) := (OnlyAt.refl _ _).setCell 3 _
            have hlo : Below (w.heap.size + 1) w5 (w5.setCell ⟨bx, 3, none⟩ (.bool true)) := (Below.refl _ _).setCell (by show w.heap.size + 1 ≤ bx; omega) _
            refine ⟨S5.out.cur.below (hlo.mono (by omega)), ⟨a1, c1, p1, q1, A1, ?_, HB5.out.2.onlyDk HB5.out.1 ho⟩, S5.out.ok, rowIn.of_block S5.out.res (hlo.block _ (by omega)), S5.out.bel.trans (BelC.ofBelow hlo (by omega)), hbl⟩
            exact (rowIn.set HB5.out.1 3 _).congr (fun i hi => by match i, hi with
              | 0, _ => rfl
              | 1, _ => rfl
              | 2, _ => rfl
              | 3, _ => rfl)
          clear HB5
          go_upto_region 20 with fail
          obtain ⟨W6, hW6⟩ : ∃ W6, W6 = w5.setCell ⟨bx, 3, none⟩ (.bool true) := ⟨_, rfl⟩
          rw [← hW6] at HS6 ⊢
          clear hW6 x0 x1 x2 x3 xf xl
          have HR : Hid (DSt w W6 g b n c f bx (N * 64) (Stt.mk t.d t.m t.S t.L t.F t.fuel true)) := HS6.out
          obtain ⟨ar, cr, pr, qr, Ar, hrow, hown⟩ := HR.out.box
          obtain ⟨x0, x1, x2, x3, xf, xl⟩ := hrow.cells
          obtain ⟨y0, y1, y2, y3, yf, yl⟩ := HR.out.res.cells
          have HO : Hid (OwnD W6 w.heap.size ar (N * 64) (Stt.mk t.d t.m t.S t.L t.F t.fuel true).d pr (Stt.mk t.d t.m t.S t.L t.F t.fuel true).m (Stt.mk t.d t.m t.S t.L t.F t.fuel true).S (Stt.mk t.d t.m t.S t.L t.F t.fuel true).L (Stt.mk t.d t.m t.S t.L t.F t.fuel true).F Ar) := hown
          clear hrow hown
          go_wp2
          refine bodyPost_ret (v := .agg #[.slice ar (N * 64) cr, .slice pr (Stt.mk t.d t.m t.S t.L t.F t.fuel true).m qr, .int .i64 (Stt.mk t.d t.m t.S t.L t.F t.fuel true).fuel, .bool (Stt.mk t.d t.m t.S t.L t.F t.fuel true).dead]) (by simp [results, Try.results56, go_sem, y0, y1, y2, y3]) rfl ⟨N * 64, (Stt.mk t.d t.m t.S t.L t.F t.fuel true), ar, pr, cr, qr, Ar, rfl, ?_, HR.out.ok, ?_, ?_⟩
          · exact HO.out.onlyDk HR.out.res (((((OnlyAt.refl _ _).setCell 0 _).setCell 1 _).setCell 2 _).setCell 3 _)
          · exact (HR.out.cur.below (((((Below.refl _ _).setCell (by show w.heap.size ≤ w.heap.size; omega) _).setCell (by show w.heap.size ≤ w.heap.size; omega) _).setCell (by show w.heap.size ≤ w.heap.size; omega) _).setCell (by show w.heap.size ≤ w.heap.size; omega) _)).drw
          · exact ((((HR.out.bel.setCell (by show w.heap.size ≤ w.heap.size; omega) _).setCell (by show w.heap.size ≤ w.heap.size; omega) _).setCell (by show w.heap.size ≤ w.heap.size; omega) _).setCell (by show w.heap.size ≤ w.heap.size; omega) _)
        · have h34 : (kk == 3) = false := by simp; omega
          clear HB5 x0 x1 x2 x3 xf xl
          have HR : Hid (DSt w w5 g b n c f bx (N * 64) t) := S5.out
          obtain ⟨ar, cr, pr, qr, Ar, hrow, hown⟩ := HR.out.box
          obtain ⟨x0, x1, x2, x3, xf, xl⟩ := hrow.cells
          obtain ⟨y0, y1, y2, y3, yf, yl⟩ := HR.out.res.cells
          have HO : Hid (OwnD w5 w.heap.size ar (N * 64) t.d pr t.m t.S t.L t.F Ar) := hown
          clear hrow hown
          go_wp2
          refine bodyPost_ret (v := .agg #[.slice ar (N * 64) cr, .slice pr t.m qr, .int .i64 t.fuel, .bool t.dead]) (by simp [results, Try.results56, go_sem, y0, y1, y2, y3]) rfl ⟨N * 64, t, ar, pr, cr, qr, Ar, rfl, ?_, HR.out.ok, ?_, ?_⟩
          · exact HO.out.onlyDk HR.out.res (((((OnlyAt.refl _ _).setCell 0 _).setCell 1 _).setCell 2 _).setCell 3 _)
          · exact (HR.out.cur.below (((((Below.refl _ _).setCell (by show w.heap.size ≤ w.heap.size; omega) _).setCell (by show w.heap.size ≤ w.heap.size; omega) _).setCell (by show w.heap.size ≤ w.heap.size; omega) _).setCell (by show w.heap.size ≤ w.heap.size; omega) _)).drw
          · exact ((((HR.out.bel.setCell (by show w.heap.size ≤ w.heap.size; omega) _).setCell (by show w.heap.size ≤ w.heap.size; omega) _).setCell (by show w.heap.size ≤ w.heap.size; omega) _).setCell (by show w.heap.size ≤ w.heap.size; omega) _)
end Go.Proofs.Ytlcamfkgkcjehaa
