import Derived.Test.YtlcamfkgkcjehaaNr33
import Derived.Test.YtlcamfkgkcjehaaNr31
namespace Go.Proofs.Ytlcamfkgkcjehaa
open Go.RowKit Go.Deep
set_option linter.unusedVariables false
set_option maxRecDepth 100000

/-- A block of four cells. -/
def Bz4 (W : World) (bx : Nat) : Prop := ∃ cur fr, W.heap[bx]? = some (.cells cur 25 fr) ∧ cur.size = 4
theorem Bz4.of_block {W W' : World} {bx : Nat} (h : Bz4 W bx) (hb : W'.heap[bx]? = W.heap[bx]?) : Bz4 W' bx := by
  obtain ⟨cur, fr, h1, h2⟩ := h
  exact ⟨cur, fr, hb.trans h1, h2⟩
theorem Bz4.lt {W : World} {bx : Nat} (h : Bz4 W bx) : bx < W.heap.size := by
  obtain ⟨cur, fr, h1, h2⟩ := h
  exact (Array.getElem?_eq_some_iff.1 h1).1
theorem Bz4.set {W : World} {bx : Nat} (h : Bz4 W bx) (i : Nat) (v : Value) : Bz4 (W.setCell ⟨bx, i, none⟩ v) bx := by
  obtain ⟨cur, fr, h1, h2⟩ := h
  refine ⟨cur.setIfInBounds i v, fr, ?_, by simpa using h2⟩
  simp [World.setCell, Array.getElem?_modify, h1]
theorem Bz4.over {W : World} {bx x : Nat} (h : Bz4 W bx) (hx : 4 ≤ x) : W.cell? ⟨bx, x, none⟩ = none := by
  obtain ⟨cur, fr, h1, h2⟩ := h
  simp [World.cell?, h1]
  omega
theorem dk_noByte {W : World} {bx : Nat} {a p : Option Addr} {nn c' m q : Nat} {fuel : Int} {dead : Bool} (hd : DkRow W bx (.slice a nn c') (.slice p m q) fuel dead) (hz : Bz4 W bx) (x : Nat) (z : Int) : W.cell? ⟨bx, x, none⟩ ≠ some (.int .u8 z) := by
  obtain ⟨x0, x1, x2, x3, -⟩ := hd.cells
  intro e
  match x with
  | 0 => rw [x0] at e; cases e
  | 1 => rw [x1] at e; cases e
  | 2 => rw [x2] at e; cases e
  | 3 => rw [x3] at e; cases e
  | x + 4 => rw [hz.over (by omega)] at e; cases e
theorem dk_noPend {W : World} {bx : Nat} {a p : Option Addr} {nn c' m q : Nat} {fuel : Int} {dead : Bool} (hd : DkRow W bx (.slice a nn c') (.slice p m q) fuel dead) (hz : Bz4 W bx) (x : Nat) (z : Int) (ad : Option Addr) (l cp : Nat) (h1 : W.cell? ⟨bx, x, none⟩ = some (.int .i64 z)) (h2 : W.cell? ⟨bx, x + 1, none⟩ = some (.slice ad l cp)) : False := by
  obtain ⟨x0, x1, x2, x3, -⟩ := hd.cells
  match x with
  | 0 => rw [x0] at h1; cases h1
  | 1 => rw [x1] at h1; cases h1
  | 2 => rw [x3] at h2; cases h2
  | 3 => rw [x3] at h1; cases h1
  | x + 4 => rw [hz.over (by omega)] at h1; cases h1
theorem RdB.setBx {W W' : World} {bx B : Nat} {a : Option Addr} {n : Nat} {f : Nat → Int} (h : RdB W B a n f) (hc : ∀ x z, W.cell? ⟨bx, x, none⟩ ≠ some (.int .u8 z)) (ho : OnlyAt (some ⟨bx, 0, none⟩) W W') : RdB W' B a n f := by
  rcases h with h | ⟨b, o, e, hB, hcc⟩
  · exact .inl h
  · refine .inr ⟨b, o, e, hB, fun i hi => ?_⟩
    have hne : bx ≠ b := fun q => by subst q; exact hc _ _ (hcc i hi)
    exact cell_keep (hcc i hi) (ho.block b (fun x e => by injection e with e; subst e; exact hne))
theorem RdDk.setBx {W W' : World} {bx B : Nat} {v : Value} (h : RdDk W B v) {a p : Option Addr} {nn c' m q : Nat} {fuel : Int} {dead : Bool} (hd : DkRow W bx (.slice a nn c') (.slice p m q) fuel dead) (hz : Bz4 W bx) (ho : OnlyAt (some ⟨bx, 0, none⟩) W W') : RdDk W' B v := by
  obtain ⟨a2, p2, n2, c2, m2, q2, d2, S2, L2, F2, fuel2, dead2, e, h1, h2, r⟩ := h
  have hc := dk_noByte hd hz
  refine ⟨a2, p2, n2, c2, m2, q2, d2, S2, L2, F2, fuel2, dead2, e, h1.setBx hc ho, ?_, r⟩
  rcases h2 with h2 | ⟨b, o, e, hB, hcc⟩
  · exact .inl h2
  · refine .inr ⟨b, o, e, hB, fun i hi => ?_⟩
    obtain ⟨k1, ad, cp, k2, k3⟩ := hcc i hi
    have hne : bx ≠ b := fun q => by subst q; exact dk_noPend hd hz _ _ _ _ _ k1 k2
    have hb : W'.heap[b]? = W.heap[b]? := ho.block b (fun x e => by injection e with e; subst e; exact hne)
    exact ⟨cell_keep k1 hb, ad, cp, cell_keep k2 hb, k3.setBx hc ho⟩

/-- spec.DrawWriteRec under way. -/
structure DW (w W : World) (B g bx : Nat) (b : Option Addr) (n c : Nat) (f : Nat → Int) (a p : Option Addr) (nn c' m q : Nat) (d S : Nat → Int) (L : Nat → Nat) (F : Nat → Nat → Int) (A : Nat → Option Addr) (fuel : Int) (dead : Bool) (ap : Option Addr) (M : Nat) (Fp : Nat → Int) : Prop where
  cur : DrwL W B g b n c f
  gw : w.heap.size < g
  bB : B ≤ bx
  box : DkRow W bx (.slice a nn c') (.slice p m q) fuel dead
  own : OwnQ W B a nn c' d p m q S L F A
  res : DkRow W w.heap.size (.slice none 0 0) (.slice none 0 0) 0 false
  bel : Below w.heap.size w W
  pay : OwnB W B ap M Fp
  sz : Bz4 W bx
section
variable {w W W' : World} {B g bx : Nat} {b : Option Addr} {n c : Nat} {f : Nat → Int} {a p : Option Addr} {nn c' m q : Nat} {d S : Nat → Int} {L : Nat → Nat} {F : Nat → Nat → Int} {A : Nat → Option Addr} {fuel : Int} {dead : Bool} {ap : Option Addr} {M : Nat} {Fp : Nat → Int}
theorem DW.cur' (h : DW w W B g bx b n c f a p nn c' m q d S L F A fuel dead ap M Fp) (ho : OnlyAt (some ⟨g, 0, none⟩) W W') (hd : Drw W' g b n c f) : DW w W' B g bx b n c f a p nn c' m q d S L F A fuel dead ap M Fp := by
  have hg := h.cur.cur
  have hw := h.gw
  have hbB := h.bB
  exact ⟨⟨hd, hg, h.cur.bytes⟩, h.gw, h.bB, rowIn.of_block h.box (ho.block _ (fun x e => by injection e with e; subst e; show g ≠ bx; omega)), h.own.belC hg (BelC.ofOnly ho), rowIn.of_block h.res (ho.block _ (fun x e => by injection e with e; subst e; show g ≠ w.heap.size; omega)), h.bel.trans (ho.below (fun x e => by injection e with e; subst e; show w.heap.size ≤ g; omega)), h.pay.belC hg (BelC.ofOnly ho), h.sz.of_block (ho.block _ (fun x e => by injection e with e; subst e; show g ≠ bx; omega))⟩
theorem DW.below (h : DW w W B g bx b n c f a p nn c' m q d S L F A fuel dead ap M Fp) (hb : Below W.heap.size W W') : DW w W' B g bx b n c f a p nn c' m q d S L F A fuel dead ap M Fp := by
  have h1 := rowIn.lt h.box
  have h2 := h.bB
  have h3 := h.bel.size
  exact ⟨h.cur.below (hb.mono (by omega)), h.gw, h.bB, h.box.below hb, h.own.below hb, h.res.below hb, h.bel.trans (hb.mono h3), h.pay.below hb, h.sz.of_block (hb.block _ h1)⟩
theorem DW.newPay (h : DW w W B g bx b n c f a p nn c' m q d S L F A fuel dead ap M Fp) {ap2 : Option Addr} {M2 : Nat} {Fp2 : Nat → Int} (ho : OwnB W B ap2 M2 Fp2) : DW w W B g bx b n c f a p nn c' m q d S L F A fuel dead ap2 M2 Fp2 :=
  ⟨h.cur, h.gw, h.bB, h.box, h.own, h.res, h.bel, ho, h.sz⟩
theorem dk_set3 {o : Nat} {v0 v1 : Value} (h : DkRow W o v0 v1 fuel dead) (x : Bool) : DkRow (W.setCell ⟨o, 3, none⟩ (.bool x)) o v0 v1 fuel x :=
  (rowIn.set h 3 _).congr (fun i hi => by match i, hi with
    | 0, _ => rfl
    | 1, _ => rfl
    | 2, _ => rfl
    | 3, _ => rfl)
theorem DW.set (h : DW w W B g bx b n c f a p nn c' m q d S L F A fuel dead ap M Fp) (i : Nat) (v : Value) {fuel2 : Int} {dead2 : Bool} (hr : DkRow (W.setCell ⟨bx, i, none⟩ v) bx (.slice a nn c') (.slice p m q) fuel2 dead2) : DW w (W.setCell ⟨bx, i, none⟩ v) B g bx b n c f a p nn c' m q d S L F A fuel2 dead2 ap M Fp := by
  have h2 := h.bB
  have h3 := h.gw
  have h4 := h.cur.cur
  have hon : OnlyAt (some ⟨bx, 0, none⟩) W (W.setCell ⟨bx, i, none⟩ v) := (OnlyAt.refl _ _).setCell i v
  exact ⟨h.cur.below ((Below.refl _ _).setCell h2 _), h.gw, h.bB, hr, h.own.onlyDk h.box hon, rowIn.of_block h.res (Below.heap_setCell _ _ _ _ (by show w.heap.size ≠ bx; omega)), h.bel.setCell (by show w.heap.size ≤ bx; omega) _, h.pay.onlyDk h.box hon, h.sz.set i v⟩
/-- The disk spoilt: what else there was is as it was. -/
theorem DW.spoilt (h : DW w W B g bx b n c f a p nn c' m q d S L F A fuel dead ap M Fp) (hk : BelK B g W W') : DkRow W' bx (.slice a nn c') (.slice p m q) fuel dead ∧ DkRow W' w.heap.size (.slice none 0 0) (.slice none 0 0) 0 false ∧ Below w.heap.size w W' ∧ OwnB W' B ap M Fp ∧ w.heap.size < bx ∧ Bz4 W' bx := by
  have h2 := h.bB
  have h3 := h.gw
  have h4 := h.cur.cur
  have key : ∀ {k : Nat} {t : TypeId} {nq : Nat} {G : Nat → Value}, rowIn W k t nq G → 49 ≠ t → k ≠ g → rowIn W' k t nq G := fun {k t nq G} hr ht hg => by
    refine hr.of_block (hk.k k hr.lt hg (fun cur fr e => ?_))
    obtain ⟨c0, e0, _⟩ := hr
    rw [e0] at e
    injection e with e
    injection e with _ e _
    exact ht e.symm
  refine ⟨key h.box (by decide) (by omega), key h.res (by decide) (by omega), h.bel.trans (BelC.below (hk.c.mono (by omega)) (by omega)), ?_, by omega, ?_⟩
  rcases h.pay with h0 | ⟨k, e, hB, hr⟩
  · exact .inl h0
  · exact .inr ⟨k, e, hB, key hr (by decide) (by omega)⟩
  · obtain ⟨cur, fr, q1, q2⟩ := h.sz
    refine h.sz.of_block (hk.k bx h.sz.lt (by omega) (fun cur' fr' e => ?_))
    rw [q1] at e
    injection e with e
    injection e with _ e _
    exact absurd e (by decide)
end

/-- What DrawWriteRec hands back. -/
def RetDwr (w : World) (e : Ending) (w' : World) : Prop :=
  ∃ (a p : Option Addr) (nn c' m q : Nat) (d S : Nat → Int) (L : Nat → Nat) (F : Nat → Nat → Int) (fuel : Int) (dead : Bool) (at_ sq : Int) (ap : Option Addr) (M cp : Nat) (Fp : Nat → Int), e = .returned (.tuple #[.agg #[.slice a nn c', .slice p m q, .int .i64 fuel, .bool dead], .int .i64 at_, .int .i64 sq, .slice ap M cp]) ∧ Rd .u8 w' a nn d ∧ RdP w' p m S L F ∧ (nn ≤ 1048576 ∧ nn ≤ c' ∧ c' ≤ 9223372036854775807 ∧ m ≤ 4000 ∧ (∀ i, i < m → L i ≤ 1048576) ∧ (∀ j, 0 ≤ d j ∧ d j < 256)) ∧ Rd .u8 w' ap M Fp ∧ (∀ j, 0 ≤ Fp j ∧ Fp j < 256) ∧ M ≤ 30001 ∧ M ≤ cp ∧ cp ≤ 9223372036854775807 ∧ (0 ≤ at_ ∧ at_ ≤ 9223372036854775807) ∧ (0 ≤ sq ∧ sq ≤ 2000000001) ∧ Below w.heap.size w w'

set_option maxHeartbeats 8000000 in
theorem drawWR_any (b : Option Addr) (n c : Nat) (f : Nat → Int) (w : World) (hrd : Rd .u8 w b n f) (hn : n ≤ 1048576) (hf : ∀ j, j < n → 0 ≤ f j ∧ f j < 256) :
    Calls Try.prog 14 #[.slice b n c] w (RetDwr w) := by
  have HRD : Hid (Rd .u8 w b n f) := hrd
  have HF : Hid (∀ j, j < n → 0 ≤ f j ∧ f j < 256) := hf
  clear hrd hf
  go_enter Try.func14, Try.ntmps14
  go_wp2_with fail
  refine (l1New_any b n c f _ (HRD.out.below (below_alloc _ _)) hn HF.out).mono ?_
  rintro e w1 ⟨g, rfl, hg, hd1, hb1⟩
  rw [show ∀ O, (w.alloc O).heap.size = w.heap.size + 1 from fun O => by simp] at hg hb1
  have z1 := hb1.size
  rw [show ∀ O, (w.alloc O).heap.size = w.heap.size + 1 from fun O => by simp] at z1
  have S1 : Hid (Drw w1 g b n c f ∧ DkRow w1 w.heap.size (.slice none 0 0) (.slice none 0 0) 0 false ∧ Below w.heap.size w w1) := ⟨hd1, rowIn.of_block (rowInNew w _ _ _ _) (hb1.block w.heap.size (by omega)), (below_alloc _ _).trans (hb1.mono (by omega))⟩
  have hgl : g < w1.heap.size := (DrwL.of hd1).cur
  clear hd1 hb1 HRD HF
  go_wp2_with fail
  refine (l2Disk_any g b n c f w1 S1.out.1).mono ?_
  rintro e w2 ⟨nn, t, a, p, c', q, A, rfl, ho2, hfr, hd2, hb2⟩
  have HFR : Hid (Fair nn t) := hfr
  have hnn : 1024 ≤ nn ∧ nn ≤ 65536 := by have := hfr.1.1; unfold VH at this; omega
  have HM0 : Hid (t.m = 0) := hfr.2.2.1
  have z2 := hb2.size
  obtain ⟨B, hB⟩ : ∃ B, B = w1.heap.size := ⟨_, rfl⟩
  have S2 : Hid (DW w (w2.alloc (.cells #[.slice a nn c', .slice p t.m q, .int .i64 t.fuel, .bool t.dead] 25)) B g w2.heap.size b n c f a p nn c' t.m q t.d t.S t.L t.F A t.fuel t.dead none 0 (fun _ => 0)) := by
    rw [hB]
    refine ⟨⟨hd2.below (below_alloc _ _), hgl, (DrwL.of S1.out.1).bytes⟩, by omega, z2, rowInNew _ _ _ _ _, ho2.below (below_alloc _ _), (rowIn.of_block S1.out.2.1 (hb2.block _ (by omega) (by omega))).below (below_alloc _ _), ?_, .inl rfl, ⟨_, _, Array.getElem?_push_size, rfl⟩⟩
    have hb : Below w.heap.size w w2 := S1.out.2.2.trans (BelC.below (hb2.mono (by omega)) (by omega))
    exact hb.alloc (by omega) _
  have hBw : w.heap.size < B := by omega
  clear ho2 hfr hd2 hb2 S1 hB z2 hgl hg z1
  obtain ⟨W2, hW2⟩ : ∃ W2, W2 = w2.alloc (.cells #[.slice a nn c', .slice p t.m q, .int .i64 t.fuel, .bool t.dead] 25) := ⟨_, rfl⟩
  obtain ⟨bx, hbx⟩ : ∃ bx, bx = w2.heap.size := ⟨_, rfl⟩
  rw [← hW2, ← hbx] at S2
  go_upto_region 3 with fail
  rw [← hW2, ← hbx]
  clear hW2 hbx
  obtain ⟨x0, x1, x2, x3, xf, xl⟩ := S2.out.box.cells
  go_wp2_with fail
  refine (l1Sectors_any a p nn c' t.m q t.fuel t.dead W2 (by omega)).mono ?_
  rintro e w3 ⟨rfl, hb3⟩
  have S3 : Hid (DW w w3 B g bx b n c f a p nn c' t.m q t.d t.S t.L t.F A t.fuel t.dead none 0 (fun _ => 0)) := S2.out.below hb3
  clear hb3 S2 x0 x1 x2 x3 xf xl
  obtain ⟨ns, hns⟩ : ∃ ns : Int, ns = (nn : Int) / 64 := ⟨_, rfl⟩
  rw [← hns]
  have hns2 : 16 ≤ ns ∧ ns ≤ 1024 := by omega
  clear hns
  go_wp2_with fail
  refine (l1Below_any g b n c f (ns + 3) w3 S3.out.cur.drw (by omega) (by omega)).mono ?_
  rintro e w4 ⟨at_, rfl, ha0, ha1, hd4, ho4⟩
  have S4 : Hid (DW w w4 B g bx b n c f a p nn c' t.m q t.d t.S t.L t.F A t.fuel t.dead none 0 (fun _ => 0)) := S3.out.cur' ho4 hd4
  clear hd4 ho4 S3
  have hat : 0 ≤ at_ ∧ at_ ≤ 9223372036854775807 := by omega
  clear ha0 ha1 hns2
  go_wp2_with fail
  refine (l2Seq_any g b n c f w4 S4.out.cur.drw).mono ?_
  rintro e w5 ⟨sq, rfl, hs0, hs1, hd5, ho5⟩
  have S5 : Hid (DW w w5 B g bx b n c f a p nn c' t.m q t.d t.S t.L t.F A t.fuel t.dead none 0 (fun _ => 0)) := S4.out.cur' ho5 hd5
  clear hd5 ho5 S4
  go_wp2_with fail
  refine (l2Length_any g b n c f w5 S5.out.cur.drw).mono ?_
  rintro e w6 ⟨ml, rfl, hm1, hm2, hd6, ho6⟩
  have S6 : Hid (DW w w6 B g bx b n c f a p nn c' t.m q t.d t.S t.L t.F A t.fuel t.dead none 0 (fun _ => 0)) := S5.out.cur' ho6 hd6
  clear hd6 ho6 S5
  obtain ⟨M, hM⟩ : ∃ M : Nat, ml = (M : Int) := ⟨ml.toNat, by omega⟩
  have HM : Hid (ml = (M : Int)) := hM
  have hM3 : M ≤ 30001 := by omega
  clear hM hm1 hm2
  go_wp2_with fail
  refine (l1Some_any g b n c f ml M w6 S6.out.cur.drw HM.out (by omega)).mono ?_
  rintro e w7 ⟨ap, cp, Fp, rfl, ho7, hrg7, hc7, hc7', hd7, hb7⟩
  have S7 : Hid (DW w w7 B g bx b n c f a p nn c' t.m q t.d t.S t.L t.F A t.fuel t.dead ap M Fp) := by
    have h1 := rowIn.lt S6.out.box
    have h2 := S6.out.bB
    have h3 := S6.out.bel.size
    have h4 := S6.out.gw
    have h5 := S6.out.cur.cur
    exact ⟨⟨hd7, h5, S6.out.cur.bytes⟩, h4, h2, rowIn.of_block S6.out.box (hb7.block _ h1 (by omega)), S6.out.own.belC h5 hb7, rowIn.of_block S6.out.res (hb7.block _ (by omega) (by omega)), S6.out.bel.trans (BelC.below (hb7.mono (by omega)) (by omega)), ho7.mono (by omega), S6.out.sz.of_block (hb7.block _ h1 (by omega))⟩
  have HRP : Hid (∀ j, 0 ≤ Fp j ∧ Fp j < 256) := hrg7
  clear ho7 hrg7 hd7 hb7 S6 HM
  go_wp2_with fail
  refine (l1Below_any g b n c f 8 w7 S7.out.cur.drw (by omega) (by omega)).mono ?_
  rintro e w8 ⟨k, rfl, hk0, hk1, hd8, ho8⟩
  have S8 : Hid (DW w w8 B g bx b n c f a p nn c' t.m q t.d t.S t.L t.F A t.fuel t.dead ap M Fp) := S7.out.cur' ho8 hd8
  clear hd8 ho8 S7
  have hk3 : k < 4 ∨ k = 4 ∨ 4 < k := by omega
  obtain ⟨x0, x1, x2, x3, xf, xl⟩ := S8.out.box.cells
  rcases hk3 with hk4 | hk4 | hk4
  · have hq4 : (k == 4) = false := by simp; omega
    obtain ⟨wA, hwA⟩ : ∃ wA, wA = w8.setCell ⟨bx, 2, none⟩ (.int .i64 k) := ⟨_, rfl⟩
    have SA : Hid (DW w wA B g bx b n c f a p nn c' t.m q t.d t.S t.L t.F A k t.dead ap M Fp) := by
      rw [hwA]
      exact S8.out.set 2 _ (dk_set2 S8.out.box k)
    go_upto_region 11 with fail
    rw [← hwA]
    clear hwA x0 x1 x2 x3 xf xl S8 hq4 hk4
    obtain ⟨fu, hfu⟩ : ∃ fu, fu = k := ⟨_, rfl⟩
    obtain ⟨de, hde⟩ : ∃ de, de = t.dead := ⟨_, rfl⟩
    rw [← hfu, ← hde] at SA
    clear hfu hde
    go_wp2_with fail
    refine (l1Once_any g b n c f 40 wA SA.out.cur.drw (by omega) (by omega)).mono ?_
    rintro e wB ⟨o4, rfl, hdB, hoB⟩
    have SB : Hid (DW w wB B g bx b n c f a p nn c' t.m q t.d t.S t.L t.F A fu de ap M Fp) := SA.out.cur' hoB hdB
    clear hdB hoB SA
    cases o4 with
    | true =>
      go_wp2_with fail
      refine (l1Below_any g b n c f 2 wB SB.out.cur.drw (by omega) (by omega)).mono ?_
      rintro e wC ⟨y, rfl, hy0, hy1, hdC, hoC⟩
      have SC : Hid (DW w wC B g bx b n c f a p nn c' t.m q t.d t.S t.L t.F A fu de ap M Fp) := SB.out.cur' hoC hdC
      clear hdC hoC SB HRP hM3 hc7 hc7'
      obtain ⟨M, hM⟩ : ∃ M : Nat, 30000 + y = (M : Int) := ⟨(30000 + y).toNat, by omega⟩
      have HM : Hid (30000 + y = (M : Int)) := hM
      have hM3 : M ≤ 30001 := by omega
      clear hM
      go_wp2_with fail
      refine (zeros_cat (30000 + y) M wC HM.out (by omega)).mono ?_
      rintro e w9 ⟨ap, cp, rfl, hoD, hbD, hc7, hc7'⟩
      obtain ⟨Fp, hFp⟩ : ∃ Fp : Nat → Int, Fp = fun _ => 0 := ⟨_, rfl⟩
      have HRP : Hid (∀ j, 0 ≤ Fp j ∧ Fp j < 256) := fun j => by rw [hFp]; exact ⟨Int.le_refl 0, (by decide : (0 : Int) < 256)⟩
      rw [← hFp] at hoD
      have S9 : Hid (DW w w9 B g bx b n c f a p nn c' t.m q t.d t.S t.L t.F A fu de ap M Fp) := (SC.out.below hbD).newPay (hoD.mono (by have := SC.out.bB; have := rowIn.lt SC.out.box; omega))
      clear hoD hbD hFp SC HM
      go_upto_region 13 with fail
      go_wp2_with fail
      refine (l1Once_any g b n c f 20 w9 S9.out.cur.drw (by omega) (by omega)).mono ?_
      rintro e w10 ⟨o3, rfl, hd10, ho10⟩
      have S10 : Hid (DW w w10 B g bx b n c f a p nn c' t.m q t.d t.S t.L t.F A fu de ap M Fp) := S9.out.cur' ho10 hd10
      clear hd10 ho10 S9
      cases o3 with
      | true =>
        go_wp2_with fail
        refine (l1Below_any g b n c f 3 w10 S10.out.cur.drw (by omega) (by omega)).mono ?_
        rintro e w11 ⟨y, rfl, hy0, hy1, hd11, ho11⟩
        have S11 : Hid (DW w w11 B g bx b n c f a p nn c' t.m q t.d t.S t.L t.F A fu de ap M Fp) := S10.out.cur' ho11 hd11
        clear hd11 ho11 S10 hat
        go_upto_region 15 with fail
        obtain ⟨at_, hat0⟩ : ∃ at_ : Int, at_ = 9223372036854775807 - y := ⟨_, rfl⟩
        have hat : 0 ≤ at_ ∧ at_ ≤ 9223372036854775807 := by omega
        rw [← hat0]
        clear hat0
        go_wp2_with fail
        refine (l1Once_any g b n c f 20 w11 S11.out.cur.drw (by omega) (by omega)).mono ?_
        rintro e w12 ⟨o2, rfl, hd12, ho12⟩
        have S12 : Hid (DW w w12 B g bx b n c f a p nn c' t.m q t.d t.S t.L t.F A fu de ap M Fp) := S11.out.cur' ho12 hd12
        clear hd12 ho12 S11
        cases o2 with
        | true =>
          obtain ⟨x0, x1, x2, x3, xf, xl⟩ := S12.out.box.cells
          go_wp2_with fail
          refine (l1Spoil_any B g b n c f a p nn c' t.m q t.d t.S t.L t.F A fu de w12 S12.out.cur S12.out.own (by have := S12.out.bB; have := rowIn.lt S12.out.box; omega) (by omega) (by omega) (by rw [HM0.out]; omega) (fun i hi => by rw [HM0.out] at hi; omega) HFR.out.2.2.2).mono ?_
          rintro e w13 ⟨v13, rfl, hr13, hd13, hk13⟩
          obtain ⟨y1, y2, y3, y4, y5, y6⟩ := S12.out.spoilt hk13
          have HR13 : Hid (RdDk w13 B v13) := hr13
          obtain ⟨a9, p9, nn9, c9, m9, q9, d9, S9, L9, F9, fu9, de9, e, -⟩ := hr13
          subst e
          obtain ⟨W9, hW9⟩ : ∃ W9, W9 = (((w13.setCell ⟨bx, 0, none⟩ (.slice a9 nn9 c9)).setCell ⟨bx, 1, none⟩ (.slice p9 m9 q9)).setCell ⟨bx, 2, none⟩ (.int .i64 fu9)).setCell ⟨bx, 3, none⟩ (.bool de9) := ⟨_, rfl⟩
          have E9 : Hid (DkRow W9 bx (.slice a9 nn9 c9) (.slice p9 m9 q9) fu9 de9 ∧ DkRow W9 w.heap.size (.slice none 0 0) (.slice none 0 0) 0 false ∧ Below w.heap.size w W9 ∧ OwnB W9 B ap M Fp ∧ w.heap.size < bx ∧ RdDk W9 B (.agg #[.slice a9 nn9 c9, .slice p9 m9 q9, .int .i64 fu9, .bool de9])) := by
            have hon : OnlyAt (some ⟨bx, 0, none⟩) w13 W9 := by
              rw [hW9]
              exact ((((OnlyAt.refl _ _).setCell 0 _).setCell 1 _).setCell 2 _).setCell 3 _
            refine ⟨by rw [hW9]; exact dk_set4 y1, rowIn.of_block y2 (hon.block _ (fun x e => by injection e with e; subst e; show bx ≠ w.heap.size; omega)), y3.trans (hon.below (fun x e => by injection e with e; subst e; show w.heap.size ≤ bx; omega)), y4.onlyDk y1 hon, y5, HR13.out.setBx y1 y6 hon⟩
          obtain ⟨z0, z1, z2, z3, zf, zl⟩ := y1.cells
          clear x0 x1 x2 x3 xf xl y1 y2 y3 y4 y5 y6 HR13 hd13 hk13 S12
          go_upto_region 17 with fail
          rw [← hW9]
          clear hW9 z0 z1 z2 z3 zf zl
          obtain ⟨x0, x1, x2, x3, xf, xl⟩ := E9.out.1.cells
          obtain ⟨r0, r1, r2, r3, rf, rl⟩ := E9.out.2.1.cells
          have hne1 : ¬ (bx = w.heap.size) := by have := E9.out.2.2.2.2.1; omega
          have hne2 : ¬ (w.heap.size = bx) := by omega
          go_wp2
          refine bodyPost_ret (v := .tuple #[.agg #[.slice a9 nn9 c9, .slice p9 m9 q9, .int .i64 fu9, .bool de9], .int .i64 at_, .int .i64 sq, .slice ap M cp]) (by simp [results, Try.results14, go_sem, r0, r1, r2, r3]) rfl ?_
          have hf9 := RdDk.keep (w' := (((W9.setCell ⟨w.heap.size, 0, none⟩ (.slice a9 nn9 c9)).setCell ⟨w.heap.size, 1, none⟩ (.slice p9 m9 q9)).setCell ⟨w.heap.size, 2, none⟩ (.int .i64 fu9)).setCell ⟨w.heap.size, 3, none⟩ (.bool de9)) E9.out.2.2.2.2.2 (fun k hk _ => by
            rw [Below.heap_setCell _ _ _ _ (by show k ≠ w.heap.size; omega), Below.heap_setCell _ _ _ _ (by show k ≠ w.heap.size; omega), Below.heap_setCell _ _ _ _ (by show k ≠ w.heap.size; omega), Below.heap_setCell _ _ _ _ (by show k ≠ w.heap.size; omega)])
          obtain ⟨a2, p2, n2, c2, m2, q2, d2, S2, L2, F2, fuel2, dead2, e, h1, h2, s1, s2, s3, s4, s5, s6⟩ := hf9
          cases e
          exact ⟨a9, p9, nn9, c9, m9, q9, d2, S2, L2, F2, fu9, de9, at_, sq, ap, M, cp, Fp, rfl, h1.rd, h2.rd, ⟨s1, s2, s3, s4, s5, s6⟩, ((((E9.out.2.2.2.1.setOther hBw _).setOther hBw _).setOther hBw _).setOther hBw _).rd, HRP.out, hM3, hc7, hc7', hat, ⟨hs0, by omega⟩, (((E9.out.2.2.1.setCell (by show w.heap.size ≤ w.heap.size; omega) _).setCell (by show w.heap.size ≤ w.heap.size; omega) _).setCell (by show w.heap.size ≤ w.heap.size; omega) _).setCell (by show w.heap.size ≤ w.heap.size; omega) _⟩
        | false =>
          have E0 : Hid (DkRow w12 bx (.slice a nn c') (.slice p t.m q) fu de ∧ DkRow w12 w.heap.size (.slice none 0 0) (.slice none 0 0) 0 false ∧ Below w.heap.size w w12 ∧ OwnB w12 B ap M Fp ∧ w.heap.size < bx ∧ RdDk w12 B (.agg #[.slice a nn c', .slice p t.m q, .int .i64 fu, .bool de])) := by
            have h2 := S12.out.bB
            have h3 := S12.out.gw
            have h4 := S12.out.cur.cur
            exact ⟨S12.out.box, S12.out.res, S12.out.bel, S12.out.pay, by omega, S12.out.own.rdDk (by omega) (by rw [HM0.out]; omega) (fun i hi => by rw [HM0.out] at hi; omega) _ _ HFR.out.2.2.2⟩
          clear S12
          go_upto_region 17 with fail
          obtain ⟨W9, hW9⟩ : ∃ W9, W9 = w12 := ⟨_, rfl⟩
          obtain ⟨m9, hm9⟩ : ∃ m9, m9 = t.m := ⟨_, rfl⟩
          rw [← hW9, ← hm9] at E0 ⊢
          clear hW9 hm9
          have E9 := E0
          obtain ⟨x0, x1, x2, x3, xf, xl⟩ := E9.out.1.cells
          obtain ⟨r0, r1, r2, r3, rf, rl⟩ := E9.out.2.1.cells
          have hne1 : ¬ (bx = w.heap.size) := by have := E9.out.2.2.2.2.1; omega
          have hne2 : ¬ (w.heap.size = bx) := by omega
          go_wp2
          refine bodyPost_ret (v := .tuple #[.agg #[.slice a nn c', .slice p m9 q, .int .i64 fu, .bool de], .int .i64 at_, .int .i64 sq, .slice ap M cp]) (by simp [results, Try.results14, go_sem, r0, r1, r2, r3]) rfl ?_
          have hf9 := RdDk.keep (w' := (((W9.setCell ⟨w.heap.size, 0, none⟩ (.slice a nn c')).setCell ⟨w.heap.size, 1, none⟩ (.slice p m9 q)).setCell ⟨w.heap.size, 2, none⟩ (.int .i64 fu)).setCell ⟨w.heap.size, 3, none⟩ (.bool de)) E9.out.2.2.2.2.2 (fun k hk _ => by
            rw [Below.heap_setCell _ _ _ _ (by show k ≠ w.heap.size; omega), Below.heap_setCell _ _ _ _ (by show k ≠ w.heap.size; omega), Below.heap_setCell _ _ _ _ (by show k ≠ w.heap.size; omega), Below.heap_setCell _ _ _ _ (by show k ≠ w.heap.size; omega)])
          obtain ⟨a2, p2, n2, c2, m2, q2, d2, S2, L2, F2, fuel2, dead2, e, h1, h2, s1, s2, s3, s4, s5, s6⟩ := hf9
          cases e
          exact ⟨a, p, nn, c', m9, q, d2, S2, L2, F2, fu, de, at_, sq, ap, M, cp, Fp, rfl, h1.rd, h2.rd, ⟨s1, s2, s3, s4, s5, s6⟩, ((((E9.out.2.2.2.1.setOther hBw _).setOther hBw _).setOther hBw _).setOther hBw _).rd, HRP.out, hM3, hc7, hc7', hat, ⟨hs0, by omega⟩, (((E9.out.2.2.1.setCell (by show w.heap.size ≤ w.heap.size; omega) _).setCell (by show w.heap.size ≤ w.heap.size; omega) _).setCell (by show w.heap.size ≤ w.heap.size; omega) _).setCell (by show w.heap.size ≤ w.heap.size; omega) _⟩
      | false =>
        go_upto_region 15 with fail
        obtain ⟨w11, hw11⟩ : ∃ w11, w11 = w10 := ⟨_, rfl⟩
        rw [← hw11] at S10 ⊢
        clear hw11
        have S11 := S10
        clear S10
        go_wp2_with fail
        refine (l1Once_any g b n c f 20 w11 S11.out.cur.drw (by omega) (by omega)).mono ?_
        rintro e w12 ⟨o2, rfl, hd12, ho12⟩
        have S12 : Hid (DW w w12 B g bx b n c f a p nn c' t.m q t.d t.S t.L t.F A fu de ap M Fp) := S11.out.cur' ho12 hd12
        clear hd12 ho12 S11
        cases o2 with
        | true =>
          obtain ⟨x0, x1, x2, x3, xf, xl⟩ := S12.out.box.cells
          go_wp2_with fail
          refine (l1Spoil_any B g b n c f a p nn c' t.m q t.d t.S t.L t.F A fu de w12 S12.out.cur S12.out.own (by have := S12.out.bB; have := rowIn.lt S12.out.box; omega) (by omega) (by omega) (by rw [HM0.out]; omega) (fun i hi => by rw [HM0.out] at hi; omega) HFR.out.2.2.2).mono ?_
          rintro e w13 ⟨v13, rfl, hr13, hd13, hk13⟩
          obtain ⟨y1, y2, y3, y4, y5, y6⟩ := S12.out.spoilt hk13
          have HR13 : Hid (RdDk w13 B v13) := hr13
          obtain ⟨a9, p9, nn9, c9, m9, q9, d9, S9, L9, F9, fu9, de9, e, -⟩ := hr13
          subst e
          obtain ⟨W9, hW9⟩ : ∃ W9, W9 = (((w13.setCell ⟨bx, 0, none⟩ (.slice a9 nn9 c9)).setCell ⟨bx, 1, none⟩ (.slice p9 m9 q9)).setCell ⟨bx, 2, none⟩ (.int .i64 fu9)).setCell ⟨bx, 3, none⟩ (.bool de9) := ⟨_, rfl⟩
          have E9 : Hid (DkRow W9 bx (.slice a9 nn9 c9) (.slice p9 m9 q9) fu9 de9 ∧ DkRow W9 w.heap.size (.slice none 0 0) (.slice none 0 0) 0 false ∧ Below w.heap.size w W9 ∧ OwnB W9 B ap M Fp ∧ w.heap.size < bx ∧ RdDk W9 B (.agg #[.slice a9 nn9 c9, .slice p9 m9 q9, .int .i64 fu9, .bool de9])) := by
            have hon : OnlyAt (some ⟨bx, 0, none⟩) w13 W9 := by
              rw [hW9]
              exact ((((OnlyAt.refl _ _).setCell 0 _).setCell 1 _).setCell 2 _).setCell 3 _
            refine ⟨by rw [hW9]; exact dk_set4 y1, rowIn.of_block y2 (hon.block _ (fun x e => by injection e with e; subst e; show bx ≠ w.heap.size; omega)), y3.trans (hon.below (fun x e => by injection e with e; subst e; show w.heap.size ≤ bx; omega)), y4.onlyDk y1 hon, y5, HR13.out.setBx y1 y6 hon⟩
          obtain ⟨z0, z1, z2, z3, zf, zl⟩ := y1.cells
          clear x0 x1 x2 x3 xf xl y1 y2 y3 y4 y5 y6 HR13 hd13 hk13 S12
          go_upto_region 17 with fail
          rw [← hW9]
          clear hW9 z0 z1 z2 z3 zf zl
          obtain ⟨x0, x1, x2, x3, xf, xl⟩ := E9.out.1.cells
          obtain ⟨r0, r1, r2, r3, rf, rl⟩ := E9.out.2.1.cells
          have hne1 : ¬ (bx = w.heap.size) := by have := E9.out.2.2.2.2.1; omega
          have hne2 : ¬ (w.heap.size = bx) := by omega
          go_wp2
          refine bodyPost_ret (v := .tuple #[.agg #[.slice a9 nn9 c9, .slice p9 m9 q9, .int .i64 fu9, .bool de9], .int .i64 at_, .int .i64 sq, .slice ap M cp]) (by simp [results, Try.results14, go_sem, r0, r1, r2, r3]) rfl ?_
          have hf9 := RdDk.keep (w' := (((W9.setCell ⟨w.heap.size, 0, none⟩ (.slice a9 nn9 c9)).setCell ⟨w.heap.size, 1, none⟩ (.slice p9 m9 q9)).setCell ⟨w.heap.size, 2, none⟩ (.int .i64 fu9)).setCell ⟨w.heap.size, 3, none⟩ (.bool de9)) E9.out.2.2.2.2.2 (fun k hk _ => by
            rw [Below.heap_setCell _ _ _ _ (by show k ≠ w.heap.size; omega), Below.heap_setCell _ _ _ _ (by show k ≠ w.heap.size; omega), Below.heap_setCell _ _ _ _ (by show k ≠ w.heap.size; omega), Below.heap_setCell _ _ _ _ (by show k ≠ w.heap.size; omega)])
          obtain ⟨a2, p2, n2, c2, m2, q2, d2, S2, L2, F2, fuel2, dead2, e, h1, h2, s1, s2, s3, s4, s5, s6⟩ := hf9
          cases e
          exact ⟨a9, p9, nn9, c9, m9, q9, d2, S2, L2, F2, fu9, de9, at_, sq, ap, M, cp, Fp, rfl, h1.rd, h2.rd, ⟨s1, s2, s3, s4, s5, s6⟩, ((((E9.out.2.2.2.1.setOther hBw _).setOther hBw _).setOther hBw _).setOther hBw _).rd, HRP.out, hM3, hc7, hc7', hat, ⟨hs0, by omega⟩, (((E9.out.2.2.1.setCell (by show w.heap.size ≤ w.heap.size; omega) _).setCell (by show w.heap.size ≤ w.heap.size; omega) _).setCell (by show w.heap.size ≤ w.heap.size; omega) _).setCell (by show w.heap.size ≤ w.heap.size; omega) _⟩
        | false =>
          have E0 : Hid (DkRow w12 bx (.slice a nn c') (.slice p t.m q) fu de ∧ DkRow w12 w.heap.size (.slice none 0 0) (.slice none 0 0) 0 false ∧ Below w.heap.size w w12 ∧ OwnB w12 B ap M Fp ∧ w.heap.size < bx ∧ RdDk w12 B (.agg #[.slice a nn c', .slice p t.m q, .int .i64 fu, .bool de])) := by
            have h2 := S12.out.bB
            have h3 := S12.out.gw
            have h4 := S12.out.cur.cur
            exact ⟨S12.out.box, S12.out.res, S12.out.bel, S12.out.pay, by omega, S12.out.own.rdDk (by omega) (by rw [HM0.out]; omega) (fun i hi => by rw [HM0.out] at hi; omega) _ _ HFR.out.2.2.2⟩
          clear S12
          go_upto_region 17 with fail
          obtain ⟨W9, hW9⟩ : ∃ W9, W9 = w12 := ⟨_, rfl⟩
          obtain ⟨m9, hm9⟩ : ∃ m9, m9 = t.m := ⟨_, rfl⟩
          rw [← hW9, ← hm9] at E0 ⊢
          clear hW9 hm9
          have E9 := E0
          obtain ⟨x0, x1, x2, x3, xf, xl⟩ := E9.out.1.cells
          obtain ⟨r0, r1, r2, r3, rf, rl⟩ := E9.out.2.1.cells
          have hne1 : ¬ (bx = w.heap.size) := by have := E9.out.2.2.2.2.1; omega
          have hne2 : ¬ (w.heap.size = bx) := by omega
          go_wp2
          refine bodyPost_ret (v := .tuple #[.agg #[.slice a nn c', .slice p m9 q, .int .i64 fu, .bool de], .int .i64 at_, .int .i64 sq, .slice ap M cp]) (by simp [results, Try.results14, go_sem, r0, r1, r2, r3]) rfl ?_
          have hf9 := RdDk.keep (w' := (((W9.setCell ⟨w.heap.size, 0, none⟩ (.slice a nn c')).setCell ⟨w.heap.size, 1, none⟩ (.slice p m9 q)).setCell ⟨w.heap.size, 2, none⟩ (.int .i64 fu)).setCell ⟨w.heap.size, 3, none⟩ (.bool de)) E9.out.2.2.2.2.2 (fun k hk _ => by
            rw [Below.heap_setCell _ _ _ _ (by show k ≠ w.heap.size; omega), Below.heap_setCell _ _ _ _ (by show k ≠ w.heap.size; omega), Below.heap_setCell _ _ _ _ (by show k ≠ w.heap.size; omega), Below.heap_setCell _ _ _ _ (by show k ≠ w.heap.size; omega)])
          obtain ⟨a2, p2, n2, c2, m2, q2, d2, S2, L2, F2, fuel2, dead2, e, h1, h2, s1, s2, s3, s4, s5, s6⟩ := hf9
          cases e
          exact ⟨a, p, nn, c', m9, q, d2, S2, L2, F2, fu, de, at_, sq, ap, M, cp, Fp, rfl, h1.rd, h2.rd, ⟨s1, s2, s3, s4, s5, s6⟩, ((((E9.out.2.2.2.1.setOther hBw _).setOther hBw _).setOther hBw _).setOther hBw _).rd, HRP.out, hM3, hc7, hc7', hat, ⟨hs0, by omega⟩, (((E9.out.2.2.1.setCell (by show w.heap.size ≤ w.heap.size; omega) _).setCell (by show w.heap.size ≤ w.heap.size; omega) _).setCell (by show w.heap.size ≤ w.heap.size; omega) _).setCell (by show w.heap.size ≤ w.heap.size; omega) _⟩
    | false =>
      go_upto_region 13 with fail
      obtain ⟨w9, hw9⟩ : ∃ w9, w9 = wB := ⟨_, rfl⟩
      rw [← hw9] at SB ⊢
      clear hw9
      have S9 := SB
      clear SB
      go_wp2_with fail
      refine (l1Once_any g b n c f 20 w9 S9.out.cur.drw (by omega) (by omega)).mono ?_
      rintro e w10 ⟨o3, rfl, hd10, ho10⟩
      have S10 : Hid (DW w w10 B g bx b n c f a p nn c' t.m q t.d t.S t.L t.F A fu de ap M Fp) := S9.out.cur' ho10 hd10
      clear hd10 ho10 S9
      cases o3 with
      | true =>
        go_wp2_with fail
        refine (l1Below_any g b n c f 3 w10 S10.out.cur.drw (by omega) (by omega)).mono ?_
        rintro e w11 ⟨y, rfl, hy0, hy1, hd11, ho11⟩
        have S11 : Hid (DW w w11 B g bx b n c f a p nn c' t.m q t.d t.S t.L t.F A fu de ap M Fp) := S10.out.cur' ho11 hd11
        clear hd11 ho11 S10 hat
        go_upto_region 15 with fail
        obtain ⟨at_, hat0⟩ : ∃ at_ : Int, at_ = 9223372036854775807 - y := ⟨_, rfl⟩
        have hat : 0 ≤ at_ ∧ at_ ≤ 9223372036854775807 := by omega
        rw [← hat0]
        clear hat0
        go_wp2_with fail
        refine (l1Once_any g b n c f 20 w11 S11.out.cur.drw (by omega) (by omega)).mono ?_
        rintro e w12 ⟨o2, rfl, hd12, ho12⟩
        have S12 : Hid (DW w w12 B g bx b n c f a p nn c' t.m q t.d t.S t.L t.F A fu de ap M Fp) := S11.out.cur' ho12 hd12
        clear hd12 ho12 S11
        cases o2 with
        | true =>
          obtain ⟨x0, x1, x2, x3, xf, xl⟩ := S12.out.box.cells
          go_wp2_with fail
          refine (l1Spoil_any B g b n c f a p nn c' t.m q t.d t.S t.L t.F A fu de w12 S12.out.cur S12.out.own (by have := S12.out.bB; have := rowIn.lt S12.out.box; omega) (by omega) (by omega) (by rw [HM0.out]; omega) (fun i hi => by rw [HM0.out] at hi; omega) HFR.out.2.2.2).mono ?_
          rintro e w13 ⟨v13, rfl, hr13, hd13, hk13⟩
          obtain ⟨y1, y2, y3, y4, y5, y6⟩ := S12.out.spoilt hk13
          have HR13 : Hid (RdDk w13 B v13) := hr13
          obtain ⟨a9, p9, nn9, c9, m9, q9, d9, S9, L9, F9, fu9, de9, e, -⟩ := hr13
          subst e
          obtain ⟨W9, hW9⟩ : ∃ W9, W9 = (((w13.setCell ⟨bx, 0, none⟩ (.slice a9 nn9 c9)).setCell ⟨bx, 1, none⟩ (.slice p9 m9 q9)).setCell ⟨bx, 2, none⟩ (.int .i64 fu9)).setCell ⟨bx, 3, none⟩ (.bool de9) := ⟨_, rfl⟩
          have E9 : Hid (DkRow W9 bx (.slice a9 nn9 c9) (.slice p9 m9 q9) fu9 de9 ∧ DkRow W9 w.heap.size (.slice none 0 0) (.slice none 0 0) 0 false ∧ Below w.heap.size w W9 ∧ OwnB W9 B ap M Fp ∧ w.heap.size < bx ∧ RdDk W9 B (.agg #[.slice a9 nn9 c9, .slice p9 m9 q9, .int .i64 fu9, .bool de9])) := by
            have hon : OnlyAt (some ⟨bx, 0, none⟩) w13 W9 := by
              rw [hW9]
              exact ((((OnlyAt.refl _ _).setCell 0 _).setCell 1 _).setCell 2 _).setCell 3 _
            refine ⟨by rw [hW9]; exact dk_set4 y1, rowIn.of_block y2 (hon.block _ (fun x e => by injection e with e; subst e; show bx ≠ w.heap.size; omega)), y3.trans (hon.below (fun x e => by injection e with e; subst e; show w.heap.size ≤ bx; omega)), y4.onlyDk y1 hon, y5, HR13.out.setBx y1 y6 hon⟩
          obtain ⟨z0, z1, z2, z3, zf, zl⟩ := y1.cells
          clear x0 x1 x2 x3 xf xl y1 y2 y3 y4 y5 y6 HR13 hd13 hk13 S12
          go_upto_region 17 with fail
          rw [← hW9]
          clear hW9 z0 z1 z2 z3 zf zl
          obtain ⟨x0, x1, x2, x3, xf, xl⟩ := E9.out.1.cells
          obtain ⟨r0, r1, r2, r3, rf, rl⟩ := E9.out.2.1.cells
          have hne1 : ¬ (bx = w.heap.size) := by have := E9.out.2.2.2.2.1; omega
          have hne2 : ¬ (w.heap.size = bx) := by omega
          go_wp2
          refine bodyPost_ret (v := .tuple #[.agg #[.slice a9 nn9 c9, .slice p9 m9 q9, .int .i64 fu9, .bool de9], .int .i64 at_, .int .i64 sq, .slice ap M cp]) (by simp [results, Try.results14, go_sem, r0, r1, r2, r3]) rfl ?_
          have hf9 := RdDk.keep (w' := (((W9.setCell ⟨w.heap.size, 0, none⟩ (.slice a9 nn9 c9)).setCell ⟨w.heap.size, 1, none⟩ (.slice p9 m9 q9)).setCell ⟨w.heap.size, 2, none⟩ (.int .i64 fu9)).setCell ⟨w.heap.size, 3, none⟩ (.bool de9)) E9.out.2.2.2.2.2 (fun k hk _ => by
            rw [Below.heap_setCell _ _ _ _ (by show k ≠ w.heap.size; omega), Below.heap_setCell _ _ _ _ (by show k ≠ w.heap.size; omega), Below.heap_setCell _ _ _ _ (by show k ≠ w.heap.size; omega), Below.heap_setCell _ _ _ _ (by show k ≠ w.heap.size; omega)])
          obtain ⟨a2, p2, n2, c2, m2, q2, d2, S2, L2, F2, fuel2, dead2, e, h1, h2, s1, s2, s3, s4, s5, s6⟩ := hf9
          cases e
          exact ⟨a9, p9, nn9, c9, m9, q9, d2, S2, L2, F2, fu9, de9, at_, sq, ap, M, cp, Fp, rfl, h1.rd, h2.rd, ⟨s1, s2, s3, s4, s5, s6⟩, ((((E9.out.2.2.2.1.setOther hBw _).setOther hBw _).setOther hBw _).setOther hBw _).rd, HRP.out, hM3, hc7, hc7', hat, ⟨hs0, by omega⟩, (((E9.out.2.2.1.setCell (by show w.heap.size ≤ w.heap.size; omega) _).setCell (by show w.heap.size ≤ w.heap.size; omega) _).setCell (by show w.heap.size ≤ w.heap.size; omega) _).setCell (by show w.heap.size ≤ w.heap.size; omega) _⟩
        | false =>
          have E0 : Hid (DkRow w12 bx (.slice a nn c') (.slice p t.m q) fu de ∧ DkRow w12 w.heap.size (.slice none 0 0) (.slice none 0 0) 0 false ∧ Below w.heap.size w w12 ∧ OwnB w12 B ap M Fp ∧ w.heap.size < bx ∧ RdDk w12 B (.agg #[.slice a nn c', .slice p t.m q, .int .i64 fu, .bool de])) := by
            have h2 := S12.out.bB
            have h3 := S12.out.gw
            have h4 := S12.out.cur.cur
            exact ⟨S12.out.box, S12.out.res, S12.out.bel, S12.out.pay, by omega, S12.out.own.rdDk (by omega) (by rw [HM0.out]; omega) (fun i hi => by rw [HM0.out] at hi; omega) _ _ HFR.out.2.2.2⟩
          clear S12
          go_upto_region 17 with fail
          obtain ⟨W9, hW9⟩ : ∃ W9, W9 = w12 := ⟨_, rfl⟩
          obtain ⟨m9, hm9⟩ : ∃ m9, m9 = t.m := ⟨_, rfl⟩
          rw [← hW9, ← hm9] at E0 ⊢
          clear hW9 hm9
          have E9 := E0
          obtain ⟨x0, x1, x2, x3, xf, xl⟩ := E9.out.1.cells
          obtain ⟨r0, r1, r2, r3, rf, rl⟩ := E9.out.2.1.cells
          have hne1 : ¬ (bx = w.heap.size) := by have := E9.out.2.2.2.2.1; omega
          have hne2 : ¬ (w.heap.size = bx) := by omega
          go_wp2
          refine bodyPost_ret (v := .tuple #[.agg #[.slice a nn c', .slice p m9 q, .int .i64 fu, .bool de], .int .i64 at_, .int .i64 sq, .slice ap M cp]) (by simp [results, Try.results14, go_sem, r0, r1, r2, r3]) rfl ?_
          have hf9 := RdDk.keep (w' := (((W9.setCell ⟨w.heap.size, 0, none⟩ (.slice a nn c')).setCell ⟨w.heap.size, 1, none⟩ (.slice p m9 q)).setCell ⟨w.heap.size, 2, none⟩ (.int .i64 fu)).setCell ⟨w.heap.size, 3, none⟩ (.bool de)) E9.out.2.2.2.2.2 (fun k hk _ => by
            rw [Below.heap_setCell _ _ _ _ (by show k ≠ w.heap.size; omega), Below.heap_setCell _ _ _ _ (by show k ≠ w.heap.size; omega), Below.heap_setCell _ _ _ _ (by show k ≠ w.heap.size; omega), Below.heap_setCell _ _ _ _ (by show k ≠ w.heap.size; omega)])
          obtain ⟨a2, p2, n2, c2, m2, q2, d2, S2, L2, F2, fuel2, dead2, e, h1, h2, s1, s2, s3, s4, s5, s6⟩ := hf9
          cases e
          exact ⟨a, p, nn, c', m9, q, d2, S2, L2, F2, fu, de, at_, sq, ap, M, cp, Fp, rfl, h1.rd, h2.rd, ⟨s1, s2, s3, s4, s5, s6⟩, ((((E9.out.2.2.2.1.setOther hBw _).setOther hBw _).setOther hBw _).setOther hBw _).rd, HRP.out, hM3, hc7, hc7', hat, ⟨hs0, by omega⟩, (((E9.out.2.2.1.setCell (by show w.heap.size ≤ w.heap.size; omega) _).setCell (by show w.heap.size ≤ w.heap.size; omega) _).setCell (by show w.heap.size ≤ w.heap.size; omega) _).setCell (by show w.heap.size ≤ w.heap.size; omega) _⟩
      | false =>
        go_upto_region 15 with fail
        obtain ⟨w11, hw11⟩ : ∃ w11, w11 = w10 := ⟨_, rfl⟩
        rw [← hw11] at S10 ⊢
        clear hw11
        have S11 := S10
        clear S10
        go_wp2_with fail
        refine (l1Once_any g b n c f 20 w11 S11.out.cur.drw (by omega) (by omega)).mono ?_
        rintro e w12 ⟨o2, rfl, hd12, ho12⟩
        have S12 : Hid (DW w w12 B g bx b n c f a p nn c' t.m q t.d t.S t.L t.F A fu de ap M Fp) := S11.out.cur' ho12 hd12
        clear hd12 ho12 S11
        cases o2 with
        | true =>
          obtain ⟨x0, x1, x2, x3, xf, xl⟩ := S12.out.box.cells
          go_wp2_with fail
          refine (l1Spoil_any B g b n c f a p nn c' t.m q t.d t.S t.L t.F A fu de w12 S12.out.cur S12.out.own (by have := S12.out.bB; have := rowIn.lt S12.out.box; omega) (by omega) (by omega) (by rw [HM0.out]; omega) (fun i hi => by rw [HM0.out] at hi; omega) HFR.out.2.2.2).mono ?_
          rintro e w13 ⟨v13, rfl, hr13, hd13, hk13⟩
          obtain ⟨y1, y2, y3, y4, y5, y6⟩ := S12.out.spoilt hk13
          have HR13 : Hid (RdDk w13 B v13) := hr13
          obtain ⟨a9, p9, nn9, c9, m9, q9, d9, S9, L9, F9, fu9, de9, e, -⟩ := hr13
          subst e
          obtain ⟨W9, hW9⟩ : ∃ W9, W9 = (((w13.setCell ⟨bx, 0, none⟩ (.slice a9 nn9 c9)).setCell ⟨bx, 1, none⟩ (.slice p9 m9 q9)).setCell ⟨bx, 2, none⟩ (.int .i64 fu9)).setCell ⟨bx, 3, none⟩ (.bool de9) := ⟨_, rfl⟩
          have E9 : Hid (DkRow W9 bx (.slice a9 nn9 c9) (.slice p9 m9 q9) fu9 de9 ∧ DkRow W9 w.heap.size (.slice none 0 0) (.slice none 0 0) 0 false ∧ Below w.heap.size w W9 ∧ OwnB W9 B ap M Fp ∧ w.heap.size < bx ∧ RdDk W9 B (.agg #[.slice a9 nn9 c9, .slice p9 m9 q9, .int .i64 fu9, .bool de9])) := by
            have hon : OnlyAt (some ⟨bx, 0, none⟩) w13 W9 := by
              rw [hW9]
              exact ((((OnlyAt.refl _ _).setCell 0 _).setCell 1 _).setCell 2 _).setCell 3 _
            refine ⟨by rw [hW9]; exact dk_set4 y1, rowIn.of_block y2 (hon.block _ (fun x e => by injection e with e; subst e; show bx ≠ w.heap.size; omega)), y3.trans (hon.below (fun x e => by injection e with e; subst e; show w.heap.size ≤ bx; omega)), y4.onlyDk y1 hon, y5, HR13.out.setBx y1 y6 hon⟩
          obtain ⟨z0, z1, z2, z3, zf, zl⟩ := y1.cells
          clear x0 x1 x2 x3 xf xl y1 y2 y3 y4 y5 y6 HR13 hd13 hk13 S12
          go_upto_region 17 with fail
          rw [← hW9]
          clear hW9 z0 z1 z2 z3 zf zl
          obtain ⟨x0, x1, x2, x3, xf, xl⟩ := E9.out.1.cells
          obtain ⟨r0, r1, r2, r3, rf, rl⟩ := E9.out.2.1.cells
          have hne1 : ¬ (bx = w.heap.size) := by have := E9.out.2.2.2.2.1; omega
          have hne2 : ¬ (w.heap.size = bx) := by omega
          go_wp2
          refine bodyPost_ret (v := .tuple #[.agg #[.slice a9 nn9 c9, .slice p9 m9 q9, .int .i64 fu9, .bool de9], .int .i64 at_, .int .i64 sq, .slice ap M cp]) (by simp [results, Try.results14, go_sem, r0, r1, r2, r3]) rfl ?_
          have hf9 := RdDk.keep (w' := (((W9.setCell ⟨w.heap.size, 0, none⟩ (.slice a9 nn9 c9)).setCell ⟨w.heap.size, 1, none⟩ (.slice p9 m9 q9)).setCell ⟨w.heap.size, 2, none⟩ (.int .i64 fu9)).setCell ⟨w.heap.size, 3, none⟩ (.bool de9)) E9.out.2.2.2.2.2 (fun k hk _ => by
            rw [Below.heap_setCell _ _ _ _ (by show k ≠ w.heap.size; omega), Below.heap_setCell _ _ _ _ (by show k ≠ w.heap.size; omega), Below.heap_setCell _ _ _ _ (by show k ≠ w.heap.size; omega), Below.heap_setCell _ _ _ _ (by show k ≠ w.heap.size; omega)])
          obtain ⟨a2, p2, n2, c2, m2, q2, d2, S2, L2, F2, fuel2, dead2, e, h1, h2, s1, s2, s3, s4, s5, s6⟩ := hf9
          cases e
          exact ⟨a9, p9, nn9, c9, m9, q9, d2, S2, L2, F2, fu9, de9, at_, sq, ap, M, cp, Fp, rfl, h1.rd, h2.rd, ⟨s1, s2, s3, s4, s5, s6⟩, ((((E9.out.2.2.2.1.setOther hBw _).setOther hBw _).setOther hBw _).setOther hBw _).rd, HRP.out, hM3, hc7, hc7', hat, ⟨hs0, by omega⟩, (((E9.out.2.2.1.setCell (by show w.heap.size ≤ w.heap.size; omega) _).setCell (by show w.heap.size ≤ w.heap.size; omega) _).setCell (by show w.heap.size ≤ w.heap.size; omega) _).setCell (by show w.heap.size ≤ w.heap.size; omega) _⟩
        | false =>
          have E0 : Hid (DkRow w12 bx (.slice a nn c') (.slice p t.m q) fu de ∧ DkRow w12 w.heap.size (.slice none 0 0) (.slice none 0 0) 0 false ∧ Below w.heap.size w w12 ∧ OwnB w12 B ap M Fp ∧ w.heap.size < bx ∧ RdDk w12 B (.agg #[.slice a nn c', .slice p t.m q, .int .i64 fu, .bool de])) := by
            have h2 := S12.out.bB
            have h3 := S12.out.gw
            have h4 := S12.out.cur.cur
            exact ⟨S12.out.box, S12.out.res, S12.out.bel, S12.out.pay, by omega, S12.out.own.rdDk (by omega) (by rw [HM0.out]; omega) (fun i hi => by rw [HM0.out] at hi; omega) _ _ HFR.out.2.2.2⟩
          clear S12
          go_upto_region 17 with fail
          obtain ⟨W9, hW9⟩ : ∃ W9, W9 = w12 := ⟨_, rfl⟩
          obtain ⟨m9, hm9⟩ : ∃ m9, m9 = t.m := ⟨_, rfl⟩
          rw [← hW9, ← hm9] at E0 ⊢
          clear hW9 hm9
          have E9 := E0
          obtain ⟨x0, x1, x2, x3, xf, xl⟩ := E9.out.1.cells
          obtain ⟨r0, r1, r2, r3, rf, rl⟩ := E9.out.2.1.cells
          have hne1 : ¬ (bx = w.heap.size) := by have := E9.out.2.2.2.2.1; omega
          have hne2 : ¬ (w.heap.size = bx) := by omega
          go_wp2
          refine bodyPost_ret (v := .tuple #[.agg #[.slice a nn c', .slice p m9 q, .int .i64 fu, .bool de], .int .i64 at_, .int .i64 sq, .slice ap M cp]) (by simp [results, Try.results14, go_sem, r0, r1, r2, r3]) rfl ?_
          have hf9 := RdDk.keep (w' := (((W9.setCell ⟨w.heap.size, 0, none⟩ (.slice a nn c')).setCell ⟨w.heap.size, 1, none⟩ (.slice p m9 q)).setCell ⟨w.heap.size, 2, none⟩ (.int .i64 fu)).setCell ⟨w.heap.size, 3, none⟩ (.bool de)) E9.out.2.2.2.2.2 (fun k hk _ => by
            rw [Below.heap_setCell _ _ _ _ (by show k ≠ w.heap.size; omega), Below.heap_setCell _ _ _ _ (by show k ≠ w.heap.size; omega), Below.heap_setCell _ _ _ _ (by show k ≠ w.heap.size; omega), Below.heap_setCell _ _ _ _ (by show k ≠ w.heap.size; omega)])
          obtain ⟨a2, p2, n2, c2, m2, q2, d2, S2, L2, F2, fuel2, dead2, e, h1, h2, s1, s2, s3, s4, s5, s6⟩ := hf9
          cases e
          exact ⟨a, p, nn, c', m9, q, d2, S2, L2, F2, fu, de, at_, sq, ap, M, cp, Fp, rfl, h1.rd, h2.rd, ⟨s1, s2, s3, s4, s5, s6⟩, ((((E9.out.2.2.2.1.setOther hBw _).setOther hBw _).setOther hBw _).setOther hBw _).rd, HRP.out, hM3, hc7, hc7', hat, ⟨hs0, by omega⟩, (((E9.out.2.2.1.setCell (by show w.heap.size ≤ w.heap.size; omega) _).setCell (by show w.heap.size ≤ w.heap.size; omega) _).setCell (by show w.heap.size ≤ w.heap.size; omega) _).setCell (by show w.heap.size ≤ w.heap.size; omega) _⟩
  · have hq4 : (k == 4) = true := by simp; omega
    have hq5 : ¬ k < 4 := by omega
    obtain ⟨wA, hwA⟩ : ∃ wA, wA = w8.setCell ⟨bx, 3, none⟩ (.bool true) := ⟨_, rfl⟩
    have SA : Hid (DW w wA B g bx b n c f a p nn c' t.m q t.d t.S t.L t.F A t.fuel true ap M Fp) := by
      rw [hwA]
      exact S8.out.set 3 _ (dk_set3 S8.out.box true)
    clear hk4
    go_upto_region 11 with fail
    rw [← hwA]
    clear hwA x0 x1 x2 x3 xf xl S8 hq4 hq5
    obtain ⟨fu, hfu⟩ : ∃ fu, fu = t.fuel := ⟨_, rfl⟩
    obtain ⟨de, hde⟩ : ∃ de, de = true := ⟨_, rfl⟩
    rw [← hfu, ← hde] at SA
    clear hfu hde
    go_wp2_with fail
    refine (l1Once_any g b n c f 40 wA SA.out.cur.drw (by omega) (by omega)).mono ?_
    rintro e wB ⟨o4, rfl, hdB, hoB⟩
    have SB : Hid (DW w wB B g bx b n c f a p nn c' t.m q t.d t.S t.L t.F A fu de ap M Fp) := SA.out.cur' hoB hdB
    clear hdB hoB SA
    cases o4 with
    | true =>
      go_wp2_with fail
      refine (l1Below_any g b n c f 2 wB SB.out.cur.drw (by omega) (by omega)).mono ?_
      rintro e wC ⟨y, rfl, hy0, hy1, hdC, hoC⟩
      have SC : Hid (DW w wC B g bx b n c f a p nn c' t.m q t.d t.S t.L t.F A fu de ap M Fp) := SB.out.cur' hoC hdC
      clear hdC hoC SB HRP hM3 hc7 hc7'
      obtain ⟨M, hM⟩ : ∃ M : Nat, 30000 + y = (M : Int) := ⟨(30000 + y).toNat, by omega⟩
      have HM : Hid (30000 + y = (M : Int)) := hM
      have hM3 : M ≤ 30001 := by omega
      clear hM
      go_wp2_with fail
      refine (zeros_cat (30000 + y) M wC HM.out (by omega)).mono ?_
      rintro e w9 ⟨ap, cp, rfl, hoD, hbD, hc7, hc7'⟩
      obtain ⟨Fp, hFp⟩ : ∃ Fp : Nat → Int, Fp = fun _ => 0 := ⟨_, rfl⟩
      have HRP : Hid (∀ j, 0 ≤ Fp j ∧ Fp j < 256) := fun j => by rw [hFp]; exact ⟨Int.le_refl 0, (by decide : (0 : Int) < 256)⟩
      rw [← hFp] at hoD
      have S9 : Hid (DW w w9 B g bx b n c f a p nn c' t.m q t.d t.S t.L t.F A fu de ap M Fp) := (SC.out.below hbD).newPay (hoD.mono (by have := SC.out.bB; have := rowIn.lt SC.out.box; omega))
      clear hoD hbD hFp SC HM
      go_upto_region 13 with fail
      go_wp2_with fail
      refine (l1Once_any g b n c f 20 w9 S9.out.cur.drw (by omega) (by omega)).mono ?_
      rintro e w10 ⟨o3, rfl, hd10, ho10⟩
      have S10 : Hid (DW w w10 B g bx b n c f a p nn c' t.m q t.d t.S t.L t.F A fu de ap M Fp) := S9.out.cur' ho10 hd10
      clear hd10 ho10 S9
      cases o3 with
      | true =>
        go_wp2_with fail
        refine (l1Below_any g b n c f 3 w10 S10.out.cur.drw (by omega) (by omega)).mono ?_
        rintro e w11 ⟨y, rfl, hy0, hy1, hd11, ho11⟩
        have S11 : Hid (DW w w11 B g bx b n c f a p nn c' t.m q t.d t.S t.L t.F A fu de ap M Fp) := S10.out.cur' ho11 hd11
        clear hd11 ho11 S10 hat
        go_upto_region 15 with fail
        obtain ⟨at_, hat0⟩ : ∃ at_ : Int, at_ = 9223372036854775807 - y := ⟨_, rfl⟩
        have hat : 0 ≤ at_ ∧ at_ ≤ 9223372036854775807 := by omega
        rw [← hat0]
        clear hat0
        go_wp2_with fail
        refine (l1Once_any g b n c f 20 w11 S11.out.cur.drw (by omega) (by omega)).mono ?_
        rintro e w12 ⟨o2, rfl, hd12, ho12⟩
        have S12 : Hid (DW w w12 B g bx b n c f a p nn c' t.m q t.d t.S t.L t.F A fu de ap M Fp) := S11.out.cur' ho12 hd12
        clear hd12 ho12 S11
        cases o2 with
        | true =>
          obtain ⟨x0, x1, x2, x3, xf, xl⟩ := S12.out.box.cells
          go_wp2_with fail
          refine (l1Spoil_any B g b n c f a p nn c' t.m q t.d t.S t.L t.F A fu de w12 S12.out.cur S12.out.own (by have := S12.out.bB; have := rowIn.lt S12.out.box; omega) (by omega) (by omega) (by rw [HM0.out]; omega) (fun i hi => by rw [HM0.out] at hi; omega) HFR.out.2.2.2).mono ?_
          rintro e w13 ⟨v13, rfl, hr13, hd13, hk13⟩
          obtain ⟨y1, y2, y3, y4, y5, y6⟩ := S12.out.spoilt hk13
          have HR13 : Hid (RdDk w13 B v13) := hr13
          obtain ⟨a9, p9, nn9, c9, m9, q9, d9, S9, L9, F9, fu9, de9, e, -⟩ := hr13
          subst e
          obtain ⟨W9, hW9⟩ : ∃ W9, W9 = (((w13.setCell ⟨bx, 0, none⟩ (.slice a9 nn9 c9)).setCell ⟨bx, 1, none⟩ (.slice p9 m9 q9)).setCell ⟨bx, 2, none⟩ (.int .i64 fu9)).setCell ⟨bx, 3, none⟩ (.bool de9) := ⟨_, rfl⟩
          have E9 : Hid (DkRow W9 bx (.slice a9 nn9 c9) (.slice p9 m9 q9) fu9 de9 ∧ DkRow W9 w.heap.size (.slice none 0 0) (.slice none 0 0) 0 false ∧ Below w.heap.size w W9 ∧ OwnB W9 B ap M Fp ∧ w.heap.size < bx ∧ RdDk W9 B (.agg #[.slice a9 nn9 c9, .slice p9 m9 q9, .int .i64 fu9, .bool de9])) := by
            have hon : OnlyAt (some ⟨bx, 0, none⟩) w13 W9 := by
              rw [hW9]
              exact ((((OnlyAt.refl _ _).setCell 0 _).setCell 1 _).setCell 2 _).setCell 3 _
            refine ⟨by rw [hW9]; exact dk_set4 y1, rowIn.of_block y2 (hon.block _ (fun x e => by injection e with e; subst e; show bx ≠ w.heap.size; omega)), y3.trans (hon.below (fun x e => by injection e with e; subst e; show w.heap.size ≤ bx; omega)), y4.onlyDk y1 hon, y5, HR13.out.setBx y1 y6 hon⟩
          obtain ⟨z0, z1, z2, z3, zf, zl⟩ := y1.cells
          clear x0 x1 x2 x3 xf xl y1 y2 y3 y4 y5 y6 HR13 hd13 hk13 S12
          go_upto_region 17 with fail
          rw [← hW9]
          clear hW9 z0 z1 z2 z3 zf zl
          obtain ⟨x0, x1, x2, x3, xf, xl⟩ := E9.out.1.cells
          obtain ⟨r0, r1, r2, r3, rf, rl⟩ := E9.out.2.1.cells
          have hne1 : ¬ (bx = w.heap.size) := by have := E9.out.2.2.2.2.1; omega
          have hne2 : ¬ (w.heap.size = bx) := by omega
          go_wp2
          refine bodyPost_ret (v := .tuple #[.agg #[.slice a9 nn9 c9, .slice p9 m9 q9, .int .i64 fu9, .bool de9], .int .i64 at_, .int .i64 sq, .slice ap M cp]) (by simp [results, Try.results14, go_sem, r0, r1, r2, r3]) rfl ?_
          have hf9 := RdDk.keep (w' := (((W9.setCell ⟨w.heap.size, 0, none⟩ (.slice a9 nn9 c9)).setCell ⟨w.heap.size, 1, none⟩ (.slice p9 m9 q9)).setCell ⟨w.heap.size, 2, none⟩ (.int .i64 fu9)).setCell ⟨w.heap.size, 3, none⟩ (.bool de9)) E9.out.2.2.2.2.2 (fun k hk _ => by
            rw [Below.heap_setCell _ _ _ _ (by show k ≠ w.heap.size; omega), Below.heap_setCell _ _ _ _ (by show k ≠ w.heap.size; omega), Below.heap_setCell _ _ _ _ (by show k ≠ w.heap.size; omega), Below.heap_setCell _ _ _ _ (by show k ≠ w.heap.size; omega)])
          obtain ⟨a2, p2, n2, c2, m2, q2, d2, S2, L2, F2, fuel2, dead2, e, h1, h2, s1, s2, s3, s4, s5, s6⟩ := hf9
          cases e
          exact ⟨a9, p9, nn9, c9, m9, q9, d2, S2, L2, F2, fu9, de9, at_, sq, ap, M, cp, Fp, rfl, h1.rd, h2.rd, ⟨s1, s2, s3, s4, s5, s6⟩, ((((E9.out.2.2.2.1.setOther hBw _).setOther hBw _).setOther hBw _).setOther hBw _).rd, HRP.out, hM3, hc7, hc7', hat, ⟨hs0, by omega⟩, (((E9.out.2.2.1.setCell (by show w.heap.size ≤ w.heap.size; omega) _).setCell (by show w.heap.size ≤ w.heap.size; omega) _).setCell (by show w.heap.size ≤ w.heap.size; omega) _).setCell (by show w.heap.size ≤ w.heap.size; omega) _⟩
        | false =>
          have E0 : Hid (DkRow w12 bx (.slice a nn c') (.slice p t.m q) fu de ∧ DkRow w12 w.heap.size (.slice none 0 0) (.slice none 0 0) 0 false ∧ Below w.heap.size w w12 ∧ OwnB w12 B ap M Fp ∧ w.heap.size < bx ∧ RdDk w12 B (.agg #[.slice a nn c', .slice p t.m q, .int .i64 fu, .bool de])) := by
            have h2 := S12.out.bB
            have h3 := S12.out.gw
            have h4 := S12.out.cur.cur
            exact ⟨S12.out.box, S12.out.res, S12.out.bel, S12.out.pay, by omega, S12.out.own.rdDk (by omega) (by rw [HM0.out]; omega) (fun i hi => by rw [HM0.out] at hi; omega) _ _ HFR.out.2.2.2⟩
          clear S12
          go_upto_region 17 with fail
          obtain ⟨W9, hW9⟩ : ∃ W9, W9 = w12 := ⟨_, rfl⟩
          obtain ⟨m9, hm9⟩ : ∃ m9, m9 = t.m := ⟨_, rfl⟩
          rw [← hW9, ← hm9] at E0 ⊢
          clear hW9 hm9
          have E9 := E0
          obtain ⟨x0, x1, x2, x3, xf, xl⟩ := E9.out.1.cells
          obtain ⟨r0, r1, r2, r3, rf, rl⟩ := E9.out.2.1.cells
          have hne1 : ¬ (bx = w.heap.size) := by have := E9.out.2.2.2.2.1; omega
          have hne2 : ¬ (w.heap.size = bx) := by omega
          go_wp2
          refine bodyPost_ret (v := .tuple #[.agg #[.slice a nn c', .slice p m9 q, .int .i64 fu, .bool de], .int .i64 at_, .int .i64 sq, .slice ap M cp]) (by simp [results, Try.results14, go_sem, r0, r1, r2, r3]) rfl ?_
          have hf9 := RdDk.keep (w' := (((W9.setCell ⟨w.heap.size, 0, none⟩ (.slice a nn c')).setCell ⟨w.heap.size, 1, none⟩ (.slice p m9 q)).setCell ⟨w.heap.size, 2, none⟩ (.int .i64 fu)).setCell ⟨w.heap.size, 3, none⟩ (.bool de)) E9.out.2.2.2.2.2 (fun k hk _ => by
            rw [Below.heap_setCell _ _ _ _ (by show k ≠ w.heap.size; omega), Below.heap_setCell _ _ _ _ (by show k ≠ w.heap.size; omega), Below.heap_setCell _ _ _ _ (by show k ≠ w.heap.size; omega), Below.heap_setCell _ _ _ _ (by show k ≠ w.heap.size; omega)])
          obtain ⟨a2, p2, n2, c2, m2, q2, d2, S2, L2, F2, fuel2, dead2, e, h1, h2, s1, s2, s3, s4, s5, s6⟩ := hf9
          cases e
          exact ⟨a, p, nn, c', m9, q, d2, S2, L2, F2, fu, de, at_, sq, ap, M, cp, Fp, rfl, h1.rd, h2.rd, ⟨s1, s2, s3, s4, s5, s6⟩, ((((E9.out.2.2.2.1.setOther hBw _).setOther hBw _).setOther hBw _).setOther hBw _).rd, HRP.out, hM3, hc7, hc7', hat, ⟨hs0, by omega⟩, (((E9.out.2.2.1.setCell (by show w.heap.size ≤ w.heap.size; omega) _).setCell (by show w.heap.size ≤ w.heap.size; omega) _).setCell (by show w.heap.size ≤ w.heap.size; omega) _).setCell (by show w.heap.size ≤ w.heap.size; omega) _⟩
      | false =>
        go_upto_region 15 with fail
        obtain ⟨w11, hw11⟩ : ∃ w11, w11 = w10 := ⟨_, rfl⟩
        rw [← hw11] at S10 ⊢
        clear hw11
        have S11 := S10
        clear S10
        go_wp2_with fail
        refine (l1Once_any g b n c f 20 w11 S11.out.cur.drw (by omega) (by omega)).mono ?_
        rintro e w12 ⟨o2, rfl, hd12, ho12⟩
        have S12 : Hid (DW w w12 B g bx b n c f a p nn c' t.m q t.d t.S t.L t.F A fu de ap M Fp) := S11.out.cur' ho12 hd12
        clear hd12 ho12 S11
        cases o2 with
        | true =>
          obtain ⟨x0, x1, x2, x3, xf, xl⟩ := S12.out.box.cells
          go_wp2_with fail
          refine (l1Spoil_any B g b n c f a p nn c' t.m q t.d t.S t.L t.F A fu de w12 S12.out.cur S12.out.own (by have := S12.out.bB; have := rowIn.lt S12.out.box; omega) (by omega) (by omega) (by rw [HM0.out]; omega) (fun i hi => by rw [HM0.out] at hi; omega) HFR.out.2.2.2).mono ?_
          rintro e w13 ⟨v13, rfl, hr13, hd13, hk13⟩
          obtain ⟨y1, y2, y3, y4, y5, y6⟩ := S12.out.spoilt hk13
          have HR13 : Hid (RdDk w13 B v13) := hr13
          obtain ⟨a9, p9, nn9, c9, m9, q9, d9, S9, L9, F9, fu9, de9, e, -⟩ := hr13
          subst e
          obtain ⟨W9, hW9⟩ : ∃ W9, W9 = (((w13.setCell ⟨bx, 0, none⟩ (.slice a9 nn9 c9)).setCell ⟨bx, 1, none⟩ (.slice p9 m9 q9)).setCell ⟨bx, 2, none⟩ (.int .i64 fu9)).setCell ⟨bx, 3, none⟩ (.bool de9) := ⟨_, rfl⟩
          have E9 : Hid (DkRow W9 bx (.slice a9 nn9 c9) (.slice p9 m9 q9) fu9 de9 ∧ DkRow W9 w.heap.size (.slice none 0 0) (.slice none 0 0) 0 false ∧ Below w.heap.size w W9 ∧ OwnB W9 B ap M Fp ∧ w.heap.size < bx ∧ RdDk W9 B (.agg #[.slice a9 nn9 c9, .slice p9 m9 q9, .int .i64 fu9, .bool de9])) := by
            have hon : OnlyAt (some ⟨bx, 0, none⟩) w13 W9 := by
              rw [hW9]
              exact ((((OnlyAt.refl _ _).setCell 0 _).setCell 1 _).setCell 2 _).setCell 3 _
            refine ⟨by rw [hW9]; exact dk_set4 y1, rowIn.of_block y2 (hon.block _ (fun x e => by injection e with e; subst e; show bx ≠ w.heap.size; omega)), y3.trans (hon.below (fun x e => by injection e with e; subst e; show w.heap.size ≤ bx; omega)), y4.onlyDk y1 hon, y5, HR13.out.setBx y1 y6 hon⟩
          obtain ⟨z0, z1, z2, z3, zf, zl⟩ := y1.cells
          clear x0 x1 x2 x3 xf xl y1 y2 y3 y4 y5 y6 HR13 hd13 hk13 S12
          go_upto_region 17 with fail
          rw [← hW9]
          clear hW9 z0 z1 z2 z3 zf zl
          obtain ⟨x0, x1, x2, x3, xf, xl⟩ := E9.out.1.cells
          obtain ⟨r0, r1, r2, r3, rf, rl⟩ := E9.out.2.1.cells
          have hne1 : ¬ (bx = w.heap.size) := by have := E9.out.2.2.2.2.1; omega
          have hne2 : ¬ (w.heap.size = bx) := by omega
          go_wp2
          refine bodyPost_ret (v := .tuple #[.agg #[.slice a9 nn9 c9, .slice p9 m9 q9, .int .i64 fu9, .bool de9], .int .i64 at_, .int .i64 sq, .slice ap M cp]) (by simp [results, Try.results14, go_sem, r0, r1, r2, r3]) rfl ?_
          have hf9 := RdDk.keep (w' := (((W9.setCell ⟨w.heap.size, 0, none⟩ (.slice a9 nn9 c9)).setCell ⟨w.heap.size, 1, none⟩ (.slice p9 m9 q9)).setCell ⟨w.heap.size, 2, none⟩ (.int .i64 fu9)).setCell ⟨w.heap.size, 3, none⟩ (.bool de9)) E9.out.2.2.2.2.2 (fun k hk _ => by
            rw [Below.heap_setCell _ _ _ _ (by show k ≠ w.heap.size; omega), Below.heap_setCell _ _ _ _ (by show k ≠ w.heap.size; omega), Below.heap_setCell _ _ _ _ (by show k ≠ w.heap.size; omega), Below.heap_setCell _ _ _ _ (by show k ≠ w.heap.size; omega)])
          obtain ⟨a2, p2, n2, c2, m2, q2, d2, S2, L2, F2, fuel2, dead2, e, h1, h2, s1, s2, s3, s4, s5, s6⟩ := hf9
          cases e
          exact ⟨a9, p9, nn9, c9, m9, q9, d2, S2, L2, F2, fu9, de9, at_, sq, ap, M, cp, Fp, rfl, h1.rd, h2.rd, ⟨s1, s2, s3, s4, s5, s6⟩, ((((E9.out.2.2.2.1.setOther hBw _).setOther hBw _).setOther hBw _).setOther hBw _).rd, HRP.out, hM3, hc7, hc7', hat, ⟨hs0, by omega⟩, (((E9.out.2.2.1.setCell (by show w.heap.size ≤ w.heap.size; omega) _).setCell (by show w.heap.size ≤ w.heap.size; omega) _).setCell (by show w.heap.size ≤ w.heap.size; omega) _).setCell (by show w.heap.size ≤ w.heap.size; omega) _⟩
        | false =>
          have E0 : Hid (DkRow w12 bx (.slice a nn c') (.slice p t.m q) fu de ∧ DkRow w12 w.heap.size (.slice none 0 0) (.slice none 0 0) 0 false ∧ Below w.heap.size w w12 ∧ OwnB w12 B ap M Fp ∧ w.heap.size < bx ∧ RdDk w12 B (.agg #[.slice a nn c', .slice p t.m q, .int .i64 fu, .bool de])) := by
            have h2 := S12.out.bB
            have h3 := S12.out.gw
            have h4 := S12.out.cur.cur
            exact ⟨S12.out.box, S12.out.res, S12.out.bel, S12.out.pay, by omega, S12.out.own.rdDk (by omega) (by rw [HM0.out]; omega) (fun i hi => by rw [HM0.out] at hi; omega) _ _ HFR.out.2.2.2⟩
          clear S12
          go_upto_region 17 with fail
          obtain ⟨W9, hW9⟩ : ∃ W9, W9 = w12 := ⟨_, rfl⟩
          obtain ⟨m9, hm9⟩ : ∃ m9, m9 = t.m := ⟨_, rfl⟩
          rw [← hW9, ← hm9] at E0 ⊢
          clear hW9 hm9
          have E9 := E0
          obtain ⟨x0, x1, x2, x3, xf, xl⟩ := E9.out.1.cells
          obtain ⟨r0, r1, r2, r3, rf, rl⟩ := E9.out.2.1.cells
          have hne1 : ¬ (bx = w.heap.size) := by have := E9.out.2.2.2.2.1; omega
          have hne2 : ¬ (w.heap.size = bx) := by omega
          go_wp2
          refine bodyPost_ret (v := .tuple #[.agg #[.slice a nn c', .slice p m9 q, .int .i64 fu, .bool de], .int .i64 at_, .int .i64 sq, .slice ap M cp]) (by simp [results, Try.results14, go_sem, r0, r1, r2, r3]) rfl ?_
          have hf9 := RdDk.keep (w' := (((W9.setCell ⟨w.heap.size, 0, none⟩ (.slice a nn c')).setCell ⟨w.heap.size, 1, none⟩ (.slice p m9 q)).setCell ⟨w.heap.size, 2, none⟩ (.int .i64 fu)).setCell ⟨w.heap.size, 3, none⟩ (.bool de)) E9.out.2.2.2.2.2 (fun k hk _ => by
            rw [Below.heap_setCell _ _ _ _ (by show k ≠ w.heap.size; omega), Below.heap_setCell _ _ _ _ (by show k ≠ w.heap.size; omega), Below.heap_setCell _ _ _ _ (by show k ≠ w.heap.size; omega), Below.heap_setCell _ _ _ _ (by show k ≠ w.heap.size; omega)])
          obtain ⟨a2, p2, n2, c2, m2, q2, d2, S2, L2, F2, fuel2, dead2, e, h1, h2, s1, s2, s3, s4, s5, s6⟩ := hf9
          cases e
          exact ⟨a, p, nn, c', m9, q, d2, S2, L2, F2, fu, de, at_, sq, ap, M, cp, Fp, rfl, h1.rd, h2.rd, ⟨s1, s2, s3, s4, s5, s6⟩, ((((E9.out.2.2.2.1.setOther hBw _).setOther hBw _).setOther hBw _).setOther hBw _).rd, HRP.out, hM3, hc7, hc7', hat, ⟨hs0, by omega⟩, (((E9.out.2.2.1.setCell (by show w.heap.size ≤ w.heap.size; omega) _).setCell (by show w.heap.size ≤ w.heap.size; omega) _).setCell (by show w.heap.size ≤ w.heap.size; omega) _).setCell (by show w.heap.size ≤ w.heap.size; omega) _⟩
    | false =>
      go_upto_region 13 with fail
      obtain ⟨w9, hw9⟩ : ∃ w9, w9 = wB := ⟨_, rfl⟩
      rw [← hw9] at SB ⊢
      clear hw9
      have S9 := SB
      clear SB
      go_wp2_with fail
      refine (l1Once_any g b n c f 20 w9 S9.out.cur.drw (by omega) (by omega)).mono ?_
      rintro e w10 ⟨o3, rfl, hd10, ho10⟩
      have S10 : Hid (DW w w10 B g bx b n c f a p nn c' t.m q t.d t.S t.L t.F A fu de ap M Fp) := S9.out.cur' ho10 hd10
      clear hd10 ho10 S9
      cases o3 with
      | true =>
        go_wp2_with fail
        refine (l1Below_any g b n c f 3 w10 S10.out.cur.drw (by omega) (by omega)).mono ?_
        rintro e w11 ⟨y, rfl, hy0, hy1, hd11, ho11⟩
        have S11 : Hid (DW w w11 B g bx b n c f a p nn c' t.m q t.d t.S t.L t.F A fu de ap M Fp) := S10.out.cur' ho11 hd11
        clear hd11 ho11 S10 hat
        go_upto_region 15 with fail
        obtain ⟨at_, hat0⟩ : ∃ at_ : Int, at_ = 9223372036854775807 - y := ⟨_, rfl⟩
        have hat : 0 ≤ at_ ∧ at_ ≤ 9223372036854775807 := by omega
        rw [← hat0]
        clear hat0
        go_wp2_with fail
        refine (l1Once_any g b n c f 20 w11 S11.out.cur.drw (by omega) (by omega)).mono ?_
        rintro e w12 ⟨o2, rfl, hd12, ho12⟩
        have S12 : Hid (DW w w12 B g bx b n c f a p nn c' t.m q t.d t.S t.L t.F A fu de ap M Fp) := S11.out.cur' ho12 hd12
        clear hd12 ho12 S11
        cases o2 with
        | true =>
          obtain ⟨x0, x1, x2, x3, xf, xl⟩ := S12.out.box.cells
          go_wp2_with fail
          refine (l1Spoil_any B g b n c f a p nn c' t.m q t.d t.S t.L t.F A fu de w12 S12.out.cur S12.out.own (by have := S12.out.bB; have := rowIn.lt S12.out.box; omega) (by omega) (by omega) (by rw [HM0.out]; omega) (fun i hi => by rw [HM0.out] at hi; omega) HFR.out.2.2.2).mono ?_
          rintro e w13 ⟨v13, rfl, hr13, hd13, hk13⟩
          obtain ⟨y1, y2, y3, y4, y5, y6⟩ := S12.out.spoilt hk13
          have HR13 : Hid (RdDk w13 B v13) := hr13
          obtain ⟨a9, p9, nn9, c9, m9, q9, d9, S9, L9, F9, fu9, de9, e, -⟩ := hr13
          subst e
          obtain ⟨W9, hW9⟩ : ∃ W9, W9 = (((w13.setCell ⟨bx, 0, none⟩ (.slice a9 nn9 c9)).setCell ⟨bx, 1, none⟩ (.slice p9 m9 q9)).setCell ⟨bx, 2, none⟩ (.int .i64 fu9)).setCell ⟨bx, 3, none⟩ (.bool de9) := ⟨_, rfl⟩
          have E9 : Hid (DkRow W9 bx (.slice a9 nn9 c9) (.slice p9 m9 q9) fu9 de9 ∧ DkRow W9 w.heap.size (.slice none 0 0) (.slice none 0 0) 0 false ∧ Below w.heap.size w W9 ∧ OwnB W9 B ap M Fp ∧ w.heap.size < bx ∧ RdDk W9 B (.agg #[.slice a9 nn9 c9, .slice p9 m9 q9, .int .i64 fu9, .bool de9])) := by
            have hon : OnlyAt (some ⟨bx, 0, none⟩) w13 W9 := by
              rw [hW9]
              exact ((((OnlyAt.refl _ _).setCell 0 _).setCell 1 _).setCell 2 _).setCell 3 _
            refine ⟨by rw [hW9]; exact dk_set4 y1, rowIn.of_block y2 (hon.block _ (fun x e => by injection e with e; subst e; show bx ≠ w.heap.size; omega)), y3.trans (hon.below (fun x e => by injection e with e; subst e; show w.heap.size ≤ bx; omega)), y4.onlyDk y1 hon, y5, HR13.out.setBx y1 y6 hon⟩
          obtain ⟨z0, z1, z2, z3, zf, zl⟩ := y1.cells
          clear x0 x1 x2 x3 xf xl y1 y2 y3 y4 y5 y6 HR13 hd13 hk13 S12
          go_upto_region 17 with fail
          rw [← hW9]
          clear hW9 z0 z1 z2 z3 zf zl
          obtain ⟨x0, x1, x2, x3, xf, xl⟩ := E9.out.1.cells
          obtain ⟨r0, r1, r2, r3, rf, rl⟩ := E9.out.2.1.cells
          have hne1 : ¬ (bx = w.heap.size) := by have := E9.out.2.2.2.2.1; omega
          have hne2 : ¬ (w.heap.size = bx) := by omega
          go_wp2
          refine bodyPost_ret (v := .tuple #[.agg #[.slice a9 nn9 c9, .slice p9 m9 q9, .int .i64 fu9, .bool de9], .int .i64 at_, .int .i64 sq, .slice ap M cp]) (by simp [results, Try.results14, go_sem, r0, r1, r2, r3]) rfl ?_
          have hf9 := RdDk.keep (w' := (((W9.setCell ⟨w.heap.size, 0, none⟩ (.slice a9 nn9 c9)).setCell ⟨w.heap.size, 1, none⟩ (.slice p9 m9 q9)).setCell ⟨w.heap.size, 2, none⟩ (.int .i64 fu9)).setCell ⟨w.heap.size, 3, none⟩ (.bool de9)) E9.out.2.2.2.2.2 (fun k hk _ => by
            rw [Below.heap_setCell _ _ _ _ (by show k ≠ w.heap.size; omega), Below.heap_setCell _ _ _ _ (by show k ≠ w.heap.size; omega), Below.heap_setCell _ _ _ _ (by show k ≠ w.heap.size; omega), Below.heap_setCell _ _ _ _ (by show k ≠ w.heap.size; omega)])
          obtain ⟨a2, p2, n2, c2, m2, q2, d2, S2, L2, F2, fuel2, dead2, e, h1, h2, s1, s2, s3, s4, s5, s6⟩ := hf9
          cases e
          exact ⟨a9, p9, nn9, c9, m9, q9, d2, S2, L2, F2, fu9, de9, at_, sq, ap, M, cp, Fp, rfl, h1.rd, h2.rd, ⟨s1, s2, s3, s4, s5, s6⟩, ((((E9.out.2.2.2.1.setOther hBw _).setOther hBw _).setOther hBw _).setOther hBw _).rd, HRP.out, hM3, hc7, hc7', hat, ⟨hs0, by omega⟩, (((E9.out.2.2.1.setCell (by show w.heap.size ≤ w.heap.size; omega) _).setCell (by show w.heap.size ≤ w.heap.size; omega) _).setCell (by show w.heap.size ≤ w.heap.size; omega) _).setCell (by show w.heap.size ≤ w.heap.size; omega) _⟩
        | false =>
          have E0 : Hid (DkRow w12 bx (.slice a nn c') (.slice p t.m q) fu de ∧ DkRow w12 w.heap.size (.slice none 0 0) (.slice none 0 0) 0 false ∧ Below w.heap.size w w12 ∧ OwnB w12 B ap M Fp ∧ w.heap.size < bx ∧ RdDk w12 B (.agg #[.slice a nn c', .slice p t.m q, .int .i64 fu, .bool de])) := by
            have h2 := S12.out.bB
            have h3 := S12.out.gw
            have h4 := S12.out.cur.cur
            exact ⟨S12.out.box, S12.out.res, S12.out.bel, S12.out.pay, by omega, S12.out.own.rdDk (by omega) (by rw [HM0.out]; omega) (fun i hi => by rw [HM0.out] at hi; omega) _ _ HFR.out.2.2.2⟩
          clear S12
          go_upto_region 17 with fail
          obtain ⟨W9, hW9⟩ : ∃ W9, W9 = w12 := ⟨_, rfl⟩
          obtain ⟨m9, hm9⟩ : ∃ m9, m9 = t.m := ⟨_, rfl⟩
          rw [← hW9, ← hm9] at E0 ⊢
          clear hW9 hm9
          have E9 := E0
          obtain ⟨x0, x1, x2, x3, xf, xl⟩ := E9.out.1.cells
          obtain ⟨r0, r1, r2, r3, rf, rl⟩ := E9.out.2.1.cells
          have hne1 : ¬ (bx = w.heap.size) := by have := E9.out.2.2.2.2.1; omega
          have hne2 : ¬ (w.heap.size = bx) := by omega
          go_wp2
          refine bodyPost_ret (v := .tuple #[.agg #[.slice a nn c', .slice p m9 q, .int .i64 fu, .bool de], .int .i64 at_, .int .i64 sq, .slice ap M cp]) (by simp [results, Try.results14, go_sem, r0, r1, r2, r3]) rfl ?_
          have hf9 := RdDk.keep (w' := (((W9.setCell ⟨w.heap.size, 0, none⟩ (.slice a nn c')).setCell ⟨w.heap.size, 1, none⟩ (.slice p m9 q)).setCell ⟨w.heap.size, 2, none⟩ (.int .i64 fu)).setCell ⟨w.heap.size, 3, none⟩ (.bool de)) E9.out.2.2.2.2.2 (fun k hk _ => by
            rw [Below.heap_setCell _ _ _ _ (by show k ≠ w.heap.size; omega), Below.heap_setCell _ _ _ _ (by show k ≠ w.heap.size; omega), Below.heap_setCell _ _ _ _ (by show k ≠ w.heap.size; omega), Below.heap_setCell _ _ _ _ (by show k ≠ w.heap.size; omega)])
          obtain ⟨a2, p2, n2, c2, m2, q2, d2, S2, L2, F2, fuel2, dead2, e, h1, h2, s1, s2, s3, s4, s5, s6⟩ := hf9
          cases e
          exact ⟨a, p, nn, c', m9, q, d2, S2, L2, F2, fu, de, at_, sq, ap, M, cp, Fp, rfl, h1.rd, h2.rd, ⟨s1, s2, s3, s4, s5, s6⟩, ((((E9.out.2.2.2.1.setOther hBw _).setOther hBw _).setOther hBw _).setOther hBw _).rd, HRP.out, hM3, hc7, hc7', hat, ⟨hs0, by omega⟩, (((E9.out.2.2.1.setCell (by show w.heap.size ≤ w.heap.size; omega) _).setCell (by show w.heap.size ≤ w.heap.size; omega) _).setCell (by show w.heap.size ≤ w.heap.size; omega) _).setCell (by show w.heap.size ≤ w.heap.size; omega) _⟩
      | false =>
        go_upto_region 15 with fail
        obtain ⟨w11, hw11⟩ : ∃ w11, w11 = w10 := ⟨_, rfl⟩
        rw [← hw11] at S10 ⊢
        clear hw11
        have S11 := S10
        clear S10
        go_wp2_with fail
        refine (l1Once_any g b n c f 20 w11 S11.out.cur.drw (by omega) (by omega)).mono ?_
        rintro e w12 ⟨o2, rfl, hd12, ho12⟩
        have S12 : Hid (DW w w12 B g bx b n c f a p nn c' t.m q t.d t.S t.L t.F A fu de ap M Fp) := S11.out.cur' ho12 hd12
        clear hd12 ho12 S11
        cases o2 with
        | true =>
          obtain ⟨x0, x1, x2, x3, xf, xl⟩ := S12.out.box.cells
          go_wp2_with fail
          refine (l1Spoil_any B g b n c f a p nn c' t.m q t.d t.S t.L t.F A fu de w12 S12.out.cur S12.out.own (by have := S12.out.bB; have := rowIn.lt S12.out.box; omega) (by omega) (by omega) (by rw [HM0.out]; omega) (fun i hi => by rw [HM0.out] at hi; omega) HFR.out.2.2.2).mono ?_
          rintro e w13 ⟨v13, rfl, hr13, hd13, hk13⟩
          obtain ⟨y1, y2, y3, y4, y5, y6⟩ := S12.out.spoilt hk13
          have HR13 : Hid (RdDk w13 B v13) := hr13
          obtain ⟨a9, p9, nn9, c9, m9, q9, d9, S9, L9, F9, fu9, de9, e, -⟩ := hr13
          subst e
          obtain ⟨W9, hW9⟩ : ∃ W9, W9 = (((w13.setCell ⟨bx, 0, none⟩ (.slice a9 nn9 c9)).setCell ⟨bx, 1, none⟩ (.slice p9 m9 q9)).setCell ⟨bx, 2, none⟩ (.int .i64 fu9)).setCell ⟨bx, 3, none⟩ (.bool de9) := ⟨_, rfl⟩
          have E9 : Hid (DkRow W9 bx (.slice a9 nn9 c9) (.slice p9 m9 q9) fu9 de9 ∧ DkRow W9 w.heap.size (.slice none 0 0) (.slice none 0 0) 0 false ∧ Below w.heap.size w W9 ∧ OwnB W9 B ap M Fp ∧ w.heap.size < bx ∧ RdDk W9 B (.agg #[.slice a9 nn9 c9, .slice p9 m9 q9, .int .i64 fu9, .bool de9])) := by
            have hon : OnlyAt (some ⟨bx, 0, none⟩) w13 W9 := by
              rw [hW9]
              exact ((((OnlyAt.refl _ _).setCell 0 _).setCell 1 _).setCell 2 _).setCell 3 _
            refine ⟨by rw [hW9]; exact dk_set4 y1, rowIn.of_block y2 (hon.block _ (fun x e => by injection e with e; subst e; show bx ≠ w.heap.size; omega)), y3.trans (hon.below (fun x e => by injection e with e; subst e; show w.heap.size ≤ bx; omega)), y4.onlyDk y1 hon, y5, HR13.out.setBx y1 y6 hon⟩
          obtain ⟨z0, z1, z2, z3, zf, zl⟩ := y1.cells
          clear x0 x1 x2 x3 xf xl y1 y2 y3 y4 y5 y6 HR13 hd13 hk13 S12
          go_upto_region 17 with fail
          rw [← hW9]
          clear hW9 z0 z1 z2 z3 zf zl
          obtain ⟨x0, x1, x2, x3, xf, xl⟩ := E9.out.1.cells
          obtain ⟨r0, r1, r2, r3, rf, rl⟩ := E9.out.2.1.cells
          have hne1 : ¬ (bx = w.heap.size) := by have := E9.out.2.2.2.2.1; omega
          have hne2 : ¬ (w.heap.size = bx) := by omega
          go_wp2
          refine bodyPost_ret (v := .tuple #[.agg #[.slice a9 nn9 c9, .slice p9 m9 q9, .int .i64 fu9, .bool de9], .int .i64 at_, .int .i64 sq, .slice ap M cp]) (by simp [results, Try.results14, go_sem, r0, r1, r2, r3]) rfl ?_
          have hf9 := RdDk.keep (w' := (((W9.setCell ⟨w.heap.size, 0, none⟩ (.slice a9 nn9 c9)).setCell ⟨w.heap.size, 1, none⟩ (.slice p9 m9 q9)).setCell ⟨w.heap.size, 2, none⟩ (.int .i64 fu9)).setCell ⟨w.heap.size, 3, none⟩ (.bool de9)) E9.out.2.2.2.2.2 (fun k hk _ => by
            rw [Below.heap_setCell _ _ _ _ (by show k ≠ w.heap.size; omega), Below.heap_setCell _ _ _ _ (by show k ≠ w.heap.size; omega), Below.heap_setCell _ _ _ _ (by show k ≠ w.heap.size; omega), Below.heap_setCell _ _ _ _ (by show k ≠ w.heap.size; omega)])
          obtain ⟨a2, p2, n2, c2, m2, q2, d2, S2, L2, F2, fuel2, dead2, e, h1, h2, s1, s2, s3, s4, s5, s6⟩ := hf9
          cases e
          exact ⟨a9, p9, nn9, c9, m9, q9, d2, S2, L2, F2, fu9, de9, at_, sq, ap, M, cp, Fp, rfl, h1.rd, h2.rd, ⟨s1, s2, s3, s4, s5, s6⟩, ((((E9.out.2.2.2.1.setOther hBw _).setOther hBw _).setOther hBw _).setOther hBw _).rd, HRP.out, hM3, hc7, hc7', hat, ⟨hs0, by omega⟩, (((E9.out.2.2.1.setCell (by show w.heap.size ≤ w.heap.size; omega) _).setCell (by show w.heap.size ≤ w.heap.size; omega) _).setCell (by show w.heap.size ≤ w.heap.size; omega) _).setCell (by show w.heap.size ≤ w.heap.size; omega) _⟩
        | false =>
          have E0 : Hid (DkRow w12 bx (.slice a nn c') (.slice p t.m q) fu de ∧ DkRow w12 w.heap.size (.slice none 0 0) (.slice none 0 0) 0 false ∧ Below w.heap.size w w12 ∧ OwnB w12 B ap M Fp ∧ w.heap.size < bx ∧ RdDk w12 B (.agg #[.slice a nn c', .slice p t.m q, .int .i64 fu, .bool de])) := by
            have h2 := S12.out.bB
            have h3 := S12.out.gw
            have h4 := S12.out.cur.cur
            exact ⟨S12.out.box, S12.out.res, S12.out.bel, S12.out.pay, by omega, S12.out.own.rdDk (by omega) (by rw [HM0.out]; omega) (fun i hi => by rw [HM0.out] at hi; omega) _ _ HFR.out.2.2.2⟩
          clear S12
          go_upto_region 17 with fail
          obtain ⟨W9, hW9⟩ : ∃ W9, W9 = w12 := ⟨_, rfl⟩
          obtain ⟨m9, hm9⟩ : ∃ m9, m9 = t.m := ⟨_, rfl⟩
          rw [← hW9, ← hm9] at E0 ⊢
          clear hW9 hm9
          have E9 := E0
          obtain ⟨x0, x1, x2, x3, xf, xl⟩ := E9.out.1.cells
          obtain ⟨r0, r1, r2, r3, rf, rl⟩ := E9.out.2.1.cells
          have hne1 : ¬ (bx = w.heap.size) := by have := E9.out.2.2.2.2.1; omega
          have hne2 : ¬ (w.heap.size = bx) := by omega
          go_wp2
          refine bodyPost_ret (v := .tuple #[.agg #[.slice a nn c', .slice p m9 q, .int .i64 fu, .bool de], .int .i64 at_, .int .i64 sq, .slice ap M cp]) (by simp [results, Try.results14, go_sem, r0, r1, r2, r3]) rfl ?_
          have hf9 := RdDk.keep (w' := (((W9.setCell ⟨w.heap.size, 0, none⟩ (.slice a nn c')).setCell ⟨w.heap.size, 1, none⟩ (.slice p m9 q)).setCell ⟨w.heap.size, 2, none⟩ (.int .i64 fu)).setCell ⟨w.heap.size, 3, none⟩ (.bool de)) E9.out.2.2.2.2.2 (fun k hk _ => by
            rw [Below.heap_setCell _ _ _ _ (by show k ≠ w.heap.size; omega), Below.heap_setCell _ _ _ _ (by show k ≠ w.heap.size; omega), Below.heap_setCell _ _ _ _ (by show k ≠ w.heap.size; omega), Below.heap_setCell _ _ _ _ (by show k ≠ w.heap.size; omega)])
          obtain ⟨a2, p2, n2, c2, m2, q2, d2, S2, L2, F2, fuel2, dead2, e, h1, h2, s1, s2, s3, s4, s5, s6⟩ := hf9
          cases e
          exact ⟨a, p, nn, c', m9, q, d2, S2, L2, F2, fu, de, at_, sq, ap, M, cp, Fp, rfl, h1.rd, h2.rd, ⟨s1, s2, s3, s4, s5, s6⟩, ((((E9.out.2.2.2.1.setOther hBw _).setOther hBw _).setOther hBw _).setOther hBw _).rd, HRP.out, hM3, hc7, hc7', hat, ⟨hs0, by omega⟩, (((E9.out.2.2.1.setCell (by show w.heap.size ≤ w.heap.size; omega) _).setCell (by show w.heap.size ≤ w.heap.size; omega) _).setCell (by show w.heap.size ≤ w.heap.size; omega) _).setCell (by show w.heap.size ≤ w.heap.size; omega) _⟩
  · have hq4 : (k == 4) = false := by simp; omega
    have hq5 : ¬ k < 4 := by omega
    go_upto_region 11 with fail
    obtain ⟨wA, hwA⟩ : ∃ wA, wA = w8 := ⟨_, rfl⟩
    rw [← hwA] at S8 ⊢
    clear hwA x0 x1 x2 x3 xf xl hq4 hq5 hk4
    have SA := S8
    obtain ⟨fu, hfu⟩ : ∃ fu, fu = t.fuel := ⟨_, rfl⟩
    obtain ⟨de, hde⟩ : ∃ de, de = t.dead := ⟨_, rfl⟩
    rw [← hfu, ← hde] at SA
    clear hfu hde S8
    go_wp2_with fail
    refine (l1Once_any g b n c f 40 wA SA.out.cur.drw (by omega) (by omega)).mono ?_
    rintro e wB ⟨o4, rfl, hdB, hoB⟩
    have SB : Hid (DW w wB B g bx b n c f a p nn c' t.m q t.d t.S t.L t.F A fu de ap M Fp) := SA.out.cur' hoB hdB
    clear hdB hoB SA
    cases o4 with
    | true =>
      go_wp2_with fail
      refine (l1Below_any g b n c f 2 wB SB.out.cur.drw (by omega) (by omega)).mono ?_
      rintro e wC ⟨y, rfl, hy0, hy1, hdC, hoC⟩
      have SC : Hid (DW w wC B g bx b n c f a p nn c' t.m q t.d t.S t.L t.F A fu de ap M Fp) := SB.out.cur' hoC hdC
      clear hdC hoC SB HRP hM3 hc7 hc7'
      obtain ⟨M, hM⟩ : ∃ M : Nat, 30000 + y = (M : Int) := ⟨(30000 + y).toNat, by omega⟩
      have HM : Hid (30000 + y = (M : Int)) := hM
      have hM3 : M ≤ 30001 := by omega
      clear hM
      go_wp2_with fail
      refine (zeros_cat (30000 + y) M wC HM.out (by omega)).mono ?_
      rintro e w9 ⟨ap, cp, rfl, hoD, hbD, hc7, hc7'⟩
      obtain ⟨Fp, hFp⟩ : ∃ Fp : Nat → Int, Fp = fun _ => 0 := ⟨_, rfl⟩
      have HRP : Hid (∀ j, 0 ≤ Fp j ∧ Fp j < 256) := fun j => by rw [hFp]; exact ⟨Int.le_refl 0, (by decide : (0 : Int) < 256)⟩
      rw [← hFp] at hoD
      have S9 : Hid (DW w w9 B g bx b n c f a p nn c' t.m q t.d t.S t.L t.F A fu de ap M Fp) := (SC.out.below hbD).newPay (hoD.mono (by have := SC.out.bB; have := rowIn.lt SC.out.box; omega))
      clear hoD hbD hFp SC HM
      go_upto_region 13 with fail
      go_wp2_with fail
      refine (l1Once_any g b n c f 20 w9 S9.out.cur.drw (by omega) (by omega)).mono ?_
      rintro e w10 ⟨o3, rfl, hd10, ho10⟩
      have S10 : Hid (DW w w10 B g bx b n c f a p nn c' t.m q t.d t.S t.L t.F A fu de ap M Fp) := S9.out.cur' ho10 hd10
      clear hd10 ho10 S9
      cases o3 with
      | true =>
        go_wp2_with fail
        refine (l1Below_any g b n c f 3 w10 S10.out.cur.drw (by omega) (by omega)).mono ?_
        rintro e w11 ⟨y, rfl, hy0, hy1, hd11, ho11⟩
        have S11 : Hid (DW w w11 B g bx b n c f a p nn c' t.m q t.d t.S t.L t.F A fu de ap M Fp) := S10.out.cur' ho11 hd11
        clear hd11 ho11 S10 hat
        go_upto_region 15 with fail
        obtain ⟨at_, hat0⟩ : ∃ at_ : Int, at_ = 9223372036854775807 - y := ⟨_, rfl⟩
        have hat : 0 ≤ at_ ∧ at_ ≤ 9223372036854775807 := by omega
        rw [← hat0]
        clear hat0
        go_wp2_with fail
        refine (l1Once_any g b n c f 20 w11 S11.out.cur.drw (by omega) (by omega)).mono ?_
        rintro e w12 ⟨o2, rfl, hd12, ho12⟩
        have S12 : Hid (DW w w12 B g bx b n c f a p nn c' t.m q t.d t.S t.L t.F A fu de ap M Fp) := S11.out.cur' ho12 hd12
        clear hd12 ho12 S11
        cases o2 with
        | true =>
          obtain ⟨x0, x1, x2, x3, xf, xl⟩ := S12.out.box.cells
          go_wp2_with fail
          refine (l1Spoil_any B g b n c f a p nn c' t.m q t.d t.S t.L t.F A fu de w12 S12.out.cur S12.out.own (by have := S12.out.bB; have := rowIn.lt S12.out.box; omega) (by omega) (by omega) (by rw [HM0.out]; omega) (fun i hi => by rw [HM0.out] at hi; omega) HFR.out.2.2.2).mono ?_
          rintro e w13 ⟨v13, rfl, hr13, hd13, hk13⟩
          obtain ⟨y1, y2, y3, y4, y5, y6⟩ := S12.out.spoilt hk13
          have HR13 : Hid (RdDk w13 B v13) := hr13
          obtain ⟨a9, p9, nn9, c9, m9, q9, d9, S9, L9, F9, fu9, de9, e, -⟩ := hr13
          subst e
          obtain ⟨W9, hW9⟩ : ∃ W9, W9 = (((w13.setCell ⟨bx, 0, none⟩ (.slice a9 nn9 c9)).setCell ⟨bx, 1, none⟩ (.slice p9 m9 q9)).setCell ⟨bx, 2, none⟩ (.int .i64 fu9)).setCell ⟨bx, 3, none⟩ (.bool de9) := ⟨_, rfl⟩
          have E9 : Hid (DkRow W9 bx (.slice a9 nn9 c9) (.slice p9 m9 q9) fu9 de9 ∧ DkRow W9 w.heap.size (.slice none 0 0) (.slice none 0 0) 0 false ∧ Below w.heap.size w W9 ∧ OwnB W9 B ap M Fp ∧ w.heap.size < bx ∧ RdDk W9 B (.agg #[.slice a9 nn9 c9, .slice p9 m9 q9, .int .i64 fu9, .bool de9])) := by
            have hon : OnlyAt (some ⟨bx, 0, none⟩) w13 W9 := by
              rw [hW9]
              exact ((((OnlyAt.refl _ _).setCell 0 _).setCell 1 _).setCell 2 _).setCell 3 _
            refine ⟨by rw [hW9]; exact dk_set4 y1, rowIn.of_block y2 (hon.block _ (fun x e => by injection e with e; subst e; show bx ≠ w.heap.size; omega)), y3.trans (hon.below (fun x e => by injection e with e; subst e; show w.heap.size ≤ bx; omega)), y4.onlyDk y1 hon, y5, HR13.out.setBx y1 y6 hon⟩
          obtain ⟨z0, z1, z2, z3, zf, zl⟩ := y1.cells
          clear x0 x1 x2 x3 xf xl y1 y2 y3 y4 y5 y6 HR13 hd13 hk13 S12
          go_upto_region 17 with fail
          rw [← hW9]
          clear hW9 z0 z1 z2 z3 zf zl
          obtain ⟨x0, x1, x2, x3, xf, xl⟩ := E9.out.1.cells
          obtain ⟨r0, r1, r2, r3, rf, rl⟩ := E9.out.2.1.cells
          have hne1 : ¬ (bx = w.heap.size) := by have := E9.out.2.2.2.2.1; omega
          have hne2 : ¬ (w.heap.size = bx) := by omega
          go_wp2
          refine bodyPost_ret (v := .tuple #[.agg #[.slice a9 nn9 c9, .slice p9 m9 q9, .int .i64 fu9, .bool de9], .int .i64 at_, .int .i64 sq, .slice ap M cp]) (by simp [results, Try.results14, go_sem, r0, r1, r2, r3]) rfl ?_
          have hf9 := RdDk.keep (w' := (((W9.setCell ⟨w.heap.size, 0, none⟩ (.slice a9 nn9 c9)).setCell ⟨w.heap.size, 1, none⟩ (.slice p9 m9 q9)).setCell ⟨w.heap.size, 2, none⟩ (.int .i64 fu9)).setCell ⟨w.heap.size, 3, none⟩ (.bool de9)) E9.out.2.2.2.2.2 (fun k hk _ => by
            rw [Below.heap_setCell _ _ _ _ (by show k ≠ w.heap.size; omega), Below.heap_setCell _ _ _ _ (by show k ≠ w.heap.size; omega), Below.heap_setCell _ _ _ _ (by show k ≠ w.heap.size; omega), Below.heap_setCell _ _ _ _ (by show k ≠ w.heap.size; omega)])
          obtain ⟨a2, p2, n2, c2, m2, q2, d2, S2, L2, F2, fuel2, dead2, e, h1, h2, s1, s2, s3, s4, s5, s6⟩ := hf9
          cases e
          exact ⟨a9, p9, nn9, c9, m9, q9, d2, S2, L2, F2, fu9, de9, at_, sq, ap, M, cp, Fp, rfl, h1.rd, h2.rd, ⟨s1, s2, s3, s4, s5, s6⟩, ((((E9.out.2.2.2.1.setOther hBw _).setOther hBw _).setOther hBw _).setOther hBw _).rd, HRP.out, hM3, hc7, hc7', hat, ⟨hs0, by omega⟩, (((E9.out.2.2.1.setCell (by show w.heap.size ≤ w.heap.size; omega) _).setCell (by show w.heap.size ≤ w.heap.size; omega) _).setCell (by show w.heap.size ≤ w.heap.size; omega) _).setCell (by show w.heap.size ≤ w.heap.size; omega) _⟩
        | false =>
          have E0 : Hid (DkRow w12 bx (.slice a nn c') (.slice p t.m q) fu de ∧ DkRow w12 w.heap.size (.slice none 0 0) (.slice none 0 0) 0 false ∧ Below w.heap.size w w12 ∧ OwnB w12 B ap M Fp ∧ w.heap.size < bx ∧ RdDk w12 B (.agg #[.slice a nn c', .slice p t.m q, .int .i64 fu, .bool de])) := by
            have h2 := S12.out.bB
            have h3 := S12.out.gw
            have h4 := S12.out.cur.cur
            exact ⟨S12.out.box, S12.out.res, S12.out.bel, S12.out.pay, by omega, S12.out.own.rdDk (by omega) (by rw [HM0.out]; omega) (fun i hi => by rw [HM0.out] at hi; omega) _ _ HFR.out.2.2.2⟩
          clear S12
          go_upto_region 17 with fail
          obtain ⟨W9, hW9⟩ : ∃ W9, W9 = w12 := ⟨_, rfl⟩
          obtain ⟨m9, hm9⟩ : ∃ m9, m9 = t.m := ⟨_, rfl⟩
          rw [← hW9, ← hm9] at E0 ⊢
          clear hW9 hm9
          have E9 := E0
          obtain ⟨x0, x1, x2, x3, xf, xl⟩ := E9.out.1.cells
          obtain ⟨r0, r1, r2, r3, rf, rl⟩ := E9.out.2.1.cells
          have hne1 : ¬ (bx = w.heap.size) := by have := E9.out.2.2.2.2.1; omega
          have hne2 : ¬ (w.heap.size = bx) := by omega
          go_wp2
          refine bodyPost_ret (v := .tuple #[.agg #[.slice a nn c', .slice p m9 q, .int .i64 fu, .bool de], .int .i64 at_, .int .i64 sq, .slice ap M cp]) (by simp [results, Try.results14, go_sem, r0, r1, r2, r3]) rfl ?_
          have hf9 := RdDk.keep (w' := (((W9.setCell ⟨w.heap.size, 0, none⟩ (.slice a nn c')).setCell ⟨w.heap.size, 1, none⟩ (.slice p m9 q)).setCell ⟨w.heap.size, 2, none⟩ (.int .i64 fu)).setCell ⟨w.heap.size, 3, none⟩ (.bool de)) E9.out.2.2.2.2.2 (fun k hk _ => by
            rw [Below.heap_setCell _ _ _ _ (by show k ≠ w.heap.size; omega), Below.heap_setCell _ _ _ _ (by show k ≠ w.heap.size; omega), Below.heap_setCell _ _ _ _ (by show k ≠ w.heap.size; omega), Below.heap_setCell _ _ _ _ (by show k ≠ w.heap.size; omega)])
          obtain ⟨a2, p2, n2, c2, m2, q2, d2, S2, L2, F2, fuel2, dead2, e, h1, h2, s1, s2, s3, s4, s5, s6⟩ := hf9
          cases e
          exact ⟨a, p, nn, c', m9, q, d2, S2, L2, F2, fu, de, at_, sq, ap, M, cp, Fp, rfl, h1.rd, h2.rd, ⟨s1, s2, s3, s4, s5, s6⟩, ((((E9.out.2.2.2.1.setOther hBw _).setOther hBw _).setOther hBw _).setOther hBw _).rd, HRP.out, hM3, hc7, hc7', hat, ⟨hs0, by omega⟩, (((E9.out.2.2.1.setCell (by show w.heap.size ≤ w.heap.size; omega) _).setCell (by show w.heap.size ≤ w.heap.size; omega) _).setCell (by show w.heap.size ≤ w.heap.size; omega) _).setCell (by show w.heap.size ≤ w.heap.size; omega) _⟩
      | false =>
        go_upto_region 15 with fail
        obtain ⟨w11, hw11⟩ : ∃ w11, w11 = w10 := ⟨_, rfl⟩
        rw [← hw11] at S10 ⊢
        clear hw11
        have S11 := S10
        clear S10
        go_wp2_with fail
        refine (l1Once_any g b n c f 20 w11 S11.out.cur.drw (by omega) (by omega)).mono ?_
        rintro e w12 ⟨o2, rfl, hd12, ho12⟩
        have S12 : Hid (DW w w12 B g bx b n c f a p nn c' t.m q t.d t.S t.L t.F A fu de ap M Fp) := S11.out.cur' ho12 hd12
        clear hd12 ho12 S11
        cases o2 with
        | true =>
          obtain ⟨x0, x1, x2, x3, xf, xl⟩ := S12.out.box.cells
          go_wp2_with fail
          refine (l1Spoil_any B g b n c f a p nn c' t.m q t.d t.S t.L t.F A fu de w12 S12.out.cur S12.out.own (by have := S12.out.bB; have := rowIn.lt S12.out.box; omega) (by omega) (by omega) (by rw [HM0.out]; omega) (fun i hi => by rw [HM0.out] at hi; omega) HFR.out.2.2.2).mono ?_
          rintro e w13 ⟨v13, rfl, hr13, hd13, hk13⟩
          obtain ⟨y1, y2, y3, y4, y5, y6⟩ := S12.out.spoilt hk13
          have HR13 : Hid (RdDk w13 B v13) := hr13
          obtain ⟨a9, p9, nn9, c9, m9, q9, d9, S9, L9, F9, fu9, de9, e, -⟩ := hr13
          subst e
          obtain ⟨W9, hW9⟩ : ∃ W9, W9 = (((w13.setCell ⟨bx, 0, none⟩ (.slice a9 nn9 c9)).setCell ⟨bx, 1, none⟩ (.slice p9 m9 q9)).setCell ⟨bx, 2, none⟩ (.int .i64 fu9)).setCell ⟨bx, 3, none⟩ (.bool de9) := ⟨_, rfl⟩
          have E9 : Hid (DkRow W9 bx (.slice a9 nn9 c9) (.slice p9 m9 q9) fu9 de9 ∧ DkRow W9 w.heap.size (.slice none 0 0) (.slice none 0 0) 0 false ∧ Below w.heap.size w W9 ∧ OwnB W9 B ap M Fp ∧ w.heap.size < bx ∧ RdDk W9 B (.agg #[.slice a9 nn9 c9, .slice p9 m9 q9, .int .i64 fu9, .bool de9])) := by
            have hon : OnlyAt (some ⟨bx, 0, none⟩) w13 W9 := by
              rw [hW9]
              exact ((((OnlyAt.refl _ _).setCell 0 _).setCell 1 _).setCell 2 _).setCell 3 _
            refine ⟨by rw [hW9]; exact dk_set4 y1, rowIn.of_block y2 (hon.block _ (fun x e => by injection e with e; subst e; show bx ≠ w.heap.size; omega)), y3.trans (hon.below (fun x e => by injection e with e; subst e; show w.heap.size ≤ bx; omega)), y4.onlyDk y1 hon, y5, HR13.out.setBx y1 y6 hon⟩
          obtain ⟨z0, z1, z2, z3, zf, zl⟩ := y1.cells
          clear x0 x1 x2 x3 xf xl y1 y2 y3 y4 y5 y6 HR13 hd13 hk13 S12
          go_upto_region 17 with fail
          rw [← hW9]
          clear hW9 z0 z1 z2 z3 zf zl
          obtain ⟨x0, x1, x2, x3, xf, xl⟩ := E9.out.1.cells
          obtain ⟨r0, r1, r2, r3, rf, rl⟩ := E9.out.2.1.cells
          have hne1 : ¬ (bx = w.heap.size) := by have := E9.out.2.2.2.2.1; omega
          have hne2 : ¬ (w.heap.size = bx) := by omega
          go_wp2
          refine bodyPost_ret (v := .tuple #[.agg #[.slice a9 nn9 c9, .slice p9 m9 q9, .int .i64 fu9, .bool de9], .int .i64 at_, .int .i64 sq, .slice ap M cp]) (by simp [results, Try.results14, go_sem, r0, r1, r2, r3]) rfl ?_
          have hf9 := RdDk.keep (w' := (((W9.setCell ⟨w.heap.size, 0, none⟩ (.slice a9 nn9 c9)).setCell ⟨w.heap.size, 1, none⟩ (.slice p9 m9 q9)).setCell ⟨w.heap.size, 2, none⟩ (.int .i64 fu9)).setCell ⟨w.heap.size, 3, none⟩ (.bool de9)) E9.out.2.2.2.2.2 (fun k hk _ => by
            rw [Below.heap_setCell _ _ _ _ (by show k ≠ w.heap.size; omega), Below.heap_setCell _ _ _ _ (by show k ≠ w.heap.size; omega), Below.heap_setCell _ _ _ _ (by show k ≠ w.heap.size; omega), Below.heap_setCell _ _ _ _ (by show k ≠ w.heap.size; omega)])
          obtain ⟨a2, p2, n2, c2, m2, q2, d2, S2, L2, F2, fuel2, dead2, e, h1, h2, s1, s2, s3, s4, s5, s6⟩ := hf9
          cases e
          exact ⟨a9, p9, nn9, c9, m9, q9, d2, S2, L2, F2, fu9, de9, at_, sq, ap, M, cp, Fp, rfl, h1.rd, h2.rd, ⟨s1, s2, s3, s4, s5, s6⟩, ((((E9.out.2.2.2.1.setOther hBw _).setOther hBw _).setOther hBw _).setOther hBw _).rd, HRP.out, hM3, hc7, hc7', hat, ⟨hs0, by omega⟩, (((E9.out.2.2.1.setCell (by show w.heap.size ≤ w.heap.size; omega) _).setCell (by show w.heap.size ≤ w.heap.size; omega) _).setCell (by show w.heap.size ≤ w.heap.size; omega) _).setCell (by show w.heap.size ≤ w.heap.size; omega) _⟩
        | false =>
          have E0 : Hid (DkRow w12 bx (.slice a nn c') (.slice p t.m q) fu de ∧ DkRow w12 w.heap.size (.slice none 0 0) (.slice none 0 0) 0 false ∧ Below w.heap.size w w12 ∧ OwnB w12 B ap M Fp ∧ w.heap.size < bx ∧ RdDk w12 B (.agg #[.slice a nn c', .slice p t.m q, .int .i64 fu, .bool de])) := by
            have h2 := S12.out.bB
            have h3 := S12.out.gw
            have h4 := S12.out.cur.cur
            exact ⟨S12.out.box, S12.out.res, S12.out.bel, S12.out.pay, by omega, S12.out.own.rdDk (by omega) (by rw [HM0.out]; omega) (fun i hi => by rw [HM0.out] at hi; omega) _ _ HFR.out.2.2.2⟩
          clear S12
          go_upto_region 17 with fail
          obtain ⟨W9, hW9⟩ : ∃ W9, W9 = w12 := ⟨_, rfl⟩
          obtain ⟨m9, hm9⟩ : ∃ m9, m9 = t.m := ⟨_, rfl⟩
          rw [← hW9, ← hm9] at E0 ⊢
          clear hW9 hm9
          have E9 := E0
          obtain ⟨x0, x1, x2, x3, xf, xl⟩ := E9.out.1.cells
          obtain ⟨r0, r1, r2, r3, rf, rl⟩ := E9.out.2.1.cells
          have hne1 : ¬ (bx = w.heap.size) := by have := E9.out.2.2.2.2.1; omega
          have hne2 : ¬ (w.heap.size = bx) := by omega
          go_wp2
          refine bodyPost_ret (v := .tuple #[.agg #[.slice a nn c', .slice p m9 q, .int .i64 fu, .bool de], .int .i64 at_, .int .i64 sq, .slice ap M cp]) (by simp [results, Try.results14, go_sem, r0, r1, r2, r3]) rfl ?_
          have hf9 := RdDk.keep (w' := (((W9.setCell ⟨w.heap.size, 0, none⟩ (.slice a nn c')).setCell ⟨w.heap.size, 1, none⟩ (.slice p m9 q)).setCell ⟨w.heap.size, 2, none⟩ (.int .i64 fu)).setCell ⟨w.heap.size, 3, none⟩ (.bool de)) E9.out.2.2.2.2.2 (fun k hk _ => by
            rw [Below.heap_setCell _ _ _ _ (by show k ≠ w.heap.size; omega), Below.heap_setCell _ _ _ _ (by show k ≠ w.heap.size; omega), Below.heap_setCell _ _ _ _ (by show k ≠ w.heap.size; omega), Below.heap_setCell _ _ _ _ (by show k ≠ w.heap.size; omega)])
          obtain ⟨a2, p2, n2, c2, m2, q2, d2, S2, L2, F2, fuel2, dead2, e, h1, h2, s1, s2, s3, s4, s5, s6⟩ := hf9
          cases e
          exact ⟨a, p, nn, c', m9, q, d2, S2, L2, F2, fu, de, at_, sq, ap, M, cp, Fp, rfl, h1.rd, h2.rd, ⟨s1, s2, s3, s4, s5, s6⟩, ((((E9.out.2.2.2.1.setOther hBw _).setOther hBw _).setOther hBw _).setOther hBw _).rd, HRP.out, hM3, hc7, hc7', hat, ⟨hs0, by omega⟩, (((E9.out.2.2.1.setCell (by show w.heap.size ≤ w.heap.size; omega) _).setCell (by show w.heap.size ≤ w.heap.size; omega) _).setCell (by show w.heap.size ≤ w.heap.size; omega) _).setCell (by show w.heap.size ≤ w.heap.size; omega) _⟩
    | false =>
      go_upto_region 13 with fail
      obtain ⟨w9, hw9⟩ : ∃ w9, w9 = wB := ⟨_, rfl⟩
      rw [← hw9] at SB ⊢
      clear hw9
      have S9 := SB
      clear SB
      go_wp2_with fail
      refine (l1Once_any g b n c f 20 w9 S9.out.cur.drw (by omega) (by omega)).mono ?_
      rintro e w10 ⟨o3, rfl, hd10, ho10⟩
      have S10 : Hid (DW w w10 B g bx b n c f a p nn c' t.m q t.d t.S t.L t.F A fu de ap M Fp) := S9.out.cur' ho10 hd10
      clear hd10 ho10 S9
      cases o3 with
      | true =>
        go_wp2_with fail
        refine (l1Below_any g b n c f 3 w10 S10.out.cur.drw (by omega) (by omega)).mono ?_
        rintro e w11 ⟨y, rfl, hy0, hy1, hd11, ho11⟩
        have S11 : Hid (DW w w11 B g bx b n c f a p nn c' t.m q t.d t.S t.L t.F A fu de ap M Fp) := S10.out.cur' ho11 hd11
        clear hd11 ho11 S10 hat
        go_upto_region 15 with fail
        obtain ⟨at_, hat0⟩ : ∃ at_ : Int, at_ = 9223372036854775807 - y := ⟨_, rfl⟩
        have hat : 0 ≤ at_ ∧ at_ ≤ 9223372036854775807 := by omega
        rw [← hat0]
        clear hat0
        go_wp2_with fail
        refine (l1Once_any g b n c f 20 w11 S11.out.cur.drw (by omega) (by omega)).mono ?_
        rintro e w12 ⟨o2, rfl, hd12, ho12⟩
        have S12 : Hid (DW w w12 B g bx b n c f a p nn c' t.m q t.d t.S t.L t.F A fu de ap M Fp) := S11.out.cur' ho12 hd12
        clear hd12 ho12 S11
        cases o2 with
        | true =>
          obtain ⟨x0, x1, x2, x3, xf, xl⟩ := S12.out.box.cells
          go_wp2_with fail
          refine (l1Spoil_any B g b n c f a p nn c' t.m q t.d t.S t.L t.F A fu de w12 S12.out.cur S12.out.own (by have := S12.out.bB; have := rowIn.lt S12.out.box; omega) (by omega) (by omega) (by rw [HM0.out]; omega) (fun i hi => by rw [HM0.out] at hi; omega) HFR.out.2.2.2).mono ?_
          rintro e w13 ⟨v13, rfl, hr13, hd13, hk13⟩
          obtain ⟨y1, y2, y3, y4, y5, y6⟩ := S12.out.spoilt hk13
          have HR13 : Hid (RdDk w13 B v13) := hr13
          obtain ⟨a9, p9, nn9, c9, m9, q9, d9, S9, L9, F9, fu9, de9, e, -⟩ := hr13
          subst e
          obtain ⟨W9, hW9⟩ : ∃ W9, W9 = (((w13.setCell ⟨bx, 0, none⟩ (.slice a9 nn9 c9)).setCell ⟨bx, 1, none⟩ (.slice p9 m9 q9)).setCell ⟨bx, 2, none⟩ (.int .i64 fu9)).setCell ⟨bx, 3, none⟩ (.bool de9) := ⟨_, rfl⟩
          have E9 : Hid (DkRow W9 bx (.slice a9 nn9 c9) (.slice p9 m9 q9) fu9 de9 ∧ DkRow W9 w.heap.size (.slice none 0 0) (.slice none 0 0) 0 false ∧ Below w.heap.size w W9 ∧ OwnB W9 B ap M Fp ∧ w.heap.size < bx ∧ RdDk W9 B (.agg #[.slice a9 nn9 c9, .slice p9 m9 q9, .int .i64 fu9, .bool de9])) := by
            have hon : OnlyAt (some ⟨bx, 0, none⟩) w13 W9 := by
              rw [hW9]
              exact ((((OnlyAt.refl _ _).setCell 0 _).setCell 1 _).setCell 2 _).setCell 3 _
            refine ⟨by rw [hW9]; exact dk_set4 y1, rowIn.of_block y2 (hon.block _ (fun x e => by injection e with e; subst e; show bx ≠ w.heap.size; omega)), y3.trans (hon.below (fun x e => by injection e with e; subst e; show w.heap.size ≤ bx; omega)), y4.onlyDk y1 hon, y5, HR13.out.setBx y1 y6 hon⟩
          obtain ⟨z0, z1, z2, z3, zf, zl⟩ := y1.cells
          clear x0 x1 x2 x3 xf xl y1 y2 y3 y4 y5 y6 HR13 hd13 hk13 S12
          go_upto_region 17 with fail
          rw [← hW9]
          clear hW9 z0 z1 z2 z3 zf zl
          obtain ⟨x0, x1, x2, x3, xf, xl⟩ := E9.out.1.cells
          obtain ⟨r0, r1, r2, r3, rf, rl⟩ := E9.out.2.1.cells
          have hne1 : ¬ (bx = w.heap.size) := by have := E9.out.2.2.2.2.1; omega
          have hne2 : ¬ (w.heap.size = bx) := by omega
          go_wp2
          refine bodyPost_ret (v := .tuple #[.agg #[.slice a9 nn9 c9, .slice p9 m9 q9, .int .i64 fu9, .bool de9], .int .i64 at_, .int .i64 sq, .slice ap M cp]) (by simp [results, Try.results14, go_sem, r0, r1, r2, r3]) rfl ?_
          have hf9 := RdDk.keep (w' := (((W9.setCell ⟨w.heap.size, 0, none⟩ (.slice a9 nn9 c9)).setCell ⟨w.heap.size, 1, none⟩ (.slice p9 m9 q9)).setCell ⟨w.heap.size, 2, none⟩ (.int .i64 fu9)).setCell ⟨w.heap.size, 3, none⟩ (.bool de9)) E9.out.2.2.2.2.2 (fun k hk _ => by
            rw [Below.heap_setCell _ _ _ _ (by show k ≠ w.heap.size; omega), Below.heap_setCell _ _ _ _ (by show k ≠ w.heap.size; omega), Below.heap_setCell _ _ _ _ (by show k ≠ w.heap.size; omega), Below.heap_setCell _ _ _ _ (by show k ≠ w.heap.size; omega)])
          obtain ⟨a2, p2, n2, c2, m2, q2, d2, S2, L2, F2, fuel2, dead2, e, h1, h2, s1, s2, s3, s4, s5, s6⟩ := hf9
          cases e
          exact ⟨a9, p9, nn9, c9, m9, q9, d2, S2, L2, F2, fu9, de9, at_, sq, ap, M, cp, Fp, rfl, h1.rd, h2.rd, ⟨s1, s2, s3, s4, s5, s6⟩, ((((E9.out.2.2.2.1.setOther hBw _).setOther hBw _).setOther hBw _).setOther hBw _).rd, HRP.out, hM3, hc7, hc7', hat, ⟨hs0, by omega⟩, (((E9.out.2.2.1.setCell (by show w.heap.size ≤ w.heap.size; omega) _).setCell (by show w.heap.size ≤ w.heap.size; omega) _).setCell (by show w.heap.size ≤ w.heap.size; omega) _).setCell (by show w.heap.size ≤ w.heap.size; omega) _⟩
        | false =>
          have E0 : Hid (DkRow w12 bx (.slice a nn c') (.slice p t.m q) fu de ∧ DkRow w12 w.heap.size (.slice none 0 0) (.slice none 0 0) 0 false ∧ Below w.heap.size w w12 ∧ OwnB w12 B ap M Fp ∧ w.heap.size < bx ∧ RdDk w12 B (.agg #[.slice a nn c', .slice p t.m q, .int .i64 fu, .bool de])) := by
            have h2 := S12.out.bB
            have h3 := S12.out.gw
            have h4 := S12.out.cur.cur
            exact ⟨S12.out.box, S12.out.res, S12.out.bel, S12.out.pay, by omega, S12.out.own.rdDk (by omega) (by rw [HM0.out]; omega) (fun i hi => by rw [HM0.out] at hi; omega) _ _ HFR.out.2.2.2⟩
          clear S12
          go_upto_region 17 with fail
          obtain ⟨W9, hW9⟩ : ∃ W9, W9 = w12 := ⟨_, rfl⟩
          obtain ⟨m9, hm9⟩ : ∃ m9, m9 = t.m := ⟨_, rfl⟩
          rw [← hW9, ← hm9] at E0 ⊢
          clear hW9 hm9
          have E9 := E0
          obtain ⟨x0, x1, x2, x3, xf, xl⟩ := E9.out.1.cells
          obtain ⟨r0, r1, r2, r3, rf, rl⟩ := E9.out.2.1.cells
          have hne1 : ¬ (bx = w.heap.size) := by have := E9.out.2.2.2.2.1; omega
          have hne2 : ¬ (w.heap.size = bx) := by omega
          go_wp2
          refine bodyPost_ret (v := .tuple #[.agg #[.slice a nn c', .slice p m9 q, .int .i64 fu, .bool de], .int .i64 at_, .int .i64 sq, .slice ap M cp]) (by simp [results, Try.results14, go_sem, r0, r1, r2, r3]) rfl ?_
          have hf9 := RdDk.keep (w' := (((W9.setCell ⟨w.heap.size, 0, none⟩ (.slice a nn c')).setCell ⟨w.heap.size, 1, none⟩ (.slice p m9 q)).setCell ⟨w.heap.size, 2, none⟩ (.int .i64 fu)).setCell ⟨w.heap.size, 3, none⟩ (.bool de)) E9.out.2.2.2.2.2 (fun k hk _ => by
            rw [Below.heap_setCell _ _ _ _ (by show k ≠ w.heap.size; omega), Below.heap_setCell _ _ _ _ (by show k ≠ w.heap.size; omega), Below.heap_setCell _ _ _ _ (by show k ≠ w.heap.size; omega), Below.heap_setCell _ _ _ _ (by show k ≠ w.heap.size; omega)])
          obtain ⟨a2, p2, n2, c2, m2, q2, d2, S2, L2, F2, fuel2, dead2, e, h1, h2, s1, s2, s3, s4, s5, s6⟩ := hf9
          cases e
          exact ⟨a, p, nn, c', m9, q, d2, S2, L2, F2, fu, de, at_, sq, ap, M, cp, Fp, rfl, h1.rd, h2.rd, ⟨s1, s2, s3, s4, s5, s6⟩, ((((E9.out.2.2.2.1.setOther hBw _).setOther hBw _).setOther hBw _).setOther hBw _).rd, HRP.out, hM3, hc7, hc7', hat, ⟨hs0, by omega⟩, (((E9.out.2.2.1.setCell (by show w.heap.size ≤ w.heap.size; omega) _).setCell (by show w.heap.size ≤ w.heap.size; omega) _).setCell (by show w.heap.size ≤ w.heap.size; omega) _).setCell (by show w.heap.size ≤ w.heap.size; omega) _⟩
      | false =>
        go_upto_region 15 with fail
        obtain ⟨w11, hw11⟩ : ∃ w11, w11 = w10 := ⟨_, rfl⟩
        rw [← hw11] at S10 ⊢
        clear hw11
        have S11 := S10
        clear S10
        go_wp2_with fail
        refine (l1Once_any g b n c f 20 w11 S11.out.cur.drw (by omega) (by omega)).mono ?_
        rintro e w12 ⟨o2, rfl, hd12, ho12⟩
        have S12 : Hid (DW w w12 B g bx b n c f a p nn c' t.m q t.d t.S t.L t.F A fu de ap M Fp) := S11.out.cur' ho12 hd12
        clear hd12 ho12 S11
        cases o2 with
        | true =>
          obtain ⟨x0, x1, x2, x3, xf, xl⟩ := S12.out.box.cells
          go_wp2_with fail
          refine (l1Spoil_any B g b n c f a p nn c' t.m q t.d t.S t.L t.F A fu de w12 S12.out.cur S12.out.own (by have := S12.out.bB; have := rowIn.lt S12.out.box; omega) (by omega) (by omega) (by rw [HM0.out]; omega) (fun i hi => by rw [HM0.out] at hi; omega) HFR.out.2.2.2).mono ?_
          rintro e w13 ⟨v13, rfl, hr13, hd13, hk13⟩
          obtain ⟨y1, y2, y3, y4, y5, y6⟩ := S12.out.spoilt hk13
          have HR13 : Hid (RdDk w13 B v13) := hr13
          obtain ⟨a9, p9, nn9, c9, m9, q9, d9, S9, L9, F9, fu9, de9, e, -⟩ := hr13
          subst e
          obtain ⟨W9, hW9⟩ : ∃ W9, W9 = (((w13.setCell ⟨bx, 0, none⟩ (.slice a9 nn9 c9)).setCell ⟨bx, 1, none⟩ (.slice p9 m9 q9)).setCell ⟨bx, 2, none⟩ (.int .i64 fu9)).setCell ⟨bx, 3, none⟩ (.bool de9) := ⟨_, rfl⟩
          have E9 : Hid (DkRow W9 bx (.slice a9 nn9 c9) (.slice p9 m9 q9) fu9 de9 ∧ DkRow W9 w.heap.size (.slice none 0 0) (.slice none 0 0) 0 false ∧ Below w.heap.size w W9 ∧ OwnB W9 B ap M Fp ∧ w.heap.size < bx ∧ RdDk W9 B (.agg #[.slice a9 nn9 c9, .slice p9 m9 q9, .int .i64 fu9, .bool de9])) := by
            have hon : OnlyAt (some ⟨bx, 0, none⟩) w13 W9 := by
              rw [hW9]
              exact ((((OnlyAt.refl _ _).setCell 0 _).setCell 1 _).setCell 2 _).setCell 3 _
            refine ⟨by rw [hW9]; exact dk_set4 y1, rowIn.of_block y2 (hon.block _ (fun x e => by injection e with e; subst e; show bx ≠ w.heap.size; omega)), y3.trans (hon.below (fun x e => by injection e with e; subst e; show w.heap.size ≤ bx; omega)), y4.onlyDk y1 hon, y5, HR13.out.setBx y1 y6 hon⟩
          obtain ⟨z0, z1, z2, z3, zf, zl⟩ := y1.cells
          clear x0 x1 x2 x3 xf xl y1 y2 y3 y4 y5 y6 HR13 hd13 hk13 S12
          go_upto_region 17 with fail
          rw [← hW9]
          clear hW9 z0 z1 z2 z3 zf zl
          obtain ⟨x0, x1, x2, x3, xf, xl⟩ := E9.out.1.cells
          obtain ⟨r0, r1, r2, r3, rf, rl⟩ := E9.out.2.1.cells
          have hne1 : ¬ (bx = w.heap.size) := by have := E9.out.2.2.2.2.1; omega
          have hne2 : ¬ (w.heap.size = bx) := by omega
          go_wp2
          refine bodyPost_ret (v := .tuple #[.agg #[.slice a9 nn9 c9, .slice p9 m9 q9, .int .i64 fu9, .bool de9], .int .i64 at_, .int .i64 sq, .slice ap M cp]) (by simp [results, Try.results14, go_sem, r0, r1, r2, r3]) rfl ?_
          have hf9 := RdDk.keep (w' := (((W9.setCell ⟨w.heap.size, 0, none⟩ (.slice a9 nn9 c9)).setCell ⟨w.heap.size, 1, none⟩ (.slice p9 m9 q9)).setCell ⟨w.heap.size, 2, none⟩ (.int .i64 fu9)).setCell ⟨w.heap.size, 3, none⟩ (.bool de9)) E9.out.2.2.2.2.2 (fun k hk _ => by
            rw [Below.heap_setCell _ _ _ _ (by show k ≠ w.heap.size; omega), Below.heap_setCell _ _ _ _ (by show k ≠ w.heap.size; omega), Below.heap_setCell _ _ _ _ (by show k ≠ w.heap.size; omega), Below.heap_setCell _ _ _ _ (by show k ≠ w.heap.size; omega)])
          obtain ⟨a2, p2, n2, c2, m2, q2, d2, S2, L2, F2, fuel2, dead2, e, h1, h2, s1, s2, s3, s4, s5, s6⟩ := hf9
          cases e
          exact ⟨a9, p9, nn9, c9, m9, q9, d2, S2, L2, F2, fu9, de9, at_, sq, ap, M, cp, Fp, rfl, h1.rd, h2.rd, ⟨s1, s2, s3, s4, s5, s6⟩, ((((E9.out.2.2.2.1.setOther hBw _).setOther hBw _).setOther hBw _).setOther hBw _).rd, HRP.out, hM3, hc7, hc7', hat, ⟨hs0, by omega⟩, (((E9.out.2.2.1.setCell (by show w.heap.size ≤ w.heap.size; omega) _).setCell (by show w.heap.size ≤ w.heap.size; omega) _).setCell (by show w.heap.size ≤ w.heap.size; omega) _).setCell (by show w.heap.size ≤ w.heap.size; omega) _⟩
        | false =>
          have E0 : Hid (DkRow w12 bx (.slice a nn c') (.slice p t.m q) fu de ∧ DkRow w12 w.heap.size (.slice none 0 0) (.slice none 0 0) 0 false ∧ Below w.heap.size w w12 ∧ OwnB w12 B ap M Fp ∧ w.heap.size < bx ∧ RdDk w12 B (.agg #[.slice a nn c', .slice p t.m q, .int .i64 fu, .bool de])) := by
            have h2 := S12.out.bB
            have h3 := S12.out.gw
            have h4 := S12.out.cur.cur
            exact ⟨S12.out.box, S12.out.res, S12.out.bel, S12.out.pay, by omega, S12.out.own.rdDk (by omega) (by rw [HM0.out]; omega) (fun i hi => by rw [HM0.out] at hi; omega) _ _ HFR.out.2.2.2⟩
          clear S12
          go_upto_region 17 with fail
          obtain ⟨W9, hW9⟩ : ∃ W9, W9 = w12 := ⟨_, rfl⟩
          obtain ⟨m9, hm9⟩ : ∃ m9, m9 = t.m := ⟨_, rfl⟩
          rw [← hW9, ← hm9] at E0 ⊢
          clear hW9 hm9
          have E9 := E0
          obtain ⟨x0, x1, x2, x3, xf, xl⟩ := E9.out.1.cells
          obtain ⟨r0, r1, r2, r3, rf, rl⟩ := E9.out.2.1.cells
          have hne1 : ¬ (bx = w.heap.size) := by have := E9.out.2.2.2.2.1; omega
          have hne2 : ¬ (w.heap.size = bx) := by omega
          go_wp2
          refine bodyPost_ret (v := .tuple #[.agg #[.slice a nn c', .slice p m9 q, .int .i64 fu, .bool de], .int .i64 at_, .int .i64 sq, .slice ap M cp]) (by simp [results, Try.results14, go_sem, r0, r1, r2, r3]) rfl ?_
          have hf9 := RdDk.keep (w' := (((W9.setCell ⟨w.heap.size, 0, none⟩ (.slice a nn c')).setCell ⟨w.heap.size, 1, none⟩ (.slice p m9 q)).setCell ⟨w.heap.size, 2, none⟩ (.int .i64 fu)).setCell ⟨w.heap.size, 3, none⟩ (.bool de)) E9.out.2.2.2.2.2 (fun k hk _ => by
            rw [Below.heap_setCell _ _ _ _ (by show k ≠ w.heap.size; omega), Below.heap_setCell _ _ _ _ (by show k ≠ w.heap.size; omega), Below.heap_setCell _ _ _ _ (by show k ≠ w.heap.size; omega), Below.heap_setCell _ _ _ _ (by show k ≠ w.heap.size; omega)])
          obtain ⟨a2, p2, n2, c2, m2, q2, d2, S2, L2, F2, fuel2, dead2, e, h1, h2, s1, s2, s3, s4, s5, s6⟩ := hf9
          cases e
          exact ⟨a, p, nn, c', m9, q, d2, S2, L2, F2, fu, de, at_, sq, ap, M, cp, Fp, rfl, h1.rd, h2.rd, ⟨s1, s2, s3, s4, s5, s6⟩, ((((E9.out.2.2.2.1.setOther hBw _).setOther hBw _).setOther hBw _).setOther hBw _).rd, HRP.out, hM3, hc7, hc7', hat, ⟨hs0, by omega⟩, (((E9.out.2.2.1.setCell (by show w.heap.size ≤ w.heap.size; omega) _).setCell (by show w.heap.size ≤ w.heap.size; omega) _).setCell (by show w.heap.size ≤ w.heap.size; omega) _).setCell (by show w.heap.size ≤ w.heap.size; omega) _⟩
end Go.Proofs.Ytlcamfkgkcjehaa
