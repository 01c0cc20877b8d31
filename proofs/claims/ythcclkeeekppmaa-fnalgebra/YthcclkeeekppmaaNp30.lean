import Derived.Test.YthcclkeeekppmaaRows
import Derived.Test.YthcclkeeekppmaaOwn
import Derived.ProofKit
import Derived.OpenShut
import Derived.Lib.SmallJoins
import Derived.Deep.SlicePairs
import Derived.Test.YthcclkeeekppmaaNp26
import Derived.Test.YthcclkeeekppmaaNp29
import Derived.Deep.CutRange
import Derived.Deep.CutBlock
namespace Go.Proofs.Ythcclkeeekppmaa
open Go.ChangeShapes Go.WideShapes Go.ChangeAt Go.RowKit Go.Deep Go.Joins
set_option maxRecDepth 100000

section
variable {H : Type} {enc : TypeId × Value → H} {W : World}

theorem spot_of {w : World} {a : Addr} {v : Value} (h : w.cell? (a.add 0) = some v) : a.spot = none := by
  obtain ⟨b, off, spot⟩ := a
  simpa [Addr.add] using World.cell?_spot h

theorem add_eq {b off i : Nat} : (Addr.add ⟨b, off, none⟩ i) = ⟨b, off + i, none⟩ := by
  unfold Addr.add
  by_cases h : i = 0
  · subst h; simp
  · simp [h]

set_option maxRecDepth 100000 in
theorem bytes_of {fuel : Nat} {cs : List Value} {x : DataW H × List MemPlace} (h : DataW.trod enc Try.prog W 0 (fun _ => true) true fuel 22 cs = some x) :
    ∃ a n c f, cs = [.slice a n c] ∧ Rd .u8 W a n f ∧ (∀ i, i < n → 0 ≤ f i ∧ f i < 256) ∧ n ≤ maxLen := by
  rcases open_ints Try.underlying22 Try.underlying5 (by kernel_rfl) h with ⟨hcs, _⟩ | ⟨y, l, c, zs, hcs, _, hl, hm, hz, _, hcell, hwz⟩
  · exact ⟨none, 0, 0, fun _ => 0, hcs, Or.inl rfl, fun i hi => absurd hi (Nat.not_lt_zero _), Nat.zero_le _⟩
  · refine ⟨_, l, c, fun i => zs.getD i 0, hcs, ?_, fun i hi => ?_, by omega⟩
    · by_cases h0 : l = 0
      · exact Or.inl h0
      · simp at hz
        obtain ⟨b, off, spot⟩ := y
        have hs := spot_of (hcell 0 (by omega))
        simp at hs
        subst hs
        exact Or.inr ⟨b, off, rfl, fun i hi => by rw [← add_eq]; exact hcell i (by omega)⟩
    · simp at hz
      have hiz : i < zs.length := by omega
      have hw := hwz (zs.getD i 0) (by rw [List.getD_eq_getElem?_getD, List.getElem?_eq_getElem hiz]; exact List.getElem_mem hiz)
      have := bounds_u8 hw
      show 0 ≤ zs.getD i 0 ∧ zs.getD i 0 < 256
      omega

/-- What the walk is told of a slice of bytes that came in. -/
def IsBytesR (w : World) (v : Value) : Prop := ∃ a n c f, v = .slice a n c ∧ Rd .u8 w a n f ∧ (∀ i, i < n → 0 ≤ f i ∧ f i < 256) ∧ n ≤ maxLen

theorem openByteR {r : Reach} {b0 : Nat} {v : Value} {d : DataW H} {p : List MemPlace} (hv : Value.okWide Try.prog W r b0 22 v) (h : DataW.Trod enc Try.prog W 0 (fun _ => true) true 22 v d p) : IsBytesR W v := by
  obtain ⟨a0, len, cap, rfl⟩ := okWide_slice Try.underlying22 hv
  obtain ⟨fuel, hf⟩ := h
  obtain ⟨a, n, c, f, hcs, h1, h3, h2⟩ := bytes_of hf
  simp [Value.cells] at hcs
  obtain ⟨rfl, rfl, rfl⟩ := hcs
  exact ⟨_, _, _, f, rfl, h1, h3, h2⟩
end
end Go.Proofs.Ythcclkeeekppmaa

namespace Go.Proofs.Ythcclkeeekppmaa
open Go.RowKit Go.Deep
set_option linter.unusedVariables false
set_option linter.unusedSimpArgs false
set_option maxRecDepth 100000

theorem RdN.blk {W W' : World} {q o n : Nat} {I : Nat → Int} {X R : Nat → ByteArray} (h : RdN W (some ⟨q, o, none⟩) n I X R) (hb : W'.heap[q]? = W.heap[q]?) : RdN W' (some ⟨q, o, none⟩) n I X R := by
  rcases h with h | ⟨b', o', e, hc⟩
  · exact .inl h
  · injection e with e
    injection e with e1 e2
    subst e1 e2
    refine .inr ⟨_, _, rfl, fun i hi => ?_⟩
    have hq : ∀ z, W'.cell? ⟨q, z, none⟩ = W.cell? ⟨q, z, none⟩ := fun z => by unfold World.cell?; rw [hb]
    rw [hq, hq, hq]
    exact hc i hi
section
variable {g : Nat} {b : Option Addr} {n c : Nat} {f : Nat → Int} {w : World} {q o NN cc bx B : Nat} {I : Nat → Int} {X R : Nat → ByteArray}
/-- What DrawMeaning holds while it goes on. -/
structure DmI (g : Nat) (b : Option Addr) (n c : Nat) (f : Nat → Int) (w : World) (q o NN cc bx B : Nat) (I : Nat → Int) (X R : Nat → ByteArray) (W : World) : Prop where
  dr : ∃ s', DrX W g b n c f s'
  rd : RdN W (some ⟨q, o, none⟩) NN I X R
  rs : W.heap[w.heap.size]? = some (.cells #[.slice none 0 0] 25 (0, 0))
  bx : W.heap[bx]? = some (.cells #[.slice (some ⟨q, o, none⟩) NN cc] 25 (0, 0))
  be : Below w.heap.size w W
  le : B ≤ W.heap.size
theorem DmI.call {W W' : World} (h : DmI g b n c f w q o NN cc bx B I X R W) (hg : g = w.heap.size + 1) (hq : g < q) (hqB : q < B) (hbx : g < bx) {s' : Nat × Int} (hd : DrX W' g b n c f s') (ho : W.grownBy W' (some g)) : DmI g b n c f w q o NN cc bx B I X R W' :=
  ⟨⟨s', hd⟩, h.rd.blk (ho.block q (by have := h.le; omega) (fun e => by injection e with e; omega)), (ho.block _ (blk_lt2 h.rs) (fun e => by injection e with e; omega)).trans h.rs, (ho.block _ (blk_lt2 h.bx) (fun e => by injection e with e; omega)).trans h.bx, h.be.grown ho (by have := h.be.size; exact this) (fun k e => by injection e with e; omega), Nat.le_trans h.le ho.size⟩
theorem DmI.below {W W' : World} (h : DmI g b n c f w q o NN cc bx B I X R W) (hqB : q < B) (hb : Below W.heap.size W W') : DmI g b n c f w q o NN cc bx B I X R W' := by
  obtain ⟨s', hd⟩ := h.dr
  exact ⟨⟨s', hd.below hb⟩, h.rd.blk (hb.block q (by have := h.le; omega)), (hb.block _ (blk_lt2 h.rs)).trans h.rs, (hb.block _ (blk_lt2 h.bx)).trans h.bx, h.be.trans (hb.mono h.be.size), Nat.le_trans h.le hb.size⟩
theorem DmI.new {Z : Nat} {W W' : World} {r : Option Nat} (h : DmI g b n c f w q o NN cc bx B I X R W) (hz : DrB Z g b n) (hZ : Z ≤ B) (hwB : w.heap.size < B) (hqB : q < B) (hbx : bx < B) (ho : W.grownBy W' r) (hr : ∀ k, r = some k → B ≤ k) : DmI g b n c f w q o NN cc bx B I X R W' := by
  obtain ⟨s', hd⟩ := h.dr
  have hle := h.le
  exact ⟨⟨s', hd.grown hz ho (fun k e => by have := hr k e; omega)⟩, h.rd.blk (ho.block q (by omega) (fun e => by have := hr q e.symm; omega)), (ho.block _ (blk_lt2 h.rs) (fun e => by have := hr _ e.symm; omega)).trans h.rs, (ho.block _ (blk_lt2 h.bx) (fun e => by have := hr _ e.symm; omega)).trans h.bx, h.be.grown ho h.be.size (fun k e => by have := hr k e; omega), Nat.le_trans hle ho.size⟩
end
set_option maxHeartbeats 8000000 in
theorem drawMe : DmOk := by
  intro b n c f w hrd hn hf
  have HR : Hid (Rd .u8 w b n f ∧ (∀ j, j < n → 0 ≤ f j ∧ f j < 256)) := ⟨hrd, hf⟩
  have HB : Hid (n ≠ 0 → ∀ x, b = some x → x.block < w.heap.size) := fun h x e => rd_blockLt hrd h x e
  clear hrd hf
  go_enter Try.func5, Try.ntmps5
  go_wp2_with fail
  refine (l1New_x b n c f _ (HR.out.1.below (below_alloc _ _)) hn HR.out.2).mono ?_
  rintro e w1 ⟨rfl, hd1, hb1⟩
  have hz1 : w.heap.size + 1 ≤ w1.heap.size := by have := hb1.size; simpa using this
  have hlt := hd1.cur.cells.2.2.2.2
  have eg : (w.alloc (.cells #[.slice none 0 0] 25)).heap.size = w.heap.size + 1 := by simp
  rw [eg] at hd1 hlt
  have hbx : w1.heap[w.heap.size]? = some (.cells #[.slice none 0 0] 25 (0, 0)) := (hb1.block w.heap.size (by simp)).trans Array.getElem?_push_size
  have HZ : Hid (DrB (w.heap.size + 2) (w.heap.size + 1) b n) := ⟨by omega, fun h x e => by have := HB.out h x e; omega⟩
  have H1 : Hid (DrX w1 (w.heap.size + 1) b n c f (0, hN f n n) ∧ Below w.heap.size w w1 ∧ w1.heap[w.heap.size]? = some (.cells #[.slice none 0 0] 25 (0, 0))) := ⟨hd1, (below_alloc _ _).trans (hb1.mono (by simp)), hbx⟩
  clear hd1 hb1 hbx
  go_wp2_with fail
  refine (l6Any_x HZ.out (by omega) H1.out.1).mono ?_
  rintro e w2 ⟨v, rfl, ⟨q, o, NN, cc, I, X, R, rfl, hq1, hq2, hrdn, hNN, hNc, hcm⟩, ⟨s2, hd2⟩, hg2⟩
  have hz2 := hg2.size
  obtain ⟨W2, hW2⟩ : ∃ W, W = w2.alloc (.cells #[.slice (some ⟨q, o, none⟩) NN cc] 25) := ⟨_, rfl⟩
  have hsz2 : W2.heap.size = w2.heap.size + 1 := by rw [hW2]; simp
  have hI : DmI (w.heap.size + 1) b n c f w q o NN cc w2.heap.size (w2.heap.size + 1) I X R W2 := by
    have hbb : Below w2.heap.size w2 W2 := by rw [hW2]; exact below_alloc _ _
    have hb2 : w2.heap[w.heap.size]? = some (.cells #[.slice none 0 0] 25 (0, 0)) := (hg2.block w.heap.size (by omega) (fun e => by injection e with e; omega)).trans H1.out.2.2
    have hbe : Below w.heap.size w w2 := H1.out.2.1.grown hg2 (by omega) (fun k e => by injection e with e; omega)
    exact ⟨⟨s2, hd2.below hbb⟩, hrdn.below hbb, (hbb.block _ (blk_lt2 hb2)).trans hb2, by rw [hW2]; exact Array.getElem?_push_size, hbe.trans (hbb.mono hbe.size), by omega⟩
  have HI : Hid (DmI (w.heap.size + 1) b n c f w q o NN cc w2.heap.size (w2.heap.size + 1) I X R W2) := hI
  clear hI hrdn hd2 hg2 H1
  go_upto_region 3 with fail
  rw [← hW2]
  clear hW2
  have hgq : w.heap.size + 1 < q := by omega
  have hqB : q < w2.heap.size + 1 := by omega
  have hgb : w.heap.size + 1 < w2.heap.size := by omega
  generalize w2.heap.size = bx at *
  go_wp2_with fail
  refine (most_any b n c W2 hn).mono ?_
  rintro e w3 ⟨km, rfl, hk1, hk2, rfl⟩
  obtain ⟨s3, hd3⟩ := HI.out.dr
  go_wp2_with fail
  refine (l1Below_x hd3 (km : Int) (by omega) (by omega)).mono ?_
  rintro e w4 ⟨rfl, hd4, hg4⟩
  obtain ⟨r0, r1⟩ := nBl_range f n (show (1 : Int) ≤ (km : Int) by omega) s3
  obtain ⟨k1, hk1'⟩ : ∃ k1 : Nat, nBl f n (km : Int) s3 = (k1 : Int) := ⟨(nBl f n (km : Int) s3).toNat, by omega⟩
  rw [hk1'] at r0 r1 ⊢
  have hk14 : k1 ≤ 34 := by omega
  have H4 : Hid (DmI (w.heap.size + 1) b n c f w q o NN cc bx (bx + 1) I X R w4) := HI.out.call rfl hgq hqB hgb hd4 hg4
  have Hd4 : Hid (DrX w4 (w.heap.size + 1) b n c f (nS n (km : Int) s3)) := hd4
  clear hd3 hd4 hg4 HI hk1' r0 r1
  generalize nS n (km : Int) s3 = s4 at *
  go_wp2_with fail
  refine (l1Once_x Hd4.out 60 (by omega) (by omega)).mono ?_
  rintro e w5 ⟨rfl, hd5, hg5⟩
  have H5 : Hid (DmI (w.heap.size + 1) b n c f w q o NN cc bx (bx + 1) I X R w5 ∧ DrX w5 (w.heap.size + 1) b n c f (nS n 60 s4)) := ⟨H4.out.call rfl hgq hqB hgb hd5 hg5, hd5⟩
  clear hd5 hg5 H4 Hd4
  generalize nS n 60 s4 = s5 at *
  go_upto_if 18 with fail
  go_cut [6] from 9 to 34 (fun s6 wx => ∃ N : Nat, s6 = .int .i64 (N : Int) ∧ N ≤ 400 ∧ DmI (w.heap.size + 1) b n c f w q o NN cc bx (bx + 1) I X R wx)
  case first =>
    by_cases h0 : nBl f n 60 s4 = 0
    · have e0 : (nBl f n 60 s4 == 0) = true := by simp [h0]
      go_wp2_with fail
      refine (l1Below_x H5.out.2 2 (by omega) (by omega)).mono ?_
      rintro e w6 ⟨rfl, hd6, hg6⟩
      obtain ⟨x0, x1⟩ := nBl_range f n (k := 2) (by omega) s5
      obtain ⟨m, hm⟩ : ∃ m : Nat, (m : Int) = 300 + nBl f n 2 s5 := ⟨(300 + nBl f n 2 s5).toNat, by omega⟩
      have ew : IntKind.i64.wrap (300 + nBl f n 2 s5) = (m : Int) := by rw [IntKind.wrap_i64]; omega
      have ew' : 300 + nBl f n 2 s5 = (m : Int) := by omega
      have hm4 : m ≤ 400 := by omega
      have H6 : Hid (DmI (w.heap.size + 1) b n c f w q o NN cc bx (bx + 1) I X R w6) := H5.out.1.call rfl hgq hqB hgb hd6 hg6
      clear hd6 hg6 hm x0 x1
      generalize nBl f n 2 s5 = xx at *
      go_wp2
      go_meet
      exact ⟨m, rfl, hm4, H6.out⟩
    · have e0 : (nBl f n 60 s4 == 0) = false := by simp [h0]
      clear h0
      go_wp2
      go_meet
      exact ⟨k1, rfl, by omega, H5.out.1⟩
  case rest =>
    obtain ⟨N, rfl, hN4, hI⟩ := hcut
    have H6 : Hid (DmI (w.heap.size + 1) b n c f w q o NN cc bx (bx + 1) I X R wc) := hI
    have hle := hI.le
    clear hI H5
    generalize wc = w6 at *
    go_wp2
    go_loopw [7, 8] (fun u i wr => ∃ (k : Nat) (fs : List Fc), k ≤ N ∧ i = .int .i64 (k : Int) ∧ fs.length = k ∧ FcOk fs ∧ wr.ownsRow w6.heap.size 38 4 u k (fcRow fs) ∧ DmI (w.heap.size + 1) b n c f w q o NN cc bx (bx + 1) I X R wr ∧ w6.heap.size ≤ wr.heap.size) (fun _ i _ => N - (intOf i).toNat)
    case atStart => exact ⟨0, [], Nat.zero_le _, rfl, rfl, fun x hx => (by cases hx), own_empty w6 38 w6.heap.size 4 (Nat.le_refl _), H6.out.below hqB (below_alloc _ _), by simp⟩
    case round =>
      obtain ⟨k, fs, hk, rfl, hfl, hfo, hown, hI, hsz⟩ := hrel
      have HO : Hid (fs.length = k ∧ FcOk fs ∧ wr.ownsRow w6.heap.size 38 4 u7 k (fcRow fs) ∧ DmI (w.heap.size + 1) b n c f w q o NN cc bx (bx + 1) I X R wr) := ⟨hfl, hfo, hown, hI⟩
      obtain ⟨sr, hdr⟩ := hI.dr
      have hbe := hI.be.size
      clear hfl hfo hown hI
      by_cases hlt : k < N
      · have ik : (k : Int) < (N : Int) := by omega
        go_wp2_with fail
        refine (l5Fact_x HZ.out (by have := HO.out.2.2.2.le; omega) hdr).mono ?_
        rintro e w7 ⟨x, rfl, ⟨hx1, hx2⟩, ⟨s7, hd7⟩, hg7⟩
        have hz7 := hg7.size
        have H7 : Hid (DmI (w.heap.size + 1) b n c f w q o NN cc bx (bx + 1) I X R w7 ∧ w7.ownsRow w6.heap.size 38 4 u7 k (fcRow fs) ∧ FcOk (fs ++ [x])) := ⟨HO.out.2.2.2.call rfl hgq hqB hgb hd7 hg7, plS_keep HO.out.2.2.1 (fun g' e => hg7.block g' (own_lt HO.out.2.2.1 g' e).2 (fun e' => by injection e' with e'; have := (own_lt HO.out.2.2.1 g' e).1; omega)), fun y hy => by
          rcases List.mem_append.1 hy with hy | hy
          · exact HO.out.2.1 y hy
          · rw [List.mem_singleton] at hy
            rw [hy]
            unfold maxLen
            omega⟩
        clear hd7 hg7 hdr hx1 hx2
        go_wp2_with (at_builtin; refine app_fc rfl _ _ rfl w6.heap.size k u7 fs x rfl H7.out.2.1 rfl (by omega) (by omega) ?_)
        intro v' w8 ho8 hg8
        have hz8 : w7.heap.size + 1 ≤ w8.heap.size := by have := hg8.size; simpa using this
        have H8 : Hid (DmI (w.heap.size + 1) b n c f w q o NN cc bx (bx + 1) I X R w8 ∧ w8.ownsRow w6.heap.size 38 4 v' (k + 1) (fcRow (fs ++ [x])) ∧ (fs ++ [x]).length = k + 1) := ⟨(H7.out.1.below hqB (below_alloc _ _)).new HZ.out (by omega) (by omega) hqB (by omega) hg8 (fun g' e => by have := (own_lt H7.out.2.1 g' e).1; omega), ho8, by rw [List.length_append, HO.out.1]; rfl⟩
        clear ho8 hg8
        go_wp2
        go_roundw
        case rel => exact ⟨k + 1, fs ++ [x], by omega, by go_num, H8.out.2.2, H7.out.2.2, H8.out.2.1, H8.out.1, by omega⟩
        case measure => simp [intOf]; omega
      · obtain rfl : k = N := by omega
        have ik : ¬ (k : Int) < (k : Int) := by omega
        obtain ⟨fa, fc, hu7, hrf, hfc, hfcm⟩ := rdF_own HO.out.2.2.1 HO.out.1.symm
        subst hu7
        have hb5 := HO.out.2.2.2.bx
        have hrs := HO.out.2.2.2.rs
        have p0 : wr.cell? ⟨bx, 0, none⟩ = some (.slice (some ⟨q, o, none⟩) NN cc) := by simp [World.cell?, hb5]
        have q0 : wr.cell? ⟨w.heap.size, 0, none⟩ = some (.slice none 0 0) := by simp [World.cell?, hrs]
        have qf : ∀ o, wr.frozen? ⟨w.heap.size, o, none⟩ = false := fun o => by simp [World.frozen?, hrs]
        have hzz : w.heap.size < wr.heap.size := blk_lt2 hrs
        have HF : Hid (DmRet w (.returned (.tuple #[.agg #[.slice (some ⟨q, o, none⟩) NN cc], .slice fa k fc])) (wr.setCell ⟨w.heap.size, 0, none⟩ (.slice (some ⟨q, o, none⟩) NN cc))) := by
          have hk' : k = fs.length := HO.out.1.symm
          have hrd2 : RdN (wr.setCell ⟨w.heap.size, 0, none⟩ (.slice (some ⟨q, o, none⟩) NN cc)) (some ⟨q, o, none⟩) NN I X R := HO.out.2.2.2.rd.blk (Below.heap_setCell _ _ _ _ (by show q ≠ w.heap.size; omega))
          have hrf2 : RdF (wr.setCell ⟨w.heap.size, 0, none⟩ (.slice (some ⟨q, o, none⟩) NN cc)) fa fs := by
            have ho2 : (wr.setCell ⟨w.heap.size, 0, none⟩ (.slice (some ⟨q, o, none⟩) NN cc)).ownsRow w6.heap.size 38 4 (.slice fa k fc) k (fcRow fs) := plS_keep HO.out.2.2.1 (fun g' e => Below.heap_setCell _ _ _ _ (by have := (own_lt HO.out.2.2.1 g' e).1; show g' ≠ w.heap.size; omega))
            obtain ⟨fa', fc', e1, h1, _⟩ := rdF_own ho2 hk'
            injection e1 with e1
            rw [e1]
            exact h1
          refine ⟨q, o, NN, cc, I, X, R, fa, fc, fs, by rw [hk'], hrd2, hNN, hNc, hcm, hrf2, HO.out.2.1, by omega, by omega, hfcm, HO.out.2.2.2.be.setCell (Nat.le_refl _) _⟩
        clear hrf hb5 hrs HO hdr
        go_wp2
        refine bodyPost_ret (v := .tuple #[.agg #[.slice (some ⟨q, o, none⟩) NN cc], .slice fa k fc]) (by simp [results, Try.results5, go_sem, q0]) rfl HF.out
/-- For the frame: openByteR . -/
theorem faLaw (v v' : Value) (w : World) (hv : IsBytesR w v) (hv' : IsBytesR w v') : Calls Try.prog 3 #[v, v'] w fun e w' => e = .returned (.bool true) ∧ Below w.heap.size w w' := by
  obtain ⟨a, n, c, f, rfl, h1, h2, h3⟩ := hv
  obtain ⟨a', n', c', f', rfl, h1', h2', h3'⟩ := hv'
  exact faLaw0 drawMe a a' n n' c c' f f' w h1 h2 h3 h1' h2' h3'
end Go.Proofs.Ythcclkeeekppmaa
