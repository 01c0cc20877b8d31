import Derived.Test.YtocmbnocdjnfpaaNk6
import Derived.Test.YtocmbnocdjnfpaaNk4
import Derived.Test.YtocmbnocdjnfpaaNk8
import Derived.Test.YtocmbnocdjnfpaaNk3
import Derived.Deep.CutBlock
import Derived.BigQuiet
import Derived.Test.YtocmbnocdjnfpaaRows
import Derived.Test.YtocmbnocdjnfpaaOwn
namespace Go.Proofs.Ytocmbnocdjnfpaa
open Go.RowKit Go.Deep
set_option linter.unusedVariables false
set_option linter.unusedSimpArgs false
set_option maxRecDepth 100000

/-- A PathRes as it is handed back. -/
def PVal (er at_ : Int) (v : Value) : Value := .agg #[.int .i64 er, .int .i64 at_, v]
def PaRet (f : Nat → Int) (n m : Nat) (w : World) (e : Ending) (w' : World) : Prop :=
  ∃ er at_ v l, e = .returned (PVal er at_ v) ∧ PAns f n m er at_ l ∧ NdA w' w.heap.size v l ∧ Below w.heap.size w w'
theorem NdA.nil (w : World) (B : Nat) : NdA w B (.slice none 0 0) [] := ⟨rfl, .inl ⟨rfl, rfl⟩⟩
theorem NdA.mono {w : World} {B B' : Nat} {v : Value} {l : List Nd} (h : NdA w B v l) (hb : B' ≤ B) : NdA w B' v l := Go.Joins.ownsRow_le h hb

theorem NdA.setLow {w : World} {B : Nat} {v : Value} {l : List Nd} (h : NdA w B v l) {a : Addr} (ha : a.block < B) (u : Value) : NdA (w.setCell a u) B v l :=
  plS_keep h (fun g e => Below.heap_setCell w a u g (by have := (h.lt g e).1; omega))
theorem NdA.row {w : World} {B : Nat} {v : Value} {l : List Nd} (h : NdA w B v l) : (v = .slice none 0 0 ∧ l = []) ∨ ∃ g c, v = .slice (some ⟨g, 0, none⟩) l.length c ∧ B ≤ g ∧ rowIn w g 61 (l.length * 3) (pnCell (nI l) (nX l) (nR l)) := by
  obtain ⟨h0, ⟨e, h1⟩ | ⟨g, cap, cur, e, hg, hh, h1, h2, h3, h4⟩⟩ := h
  · exact .inl ⟨e, List.length_eq_zero_iff.1 h1⟩
  · refine .inr ⟨g, cap, e, hg, cur, hh, by rw [h3]; exact Nat.mul_le_mul_right 3 h1, fun i hi => ?_⟩
    have e4 : cur[i]? = (ndR l)[i]? := by
      rw [← h4, List.getElem?_take, if_pos hi]
      simp
    rw [e4]
    have hi3 : i = (i / 3) * 3 + i % 3 := by omega
    have := ndR_get l (i / 3) (i % 3) (by omega) (by omega)
    rw [← hi3] at this
    rw [this]
    unfold pnCell
    have h3 : i % 3 = 0 ∨ i % 3 = 1 ∨ i % 3 = 2 := by omega
    rcases h3 with q | q | q
    · rw [q, if_pos rfl]; rfl
    · rw [q, if_neg (by omega), if_pos rfl]; rfl
    · rw [q, if_neg (by omega), if_neg (by omega)]; rfl
end Go.Proofs.Ytocmbnocdjnfpaa

namespace Go.Proofs.Ytocmbnocdjnfpaa
open Go.RowKit Go.Deep
set_option linter.unusedVariables false
set_option linter.unusedSimpArgs false
set_option maxRecDepth 100000

/-- A path's nodes that can be read, whatever they are, in new memory. -/
def NdQ (w : World) (B : Nat) (v : Value) : Prop := ∃ q o n c I X R, v = .slice (some ⟨q, o, none⟩) n c ∧ B ≤ q ∧ q < w.heap.size ∧ RdN w (some ⟨q, o, none⟩) n I X R ∧ n ≤ 2000 ∧ n ≤ c ∧ c ≤ 9223372036854775807
theorem NRow.rd {w : World} {g n : Nat} (h : NRow w g n) : ∃ I X R, RdN w (some ⟨g, 0, none⟩) n I X R := by
  obtain ⟨I, X, R, h⟩ := h
  refine ⟨I, X, R, .inr ⟨g, 0, rfl, fun i hi => ⟨?_, ?_, ?_⟩⟩⟩
  · have := h.cell (i := i * 3) (by omega); rw [pnCell_0] at this; rwa [Nat.zero_add]
  · have := h.cell (i := i * 3 + 1) (by omega); rw [pnCell_1] at this; rwa [Nat.zero_add]
  · have := h.cell (i := i * 3 + 2) (by omega); rw [pnCell_2] at this; rwa [Nat.zero_add]
theorem NRow.rdFrom {w : World} {g n : Nat} (h : NRow w g (n + 1)) : ∃ I X R, RdN w (some ⟨g, 3, none⟩) n I X R := by
  obtain ⟨I, X, R, h⟩ := h
  refine ⟨fun i => I (i + 1), fun i => X (i + 1), fun i => R (i + 1), .inr ⟨g, 3, rfl, fun i hi => ⟨?_, ?_, ?_⟩⟩⟩
  · have := h.cell (i := (i + 1) * 3) (by omega); rw [pnCell_0] at this; rwa [show 3 + i * 3 = (i + 1) * 3 by omega]
  · have := h.cell (i := (i + 1) * 3 + 1) (by omega); rw [pnCell_1] at this; rwa [show 3 + i * 3 + 1 = (i + 1) * 3 + 1 by omega]
  · have := h.cell (i := (i + 1) * 3 + 2) (by omega); rw [pnCell_2] at this; rwa [show 3 + i * 3 + 2 = (i + 1) * 3 + 2 by omega]
theorem NRow.keep {w w' : World} {g n : Nat} (h : NRow w g n) (hb : w'.heap[g]? = w.heap[g]?) : NRow w' g n := by
  obtain ⟨I, X, R, h⟩ := h
  exact ⟨I, X, R, h.of_block hb⟩
theorem NRow.lt {w : World} {g n : Nat} (h : NRow w g n) : g < w.heap.size := by
  obtain ⟨I, X, R, h⟩ := h
  exact h.lt
theorem NdQ.fr {w w' : World} {B g : Nat} {v : Value} (h : NdQ w B v) (hg : w.grownBy w' (some g)) (hB : g < B) : NdQ w' B v := by
  obtain ⟨q, o, n, c, I, X, R, e, h1, h2, h3, h4⟩ := h
  have hb : w'.heap[q]? = w.heap[q]? := hg.block q h2 (fun e => by injection e with e; omega)
  refine ⟨q, o, n, c, I, X, R, e, h1, Nat.lt_of_lt_of_le h2 hg.size, ?_, h4⟩
  rcases h3 with h3 | ⟨x, y, e, h3⟩
  · exact .inl h3
  · injection e with e
    injection e with e1 e2
    subst e1 e2
    refine .inr ⟨_, _, rfl, fun i hi => ?_⟩
    have hq : ∀ z, w'.cell? ⟨q, z, none⟩ = w.cell? ⟨q, z, none⟩ := fun z => by unfold World.cell?; rw [hb]
    rw [hq, hq, hq]
    exact h3 i hi
theorem NdQ.mono {w : World} {B B' : Nat} {v : Value} (h : NdQ w B v) (hb : B' ≤ B) : NdQ w B' v := by
  obtain ⟨q, o, n, c, I, X, R, e, h1, h2⟩ := h
  exact ⟨q, o, n, c, I, X, R, e, Nat.le_trans hb h1, h2⟩
theorem NdA.q {w : World} {B : Nat} {v : Value} {l : List Nd} (h : NdA w B v l) (h0 : 0 < l.length) (h1 : l.length ≤ 2000) : NdQ w B v := by
  obtain ⟨a, c, e, hc, hcm, hr⟩ := h.rd
  obtain ⟨_, rfl⟩ | ⟨g, c', e', hg, hw⟩ := h.row
  · simp at h0
  · rw [e] at e'
    injection e' with ea _ ec
    subst ea ec
    exact ⟨g, 0, _, _, _, _, _, e, hg, hw.lt, hr, h1, hc, hcm⟩
/-- What hands back a path. -/
def PthQ (g : Nat) (b : Option Addr) (n c : Nat) (f : Nat → Int) (w : World) (e : Ending) (w' : World) : Prop :=
  ∃ v, e = .returned (.agg #[v]) ∧ NdQ w' w.heap.size v ∧ (∃ s', DrX w' g b n c f s') ∧ w.grownBy w' (some g)
/-- A path being spoilt. -/
structure SpI (g : Nat) (b : Option Addr) (n c : Nat) (f : Nat → Int) (w W : World) (q N : Nat) : Prop where
  row : NRow W q N
  lo : w.heap.size + 2 ≤ q
  dr : ∃ s', DrX W g b n c f s'
  fr : w.grownBy W (some g)
  box : W.heap[w.heap.size + 1]? = some (.cells #[.slice none 0 0] 29 (0, 0))
section
variable {Z g : Nat} {b : Option Addr} {n c : Nat} {f : Nat → Int} {s : Nat × Int} {w W : World} {q N : Nat}
theorem SpI.set (h : SpI g b n c f w W q N) (hz : DrB Z g b n) (hZ : Z ≤ w.heap.size) {W' : World} (hr : NRow W' q N) (hg : W.grownBy W' (some q)) : SpI g b n c f w W' q N := by
  have hlo := h.lo
  obtain ⟨s', hd⟩ := h.dr
  exact ⟨hr, hlo, ⟨s', hd.grown hz hg (fun x e => by injection e with e; omega)⟩, fr_new h.fr hg (fun x e => by injection e with e; omega), (hg.block _ (blk_lt2 h.box) (fun e => by injection e with e; omega)).trans h.box⟩
theorem SpI.draw (h : SpI g b n c f w W q N) (hg0 : g < w.heap.size) {W' : World} {s' : Nat × Int} (hd : DrX W' g b n c f s') (hg : W.grownBy W' (some g)) : SpI g b n c f w W' q N := by
  have hlo := h.lo
  exact ⟨h.row.keep (hg.block q h.row.lt (fun e => by injection e with e; omega)), hlo, ⟨s', hd⟩, grownN_trans h.fr hg, (hg.block _ (blk_lt2 h.box) (fun e => by injection e with e; omega)).trans h.box⟩
theorem SpI.done (h : SpI g b n c f w W q N) (hz : DrB Z g b n) (hZ : Z ≤ w.heap.size) (C : Nat) (h1 : N ≤ 2000) (h2 : N ≤ C) (h3 : C ≤ 9223372036854775807) : PthQ g b n c f w (.returned (.agg #[.slice (some ⟨q, 0, none⟩) N C])) (W.setCell ⟨w.heap.size + 1, 0, none⟩ (.slice (some ⟨q, 0, none⟩) N C)) := by
  have hlo := h.lo
  obtain ⟨s', hd⟩ := h.dr
  have hr : NRow (W.setCell ⟨w.heap.size + 1, 0, none⟩ (.slice (some ⟨q, 0, none⟩) N C)) q N := h.row.keep (Below.heap_setCell _ _ _ _ (by show q ≠ w.heap.size + 1; omega))
  obtain ⟨I, X, R, hrd⟩ := hr.rd
  exact ⟨_, rfl, ⟨q, 0, N, C, I, X, R, rfl, by omega, hr.lt, hrd, h1, h2, h3⟩, ⟨s', hd.grown hz grownN_set (fun x e => by injection e with e; omega)⟩, fr_new h.fr grownN_set (fun x e => by injection e with e; omega)⟩
theorem SpI.doneFrom (h : SpI g b n c f w W q (N + 1)) (hz : DrB Z g b n) (hZ : Z ≤ w.heap.size) (C : Nat) (h1 : N ≤ 2000) (h2 : N ≤ C) (h3 : C ≤ 9223372036854775807) : PthQ g b n c f w (.returned (.agg #[.slice (some ⟨q, 3, none⟩) N C])) (W.setCell ⟨w.heap.size + 1, 0, none⟩ (.slice (some ⟨q, 3, none⟩) N C)) := by
  have hlo := h.lo
  obtain ⟨s', hd⟩ := h.dr
  have hr : NRow (W.setCell ⟨w.heap.size + 1, 0, none⟩ (.slice (some ⟨q, 3, none⟩) N C)) q (N + 1) := h.row.keep (Below.heap_setCell _ _ _ _ (by show q ≠ w.heap.size + 1; omega))
  obtain ⟨I, X, R, hrd⟩ := hr.rdFrom
  exact ⟨_, rfl, ⟨q, 3, N, C, I, X, R, rfl, by omega, hr.lt, hrd, h1, h2, h3⟩, ⟨s', hd.grown hz grownN_set (fun x e => by injection e with e; omega)⟩, fr_new h.fr grownN_set (fun x e => by injection e with e; omega)⟩
theorem SpI.done0 (h : SpI g b n c f w W q N) (hz : DrB Z g b n) (hZ : Z ≤ w.heap.size) : PthQ g b n c f w (.returned (.agg #[.slice (some ⟨q, 0, none⟩) 0 0])) (W.setCell ⟨w.heap.size + 1, 0, none⟩ (.slice (some ⟨q, 0, none⟩) 0 0)) := by
  have hlo := h.lo
  obtain ⟨s', hd⟩ := h.dr
  exact ⟨_, rfl, ⟨q, 0, 0, 0, fun _ => 0, fun _ => ⟨#[]⟩, fun _ => ⟨#[]⟩, rfl, by omega, by have := h.row.lt; simpa using this, .inl rfl, by omega, by omega, by omega⟩, ⟨s', hd.grown hz grownN_set (fun x e => by injection e with e; omega)⟩, fr_new h.fr grownN_set (fun x e => by injection e with e; omega)⟩
theorem SpI.boxes (h : SpI g b n c f w W q N) : W.cell? ⟨w.heap.size + 1, 0, none⟩ = some (.slice none 0 0) ∧ (∀ o, W.frozen? ⟨w.heap.size + 1, o, none⟩ = false) ∧ w.heap.size + 1 < W.heap.size := by
  have hb := h.box
  exact ⟨by simp [World.cell?, hb], fun o => by simp [World.frozen?, hb], blk_lt2 hb⟩
end
end Go.Proofs.Ytocmbnocdjnfpaa

namespace Go.Proofs.Ytocmbnocdjnfpaa
open Go.RowKit Go.Deep
set_option linter.unusedVariables false
set_option linter.unusedSimpArgs false
set_option maxRecDepth 100000

theorem nd0 (w : World) (x : Nat) (hx : w.heap.size = x) : NdA (w.alloc (.cells #[] 61)) x (.slice (some ⟨x, 0, none⟩) 0 0) [] := by
  subst hx
  exact ndLits w [] (by decide)
set_option maxHeartbeats 4000000 in
theorem l6Spoil_x {Z g : Nat} {b : Option Addr} {n c : Nat} {f : Nat → Int} {s : Nat × Int} {w : World} (hz : DrB Z g b n) (hZ : Z ≤ w.heap.size) (h : DrX w g b n c f s) {By : Nat} {u : Value} {l : List Nd} (hy : NdA w By u l) (h0 : 0 < l.length) (h1 : l.length ≤ 1000) :
    Calls Try.prog 95 #[.pointer (some ⟨g, 0, none⟩), .agg #[u]] w (PthQ g b n c f w) := by
  have H : Hid (DrX w g b n c f s ∧ NdA w By u l) := ⟨h, hy⟩
  have HZ : Hid (DrB Z g b n) := hz
  have hzg := hz.1
  obtain ⟨ua, uc, rfl, huc, hucm, -⟩ := hy.rd
  clear h hz hy
  obtain ⟨NN, hNN⟩ : ∃ NN, NN = l.length := ⟨_, rfl⟩
  have HN : Hid (NN = l.length) := hNN
  rw [← hNN] at h0 h1 huc ⊢
  clear hNN
  have n0 : ((NN : Int) == 0) = false := by have : (NN : Int) ≠ 0 := by omega
                                            simpa using this
  go_enter Try.func95, Try.ntmps95
  go_wp2_with (at_builtin; refine app_ndl rfl _ _ rfl (w.heap.size + 2) _ [] rfl (nd0 _ (w.heap.size + 2) (by simp)) _ l (congrArg (fun x => Value.slice ua x uc) HN.out) (((H.out.2.below (below_alloc _ _)).below (below_alloc _ _)).below (below_alloc _ _)) (by have := HN.out; simp; omega) (by have := HN.out; omega) (by simp) ?_)
  intro v' w1 hown' hgrow hsm
  obtain ⟨e0, e1⟩ | ⟨q, qc, ev, hq, hrow⟩ := hown'.row
  · exfalso; have := HN.out; rw [e1] at this; simp at this; omega
  subst ev
  obtain ⟨qa, qd, ev2, hqc, hqcm, -⟩ := hown'.rd
  have ec2 : qd = qc := by injection ev2 with _ _ ev2; exact ev2.symm
  rw [ec2] at hqc hqcm
  clear ev2 ec2 qa qd
  rw [← HN.out] at hrow hqc ⊢
  have hgrow : ((((w.alloc (.cells #[.slice ua NN uc] 29)).alloc (.cells #[.slice none 0 0] 29)).alloc (.cells #[] 61))).grownBy w1 (some (w.heap.size + 2)) := hgrow
  have hgx : w.grownBy w1 (some g) := fr_new (grownN_below (((below_alloc _ _).alloc (by simp) _).alloc (by simp; omega) _) _) hgrow (fun x e => by injection e with e; omega)
  have hbx : w1.heap[w.heap.size + 1]? = some (.cells #[.slice none 0 0] 29 (0, 0)) := by
    refine (hgrow.block (w.heap.size + 1) (by simp) (fun e => by injection e with e; omega)).trans (((below_alloc _ _).block (w.heap.size + 1) (by simp)).trans ?_)
    rw [show w.heap.size + 1 = (w.alloc (.cells #[.slice ua NN uc] 29)).heap.size by simp]
    exact Array.getElem?_push_size
  have I1 : Hid (SpI g b n c f w w1 q NN ∧ NdA w1 (w.heap.size + 2) (.slice (some ⟨q, 0, none⟩) l.length qc) l) := ⟨⟨⟨_, _, _, hrow⟩, hq, ⟨s, (((H.out.1.below (below_alloc _ _)).below (below_alloc _ _)).below (below_alloc _ _)).grown HZ.out hgrow (fun x e => by injection e with e; omega)⟩, hgx, hbx⟩, hown'⟩
  clear hown' hgrow hsm hrow hgx hbx H
  obtain ⟨s1, hd1⟩ := I1.out.1.dr
  have HD1 : Hid (DrX w1 g b n c f s1) := hd1
  clear hd1
  go_wp2_with fail
  refine (l1Below_x HD1.out NN (by omega) (by omega)).mono ?_
  rintro e w2 ⟨rfl, hd2, ho2⟩
  have I2 : Hid (SpI g b n c f w w2 q NN ∧ NdA w2 (w.heap.size + 2) (.slice (some ⟨q, 0, none⟩) l.length qc) l ∧ DrX w2 g b n c f (nS n NN s1)) := ⟨I1.out.1.draw (by omega) hd2 ho2, I1.out.2.fr ho2 (by omega), hd2⟩
  obtain ⟨i0, i1⟩ := nBl_range f n (k := NN) (by omega) s1
  obtain ⟨i, hi⟩ : ∃ i : Nat, (i : Int) = nBl f n NN s1 := ⟨(nBl f n NN s1).toNat, by omega⟩
  rw [← hi] at i0 i1 ⊢
  have hiN : i < NN := by omega
  clear hi hd2 ho2 I1 HD1
  generalize nS n NN s1 = s2 at *
  go_wp2_with fail
  refine (l1Below_x I2.out.2.2 6 (by omega) (by omega)).mono ?_
  rintro e w3 ⟨rfl, hd3, ho3⟩
  have I3 : Hid (SpI g b n c f w w3 q NN ∧ NdA w3 (w.heap.size + 2) (.slice (some ⟨q, 0, none⟩) l.length qc) l ∧ DrX w3 g b n c f (nS n 6 s2)) := ⟨I2.out.1.draw (by omega) hd3 ho3, I2.out.2.1.fr ho3 (by omega), hd3⟩
  obtain ⟨k0, k1⟩ := nBl_range f n (k := 6) (by omega) s2
  generalize nBl f n 6 s2 = k at *
  generalize nS n 6 s2 = s3 at *
  clear hd3 ho3 I2
  have HF : Hid (∀ W, SpI g b n c f w W q NN → PthQ g b n c f w (.returned (.agg #[.slice (some ⟨q, 0, none⟩) NN qc])) (W.setCell ⟨w.heap.size + 1, 0, none⟩ (.slice (some ⟨q, 0, none⟩) NN qc))) := fun W hW => hW.done HZ.out hZ qc (by omega) hqc hqcm
  have hqn : q ≠ w.heap.size + 1 := by omega
  have aj : (Addr.mk q 0 none).add (i * 3) = ⟨q, i * 3, none⟩ := by rw [Addr.add_lit, Nat.zero_add]
  have tl : Int.toNat (i : Int) = i := rfl
  have ni : ¬ (i : Int) < 0 := by omega
  by_cases e0 : k = 0
  · subst e0
    go_wp2_with fail
    refine (l1Below_x I3.out.2.2 11 (by omega) (by omega)).mono ?_
    rintro e w4 ⟨rfl, hd4, ho4⟩
    have I4 : Hid (SpI g b n c f w w4 q NN) := I3.out.1.draw (by omega) hd4 ho4
    generalize nBl f n 11 s3 = kk at *
    clear hd4 ho4 I3
    obtain ⟨x0, x1, x2, cx0, cx1, cx2, qf, hqz⟩ := I4.out.row.cells hiN
    have I5 : Hid (SpI g b n c f w (w4.setCell ⟨q, i * 3, none⟩ (.int .i64 kk)) q NN) := I4.out.set HZ.out hZ (I4.out.row.set0 kk) grownN_set
    obtain ⟨b0, bf, bz⟩ := I5.out.boxes
    have HF2 := HF.out _ I5.out
    have HF3 : Hid (PthQ g b n c f w (.returned (.agg #[.slice (some ⟨q, 0, none⟩) NN qc])) ((w4.setCell ⟨q, i * 3, none⟩ (.int .i64 kk)).setCell ⟨w.heap.size + 1, 0, none⟩ (.slice (some ⟨q, 0, none⟩) NN qc))) := HF2
    clear HF HF2
    go_wp2
    refine bodyPost_ret (v := .agg #[.slice (some ⟨q, 0, none⟩) NN qc]) (by simp [results, Try.results95, go_sem, b0]) rfl HF3.out
  have m0 : (k == 0) = false := by simp [e0]
  by_cases e1 : k = 1
  · subst e1
    obtain ⟨x0, x1, x2, cx0, cx1, cx2, qf, hqz⟩ := I3.out.1.row.cells hiN
    have I5 : Hid (SpI g b n c f w (w3.setCell ⟨q, i * 3 + 1, none⟩ (.string { data := #[] })) q NN) := I3.out.1.set HZ.out hZ (I3.out.1.row.set1 { data := #[] }) grownN_set
    obtain ⟨b0, bf, bz⟩ := I5.out.boxes
    have HF2 := HF.out _ I5.out
    have HF3 : Hid (PthQ g b n c f w (.returned (.agg #[.slice (some ⟨q, 0, none⟩) NN qc])) ((w3.setCell ⟨q, i * 3 + 1, none⟩ (.string { data := #[] })).setCell ⟨w.heap.size + 1, 0, none⟩ (.slice (some ⟨q, 0, none⟩) NN qc))) := HF2
    clear HF HF2
    go_wp2
    refine bodyPost_ret (v := .agg #[.slice (some ⟨q, 0, none⟩) NN qc]) (by simp [results, Try.results95, go_sem, b0]) rfl HF3.out
  have m1 : (k == 1) = false := by simp [e1]
  by_cases e2 : k = 2
  · subst e2
    obtain ⟨x0, x1, x2, cx0, cx1, cx2, qf, hqz⟩ := I3.out.1.row.cells hiN
    have I5 : Hid (SpI g b n c f w (w3.setCell ⟨q, i * 3 + 2, none⟩ (.string { data := #[116] })) q NN) := I3.out.1.set HZ.out hZ (I3.out.1.row.set2 { data := #[116] }) grownN_set
    obtain ⟨b0, bf, bz⟩ := I5.out.boxes
    have HF2 := HF.out _ I5.out
    have HF3 : Hid (PthQ g b n c f w (.returned (.agg #[.slice (some ⟨q, 0, none⟩) NN qc])) ((w3.setCell ⟨q, i * 3 + 2, none⟩ (.string { data := #[116] })).setCell ⟨w.heap.size + 1, 0, none⟩ (.slice (some ⟨q, 0, none⟩) NN qc))) := HF2
    clear HF HF2
    go_wp2
    refine bodyPost_ret (v := .agg #[.slice (some ⟨q, 0, none⟩) NN qc]) (by simp [results, Try.results95, go_sem, b0]) rfl HF3.out
  have m2 : (k == 2) = false := by simp [e2]
  by_cases e3 : k = 3
  · subst e3
    obtain ⟨y, hy⟩ : ∃ y, y = l.getD 0 ⟨0, [], []⟩ := ⟨_, rfl⟩
    obtain ⟨cx0, cx1, cx2, qf, hqz⟩ : w3.cell? ⟨q, 0, none⟩ = some (.int .i64 (y.k : Int)) ∧ w3.cell? ⟨q, 1, none⟩ = some (.string (strT y.s)) ∧ w3.cell? ⟨q, 2, none⟩ = some (.string (strT y.t)) ∧ (∀ o, w3.frozen? ⟨q, o, none⟩ = false) ∧ q < w3.heap.size := by
      obtain ⟨e, _⟩ | ⟨q', c', e, _, hw⟩ := I3.out.2.1.row
      · cases e
      · injection e with e _ _
        injection e with e
        injection e with e
        subst e
        have hl0 : 0 < l.length := by have := HN.out; omega
        refine ⟨?_, ?_, ?_, hw.frozen, hw.lt⟩
        · have := hw.cell (i := 0 * 3) (by omega); rw [pnCell_0] at this; rw [hy]; exact this
        · have := hw.cell (i := 0 * 3 + 1) (by omega); rw [pnCell_1] at this; rw [hy]; exact this
        · have := hw.cell (i := 0 * 3 + 2) (by omega); rw [pnCell_2] at this; rw [hy]; exact this
    have HC : Hid (ndC y = [.int .i64 (y.k : Int), .string (strT y.s), .string (strT y.t)]) := rfl
    clear hy
    obtain ⟨b0, bf, bz⟩ := I3.out.1.boxes
    clear HF
    have h0' : (0 : Int) < (NN : Int) := by omega
    go_wp2_with (at_builtin; refine app_nd rfl _ _ rfl (w.heap.size + 2) _ l (congrArg (fun x => Value.slice (some ⟨q, 0, none⟩) x qc) HN.out) (I3.out.2.1.below (below_alloc _ _)) w3.heap.size y rfl (by rw [HC.out]; exact new_cells _ [.int .i64 (y.k : Int), .string (strT y.s), .string (strT y.t)] _) (by have := HN.out; omega) (by simp; omega) ?_)
    intro v' w4 hown' hgrow hsm
    have hgrow : (w3.alloc (.cells #[.int .i64 (y.k : Int), .string (strT y.s), .string (strT y.t)] 61)).grownBy w4 (some q) := hgrow
    have hlo := I3.out.1.lo
    have hbx : w4.heap[w.heap.size + 1]? = some (.cells #[.slice none 0 0] 29 (0, 0)) := (hgrow.block (w.heap.size + 1) (by simp; omega) (fun e => by injection e with e; omega)).trans (((below_alloc _ _).block (w.heap.size + 1) bz).trans I3.out.1.box)
    have hrow := hown'.row
    obtain ⟨e0, e1⟩ | ⟨q2, qc2, ev, hq2, hrow2⟩ := hrow
    · simp at e1
    have ev2 := hown'.rd
    subst ev
    obtain ⟨qa, qd, ev2, hqc2, hqcm2, -⟩ := ev2
    have ec2 : qd = qc2 := by injection ev2 with _ _ ev2; exact ev2.symm
    rw [ec2] at hqc2 hqcm2
    have eL : (l ++ [y]).length = NN + 1 := by rw [HN.out]; simp
    rw [eL] at hqc2 hrow2 ⊢
    have hI : SpI g b n c f w w4 q2 (NN + 1) := ⟨⟨_, _, _, hrow2⟩, hq2, ⟨_, (I3.out.2.2.below (below_alloc _ _)).grown HZ.out hgrow (fun x e => by injection e with e; omega)⟩, fr_new (grownN_trans I3.out.1.fr (grownN_below (below_alloc _ _) _)) hgrow (fun x e => by injection e with e; omega), hbx⟩
    obtain ⟨c0, cf, cz⟩ := hI.boxes
    have HF3 : Hid (PthQ g b n c f w (.returned (.agg #[.slice (some ⟨q2, 0, none⟩) (NN + 1) qc2])) (w4.setCell ⟨w.heap.size + 1, 0, none⟩ (.slice (some ⟨q2, 0, none⟩) (NN + 1) qc2))) := hI.done HZ.out hZ qc2 (by omega) hqc2 hqcm2
    clear hI hown' hgrow hsm hbx hrow2 ev2 ec2 eL b0 bf bz cx0 cx1 cx2 qf hqz I3
    generalize NN + 1 = N1 at *
    go_wp2
    refine bodyPost_ret (v := .agg #[.slice (some ⟨q2, 0, none⟩) N1 qc2]) (by simp [results, Try.results95, go_sem, c0]) rfl HF3.out
  have m3 : (k == 3) = false := by simp [e3]
  by_cases e4 : k = 4
  · subst e4
    obtain ⟨N', rfl⟩ : ∃ N', NN = N' + 1 := ⟨NN - 1, by omega⟩
    obtain ⟨b0, bf, bz⟩ := I3.out.1.boxes
    have i1' : (1 : Int) ≤ ((N' + 1 : Nat) : Int) := by omega
    by_cases ec : qc = 1
    · subst ec
      obtain rfl : N' = 0 := by omega
      have HF3 : Hid (PthQ g b n c f w (.returned (.agg #[.slice (some ⟨q, 0, none⟩) 0 0])) (w3.setCell ⟨w.heap.size + 1, 0, none⟩ (.slice (some ⟨q, 0, none⟩) 0 0))) := I3.out.1.done0 HZ.out hZ
      go_wp2
      refine bodyPost_ret (v := .agg #[.slice (some ⟨q, 0, none⟩) 0 0]) (by simp [results, Try.results95, go_sem, b0]) rfl HF3.out
    · obtain ⟨C', rfl⟩ : ∃ C', qc = C' + 1 := ⟨qc - 1, by omega⟩
      have hC' : 0 < C' := by omega
      have hC0 : C' ≠ 0 := by omega
      have HF3 : Hid (PthQ g b n c f w (.returned (.agg #[.slice (some ⟨q, 3, none⟩) N' C'])) (w3.setCell ⟨w.heap.size + 1, 0, none⟩ (.slice (some ⟨q, 3, none⟩) N' C'))) := I3.out.1.doneFrom HZ.out hZ C' (by omega) (by omega) (by omega)
      clear HF
      go_wp2
      refine bodyPost_ret (v := .agg #[.slice (some ⟨q, 3, none⟩) N' C']) (by simp [results, Try.results95, go_sem, b0]) rfl HF3.out
  have m4 : (k == 4) = false := by simp [e4]
  by_cases e5 : k = 5
  · subst e5
    obtain ⟨x0, x1, x2, cx0, cx1, cx2, qf, hqz⟩ := I3.out.1.row.cells hiN
    have I5 : Hid (SpI g b n c f w (w3.setCell ⟨q, i * 3 + 1, none⟩ (.string { data := #[120] })) q NN) := I3.out.1.set HZ.out hZ (I3.out.1.row.set1 { data := #[120] }) grownN_set
    obtain ⟨b0, bf, bz⟩ := I5.out.boxes
    have HF2 := HF.out _ I5.out
    have HF3 : Hid (PthQ g b n c f w (.returned (.agg #[.slice (some ⟨q, 0, none⟩) NN qc])) ((w3.setCell ⟨q, i * 3 + 1, none⟩ (.string { data := #[120] })).setCell ⟨w.heap.size + 1, 0, none⟩ (.slice (some ⟨q, 0, none⟩) NN qc))) := HF2
    clear HF HF2
    go_wp2
    refine bodyPost_ret (v := .agg #[.slice (some ⟨q, 0, none⟩) NN qc]) (by simp [results, Try.results95, go_sem, b0]) rfl HF3.out
  omega
end Go.Proofs.Ytocmbnocdjnfpaa

namespace Go.Proofs.Ytocmbnocdjnfpaa
open Go.RowKit Go.Deep
set_option linter.unusedVariables false
set_option linter.unusedSimpArgs false
set_option maxRecDepth 100000

theorem pathDF_len (f : Nat → Int) (n : Nat) (s : Nat × Int) : 0 < (pathDF f n s).1.length ∧ (pathDF f n s).1.length ≤ 46 := by
  obtain ⟨k0, k1⟩ := nBl_range f n (k := 4) (by omega) s
  unfold pathDF
  refine ⟨treeF_pos _ _ _ _, ?_⟩
  have h := treeF_len f n (1 + nBl f n 4 s).toNat (nS n 4 s)
  have h4 : (1 + nBl f n 4 s).toNat ≤ 4 := by omega
  have h5 : 3 * 2 ^ (1 + nBl f n 4 s).toNat ≤ 3 * 2 ^ 4 := Nat.mul_le_mul_left _ (Nat.pow_le_pow_right (by omega) h4)
  omega
theorem limDF_len (f : Nat → Int) (n : Nat) (s : Nat × Int) : 0 < (limDF f n s).1.length ∧ (limDF f n s).1.length ≤ 101 := by
  obtain ⟨x0, x1⟩ := nBl_range f n (k := 2) (by omega) (nS n 3 s)
  unfold limDF
  show 0 < List.length (if _ then _ else _) ∧ List.length (if _ then _ else _) ≤ _
  split
  · simp; omega
  · split
    · simp; omega
    · simp
section
variable {Z g : Nat} {b : Option Addr} {n c : Nat} {f : Nat → Int} {s : Nat × Int} {w : World}
theorem PthRet.q {r : List Nd × (Nat × Int)} (h0 : 0 < r.1.length) (h1 : r.1.length ≤ 2000) {e : Ending} {w' : World} (h : PthRet g b n c f r w e w') : PthQ g b n c f w e w' := by
  obtain ⟨v, e, hn, hd, hg⟩ := h
  exact ⟨v, e, hn.q h0 h1, ⟨_, hd⟩, hg⟩
/-- The result's cell, put in last. -/
theorem PthQ.put {wk w' : World} {v : Value} {i : Nat} (hz : DrB Z g b n) (hZ : Z ≤ w.heap.size) (hk : w.grownBy wk (some g)) (hi : w.heap.size ≤ i) (hik : i < wk.heap.size) (h : PthQ g b n c f wk (.returned (.agg #[v])) w') : PthQ g b n c f w (.returned (.agg #[v])) (w'.setCell ⟨i, 0, none⟩ v) := by
  obtain ⟨u, e, ⟨q, o, m, cc, I, X, R, e1, h1, h2, h3, h4⟩, ⟨s', hd⟩, hg⟩ := h
  injection e with e
  injection e with e
  have e : u = v := by simpa using e.symm
  subst e
  have hks := hk.size
  have hn : NdQ (w'.setCell ⟨i, 0, none⟩ u) w.heap.size u := by
    have hx : NdQ w' (i + 1) u := ⟨q, o, m, cc, I, X, R, e1, by omega, h2, h3, h4⟩
    exact (hx.fr grownN_set (by omega)).mono (by omega)
  exact ⟨u, rfl, hn, ⟨s', hd.grown hz grownN_set (fun x e => by injection e with e; omega)⟩, fr_new (grownN_trans hk hg) grownN_set (fun x e => by injection e with e; omega)⟩
set_option maxHeartbeats 4000000 in
theorem l6Any_x (hz : DrB Z g b n) (hZ : Z ≤ w.heap.size) (h : DrX w g b n c f s) : Calls Try.prog 53 #[.pointer (some ⟨g, 0, none⟩)] w (PthQ g b n c f w) := by
  have H : Hid (DrX w g b n c f s) := h
  have HZ : Hid (DrB Z g b n) := hz
  have hzg := hz.1
  clear h hz
  go_enter Try.func53, Try.ntmps53
  go_wp2_with fail
  refine (l1Once_x (H.out.below (below_alloc _ _)) 16 (by omega) (by omega)).mono ?_
  rintro e w1 ⟨rfl, hd1, ho1⟩
  have hz1 : w.heap.size + 1 ≤ w1.heap.size := by have := ho1.size; simpa using this
  have bg : w.heap.size ≠ g := by omega
  have H1 : Hid (DrX w1 g b n c f (nS n 16 s) ∧ w.grownBy w1 (some g) ∧ w1.heap[w.heap.size]? = some (.cells #[.slice none 0 0] 29 (0, 0))) := ⟨hd1, grownN_trans (grownN_below (below_alloc _ _) _) ho1, (ho1.block w.heap.size (by simp) (fun e => bg (by injection e with e))).trans Array.getElem?_push_size⟩
  clear hd1 ho1 H
  generalize nS n 16 s = s1 at *
  have FIN : Hid (∀ (wk w' : World) (v : Value), w.grownBy wk (some g) → w.heap.size < wk.heap.size → wk.heap[w.heap.size]? = some (.cells #[.slice none 0 0] 29 (0, 0)) → PthQ g b n c f wk (.returned (.agg #[v])) w' → PthQ g b n c f w (.returned (.agg #[v])) (w'.setCell ⟨w.heap.size, 0, none⟩ v) ∧ w'.cell? ⟨w.heap.size, 0, none⟩ = some (.slice none 0 0) ∧ (∀ o, w'.frozen? ⟨w.heap.size, o, none⟩ = false) ∧ w.heap.size < w'.heap.size) := fun wk w' v hk hlt hb hp => by
    have hg := hp
    obtain ⟨_, _, _, _, hg⟩ := hg
    have hb' : w'.heap[w.heap.size]? = some (.cells #[.slice none 0 0] 29 (0, 0)) := (hg.block _ hlt (fun e => bg (by injection e with e))).trans hb
    exact ⟨hp.put HZ.out hZ hk (Nat.le_refl _) hlt, by simp [World.cell?, hb'], fun o => by simp [World.frozen?, hb'], by have := hg.size; omega⟩
  by_cases h0 : nBl f n 16 s = 0
  · have e0 : (nBl f n 16 s == 0) = true := by simp [h0]
    go_wp2_with fail
    refine (l6Limit_x HZ.out (by omega) H1.out.1).mono ?_
    rintro e w2 hp
    have hp := PthRet.q (limDF_len f n s1).1 (by have := (limDF_len f n s1).2; omega) hp
    have hp' := hp
    obtain ⟨v, rfl, ⟨q, o, m, cc, I, X, R, rfl, -⟩, -⟩ := hp'
    obtain ⟨hF, q0, qf, hzz⟩ := FIN.out w1 w2 _ H1.out.2.1 (by omega) H1.out.2.2 hp
    have HF : Hid (PthQ g b n c f w (.returned (.agg #[.slice (some ⟨q, o, none⟩) m cc])) (w2.setCell ⟨w.heap.size, 0, none⟩ (.slice (some ⟨q, o, none⟩) m cc))) := hF
    clear hF hp FIN H1
    go_wp2
    refine bodyPost_ret (v := .agg #[.slice (some ⟨q, o, none⟩) m cc]) (by simp [results, Try.results53, go_sem, q0]) rfl HF.out
  have e0 : (nBl f n 16 s == 0) = false := by simp [h0]
  go_wp2_with fail
  refine (l6Path_x HZ.out (by omega) H1.out.1).mono ?_
  rintro e w2 ⟨v, rfl, hn2, hd2, ho2⟩
  have hz2 := ho2.size
  have hb2 : w2.heap[w.heap.size]? = some (.cells #[.slice none 0 0] 29 (0, 0)) := (ho2.block w.heap.size (by omega) (fun e => bg (by injection e with e))).trans H1.out.2.2
  obtain ⟨hl0, hl1⟩ := pathDF_len f n s1
  obtain ⟨av, cv, rfl, hlc, hcm, -⟩ := hn2.rd
  have H2 : Hid (NdA w2 w1.heap.size (.slice av (pathDF f n s1).1.length cv) (pathDF f n s1).1 ∧ DrX w2 g b n c f (pathDF f n s1).2 ∧ w.grownBy w2 (some g) ∧ w2.heap[w.heap.size]? = some (.cells #[.slice none 0 0] 29 (0, 0))) := ⟨hn2, hd2, grownN_trans H1.out.2.1 ho2, hb2⟩
  clear hn2 hd2 ho2 hb2 H1
  generalize (pathDF f n s1).1 = l at *
  generalize (pathDF f n s1).2 = s2 at *
  obtain ⟨NN, hNN⟩ : ∃ NN, NN = l.length := ⟨_, rfl⟩
  have HN : Hid (NN = l.length) := hNN
  rw [← hNN] at hl0 hl1 hlc ⊢
  clear hNN
  go_wp2_with fail
  refine (l1Once_x (H2.out.2.1.below (below_alloc _ _)) 8 (by omega) (by omega)).mono ?_
  rintro e w3 ⟨rfl, hd3, ho3⟩
  have hz3 : w2.heap.size + 1 ≤ w3.heap.size := by have := ho3.size; simpa using this
  have bg2 : w2.heap.size ≠ g := by omega
  have hk3 : w3.heap[w2.heap.size]? = some (.cells #[.slice av NN cv] 29 (0, 0)) := (ho3.block w2.heap.size (by simp) (fun e => bg2 (by injection e with e))).trans Array.getElem?_push_size
  have p0 : w3.cell? ⟨w2.heap.size, 0, none⟩ = some (.slice av NN cv) := by simp [World.cell?, hk3]
  have hb3 : w3.heap[w.heap.size]? = some (.cells #[.slice none 0 0] 29 (0, 0)) := (ho3.block w.heap.size (by simp; omega) (fun e => bg (by injection e with e))).trans (((below_alloc _ _).block w.heap.size (by omega)).trans H2.out.2.2.2)
  have H3 : Hid (NdA w3 w1.heap.size (.slice av NN cv) l ∧ DrX w3 g b n c f (nS n 8 s2) ∧ w.grownBy w3 (some g) ∧ w3.heap[w.heap.size]? = some (.cells #[.slice none 0 0] 29 (0, 0))) := ⟨by have := (H2.out.1.below (below_alloc _ _)).fr ho3 (by omega); rw [HN.out]; exact this, hd3, grownN_trans (fr_below H2.out.2.2.1 (below_alloc _ _)) ho3, hb3⟩
  clear hd3 ho3 hk3 hb3 H2
  generalize nS n 8 s2 = s3 at *
  by_cases h8 : nBl f n 8 s2 = 0
  · have e8 : (nBl f n 8 s2 == 0) = true := by simp [h8]
    go_wp2_with fail
    refine (l6Spoil_x HZ.out (by omega) H3.out.2.1 H3.out.1 (by rw [← HN.out]; omega) (by rw [← HN.out]; omega)).mono ?_
    rintro e w4 hp
    have hp' := hp
    obtain ⟨v, rfl, ⟨q, o, m, cc, I, X, R, rfl, -⟩, -⟩ := hp'
    obtain ⟨hF, q0, qf, hzz⟩ := FIN.out w3 w4 _ H3.out.2.2.1 (by omega) H3.out.2.2.2 hp
    have HF : Hid (PthQ g b n c f w (.returned (.agg #[.slice (some ⟨q, o, none⟩) m cc])) (w4.setCell ⟨w.heap.size, 0, none⟩ (.slice (some ⟨q, o, none⟩) m cc))) := hF
    clear hF hp FIN H3
    go_wp2
    refine bodyPost_ret (v := .agg #[.slice (some ⟨q, o, none⟩) m cc]) (by simp [results, Try.results53, go_sem, q0]) rfl HF.out
  have e8 : (nBl f n 8 s2 == 0) = false := by simp [h8]
  have hb3 := H3.out.2.2.2
  have q0 : w3.cell? ⟨w.heap.size, 0, none⟩ = some (.slice none 0 0) := by simp [World.cell?, hb3]
  have qf : ∀ o, w3.frozen? ⟨w.heap.size, o, none⟩ = false := fun o => by simp [World.frozen?, hb3]
  have hzz : w.heap.size < w3.heap.size := by omega
  have HF : Hid (PthQ g b n c f w (.returned (.agg #[.slice av NN cv])) (w3.setCell ⟨w.heap.size, 0, none⟩ (.slice av NN cv))) :=
    ⟨_, rfl, ((H3.out.1.q (by rw [← HN.out]; omega) (by rw [← HN.out]; omega)).fr grownN_set (by omega)).mono (by omega), ⟨_, H3.out.2.1.grown HZ.out grownN_set (fun x e => by injection e with e; omega)⟩, fr_new H3.out.2.2.1 grownN_set (fun x e => by injection e with e; omega)⟩
  clear hb3 FIN H3
  go_wp2
  refine bodyPost_ret (v := .agg #[.slice av NN cv]) (by simp [results, Try.results53, go_sem, q0]) rfl HF.out
/-- A path that DrawPrintPath hands out. -/
def DpRet (w : World) (e : Ending) (w' : World) : Prop := ∃ v, e = .returned (.agg #[v]) ∧ NdQ w' w.heap.size v ∧ Below w.heap.size w w'
set_option maxHeartbeats 4000000 in
theorem drawPP (b : Option Addr) (n c : Nat) (f : Nat → Int) (w : World) (hrd : Rd .u8 w b n f) (hn : n ≤ 1048576) (hf : ∀ j, j < n → 0 ≤ f j ∧ f j < 256) (hb : n ≠ 0 → ∀ x, b = some x → x.block < w.heap.size) :
    Calls Try.prog 20 #[.slice b n c] w (DpRet w) := by
  have HR : Hid (Rd .u8 w b n f ∧ (∀ j, j < n → 0 ≤ f j ∧ f j < 256)) := ⟨hrd, hf⟩
  have HB : Hid (n ≠ 0 → ∀ x, b = some x → x.block < w.heap.size) := hb
  clear hrd hf hb
  go_enter Try.func20, Try.ntmps20
  go_wp2_with fail
  refine (l1New_x b n c f _ (HR.out.1.below (below_alloc _ _)) hn HR.out.2).mono ?_
  rintro e w1 ⟨rfl, hd1, hb1⟩
  have hz1 : w.heap.size + 1 ≤ w1.heap.size := by have := hb1.size; simpa using this
  have hlt := hd1.cur.cells.2.2.2.2
  have eg : (w.alloc (.cells #[.slice none 0 0] 29)).heap.size = w.heap.size + 1 := by simp
  rw [eg] at hd1 hlt
  have hbx : w1.heap[w.heap.size]? = some (.cells #[.slice none 0 0] 29 (0, 0)) := (hb1.block w.heap.size (by simp)).trans Array.getElem?_push_size
  have HZ : Hid (DrB (w.heap.size + 2) (w.heap.size + 1) b n) := ⟨by omega, fun h x e => by have := HB.out h x e; omega⟩
  have H1 : Hid (DrX w1 (w.heap.size + 1) b n c f (0, hN f n n) ∧ Below w.heap.size w w1 ∧ w1.heap[w.heap.size]? = some (.cells #[.slice none 0 0] 29 (0, 0))) := ⟨hd1, (below_alloc _ _).trans (hb1.mono (by simp)), hbx⟩
  clear hd1 hb1 hbx
  go_wp2_with fail
  refine (l6Any_x HZ.out (by omega) H1.out.1).mono ?_
  rintro e w2 ⟨v, rfl, hq, -, hg⟩
  have hz2 := hg.size
  have hb2 : w2.heap[w.heap.size]? = some (.cells #[.slice none 0 0] 29 (0, 0)) := (hg.block w.heap.size (by omega) (fun e => by injection e with e; omega)).trans H1.out.2.2
  have q0 : w2.cell? ⟨w.heap.size, 0, none⟩ = some (.slice none 0 0) := by simp [World.cell?, hb2]
  have qf : ∀ o, w2.frozen? ⟨w.heap.size, o, none⟩ = false := fun o => by simp [World.frozen?, hb2]
  have hq' := hq
  obtain ⟨q, o, m, cc, I, X, R, rfl, -⟩ := hq'
  have HF : Hid (DpRet w (.returned (.agg #[.slice (some ⟨q, o, none⟩) m cc])) (w2.setCell ⟨w.heap.size, 0, none⟩ (.slice (some ⟨q, o, none⟩) m cc))) :=
    ⟨_, rfl, (hq.fr grownN_set (by omega)).mono (by omega), (H1.out.2.1.grown hg (by omega) (fun k e => by injection e with e; omega)).setCell (Nat.le_refl _) _⟩
  have hzz : w.heap.size < w2.heap.size := by omega
  clear hq hg hb2 H1
  go_wp2
  refine bodyPost_ret (v := .agg #[.slice (some ⟨q, o, none⟩) m cc]) (by simp [results, Try.results20, go_sem, q0]) rfl HF.out
end
end Go.Proofs.Ytocmbnocdjnfpaa

namespace Go.Proofs.Ytocmbnocdjnfpaa
open Go.RowKit Go.Deep
set_option linter.unusedVariables false
set_option linter.unusedSimpArgs false
set_option maxRecDepth 100000

set_option maxHeartbeats 4000000 in
theorem lwNodes_eq (a a' : Option Addr) (n c c' : Nat) (I : Nat → Int) (X R : Nat → ByteArray) (w : World) (h : RdN w a n I X R) (h' : RdN w a' n I X R) (hn : n ≤ 1048576) :
    Calls Try.prog 23 #[.slice a n c, .slice a' n c'] w fun e w' => e = .returned (.bool true) ∧ Below w.heap.size w w' := by
  have H : Hid (RdN w a n I X R ∧ RdN w a' n I X R) := ⟨h, h'⟩
  clear h h'
  go_enter Try.func23, Try.ntmps23
  go_wp2_with fail
  go_loopw [5] (fun i wr => ∃ j : Nat, i = .int .i64 (j : Int) ∧ j ≤ n ∧ Below w.heap.size w wr) (fun i _ => n - (intOf i).toNat)
  case atStart => exact ⟨0, rfl, Nat.zero_le _, Below.refl _ _⟩
  case round =>
    obtain ⟨j, rfl, hj, hb⟩ := hrel
    have HB : Hid (Below w.heap.size w wr) := hb
    clear hb
    by_cases hlt : j < n
    · have ij : (j : Int) < (n : Int) := by omega
      have hr1 := H.out.1.below HB.out
      have hr2 := H.out.2.below HB.out
      obtain h0 | ⟨b, o, rfl, hc⟩ := hr1
      · omega
      obtain h0 | ⟨b', o', rfl, hc'⟩ := hr2
      · omega
      obtain ⟨k0, k1, k2⟩ := hc j hlt
      obtain ⟨l0, l1, l2⟩ := hc' j hlt
      clear hc hc' H
      have h1 : (I j != I j) = false := by simp
      have h2 : ((R j).toList == (R j).toList) = true := by simp
      have h3 : ((X j).toList == (X j).toList) = true := by simp
      go_wp2
      go_region
      have HX : Hid (Below w.heap.size w wr.drew) := HB.out.drew
      clear k0 k1 k2 l0 l1 l2 HB
      go_wp2
      go_roundw
      case rel => exact ⟨j + 1, by go_num, by omega, HX.out⟩
      case measure => simp [intOf]; omega
    · have ij : ¬ (j : Int) < (n : Int) := by omega
      go_wp2
      go_ret
      exact ⟨rfl, HB.out⟩
theorem lwBytes_eq (a a' : Option Addr) (n c c' : Nat) (q : List Int) (hn : n = q.length) (w : World) (h : Rd .u8 w a n (lf q)) (h' : Rd .u8 w a' n (lf q)) :
    Calls Try.prog 21 #[.slice a n c, .slice a' n c'] w fun e w' => e = .returned (.bool true) ∧ Below w.heap.size w w' := by
  have c1 := conv_T (w := w) n c hn h
  have c2 := conv_T (w := w) n c' hn h'
  have e0 : ((strT q).toList == (strT q).toList) = true := by simp
  clear h h' hn
  generalize strT q = Y at *
  go_enter Try.func21, Try.ntmps21
  go_wp2

  go_ret
  exact ⟨rfl, Below.refl _ _⟩
end Go.Proofs.Ytocmbnocdjnfpaa

namespace Go.Proofs.Ytocmbnocdjnfpaa
open Go.RowKit Go.Deep

/-- A row whose first n cells are not frozen, with a mark behind them. -/
def rowM (w : World) (g n : Nat) (F : Nat → Value) : Prop := ∃ (cur : Array Value) (fr : Nat × Nat), w.heap[g]? = some (.cells cur 5 fr) ∧ n ≤ cur.size ∧ n ≤ fr.1 ∧ ∀ i, i < n → cur[i]? = some (F i)
theorem rowM.cell {w : World} {g n : Nat} {F : Nat → Value} (h : rowM w g n F) {i : Nat} (hi : i < n) : w.cell? ⟨g, i, none⟩ = some (F i) := by
  obtain ⟨c, fr, hb, _, _, hc⟩ := h
  simp [World.cell?, hb, hc i hi]
theorem rowM.frozen {w : World} {g n : Nat} {F : Nat → Value} (h : rowM w g n F) (i : Nat) (hi : i < n) : w.frozen? ⟨g, i, none⟩ = false := by
  obtain ⟨c, fr, hb, _, hf, _⟩ := h
  simp [World.frozen?, hb]
  omega
theorem rowM.congr {w : World} {g n : Nat} {F G : Nat → Value} (h : rowM w g n F) (e : ∀ i, i < n → F i = G i) : rowM w g n G := by
  obtain ⟨c, fr, hb, hn, hf, hc⟩ := h
  exact ⟨c, fr, hb, hn, hf, fun i hi => by rw [hc i hi, e i hi]⟩
theorem rowM.set {w : World} {g n : Nat} {F : Nat → Value} (h : rowM w g n F) (i : Nat) (v : Value) : rowM (w.setCell ⟨g, i, none⟩ v) g n (fun j => if j = i then v else F j) := by
  obtain ⟨c, fr, hb, hn, hf, hc⟩ := h
  refine ⟨c.setIfInBounds i v, fr, ?_, by simpa using hn, hf, fun j hj => ?_⟩
  · simp [World.setCell, Array.getElem?_modify, hb]
  · rw [Array.getElem?_setIfInBounds]
    by_cases e : j = i
    · subst e
      have : j < c.size := by omega
      simp [this]
    · rw [if_neg (fun h => e h.symm)]
      show c[j]? = some (if j = i then v else F j)
      rw [if_neg e]
      exact hc j hj
theorem rowM.rd {w : World} {g n : Nat} {f : Nat → Int} (h : rowM w g n (fun i => .int .u8 (f i))) : Rd .u8 w (some ⟨g, 0, none⟩) n f := .inr ⟨g, 0, rfl, fun i hi => by rw [Nat.zero_add]; exact h.cell hi⟩

set_option maxHeartbeats 1000000 in
theorem markByteS_m (g n cap : Nat) (f : Nat → Int) (w : World) (k0 : Int) (h : rowM w g n (fun i => .int .u8 (f i))) (hn : n ≤ 1099511627776) (h0 : 0 ≤ k0) (h1 : k0 ≤ 4611686018427387904) :
    Calls Try.prog 18 #[.slice (some ⟨g, 0, none⟩) n cap, .int .i64 k0] w fun e w' => e = .returned (.int .i64 (k0 + n)) ∧
      rowM w' g n (fun i => .int .u8 (IntKind.u8.wrap (k0 + i))) ∧ OnlyAt (some ⟨g, 0, none⟩) w w' := by
  go_enter Try.func18, Try.ntmps18
  go_wp2
  go_loopw [1, 5] (fun q i wr => ∃ k : Nat, k ≤ n ∧ i = .int .i64 k ∧ q = .int .i64 (k0 + k) ∧ rowM wr g n (fun j => if j < k then .int .u8 (IntKind.u8.wrap (k0 + j)) else .int .u8 (f j)) ∧ OnlyAt (some ⟨g, 0, none⟩) w wr) (fun _ i _ => n - (intOf i).toNat)
  case atStart => exact ⟨0, Nat.zero_le _, rfl, by simp, h.congr (fun j _ => by simp), OnlyAt.refl _ _⟩
  case round =>
    obtain ⟨k, hk, rfl, rfl, hrow, honly⟩ := hrel
    by_cases hlt : k < n
    · have hcy := hrow.cell hlt
      simp only [Nat.lt_irrefl, if_false] at hcy
      have hfy := hrow.frozen k hlt
      have HX : Hid (rowM (wr.setCell ⟨g, k, none⟩ (.int .u8 (IntKind.u8.wrap (k0 + k)))) g n (fun j => if j < k + 1 then .int .u8 (IntKind.u8.wrap (k0 + j)) else .int .u8 (f j)) ∧ OnlyAt (some ⟨g, 0, none⟩) w (wr.setCell ⟨g, k, none⟩ (.int .u8 (IntKind.u8.wrap (k0 + k))))) :=
        ⟨(hrow.set k _).congr (fun j _ => by
            by_cases e : j = k
            · subst e; simp
            · by_cases hl : j < k
              · have : j < k + 1 := by omega
                simp [e, hl, this]
              · have : ¬ j < k + 1 := by omega
                simp [e, hl, this]), honly.setCell k _⟩
      clear hrow honly h
      go_wp2
      go_roundw
      case rel => exact ⟨k + 1, by omega, by go_num, by go_num, HX.out⟩
      case measure => simp [intOf]; omega
    · have e : k = n := by omega
      subst e
      go_wp2
      go_ret
      exact ⟨rfl, hrow.congr (fun i hi => by simp [hi]), honly⟩

set_option maxHeartbeats 1000000 in
theorem heldByteS_yes (a : Option Addr) (n cap : Nat) (w : World) (k0 : Int) (h : Rd .u8 w a n (fun i => IntKind.u8.wrap (k0 + i))) (hn : n ≤ 1099511627776) (h0 : 0 ≤ k0) (h1 : k0 ≤ 4611686018427387904) :
    Calls Try.prog 19 #[.slice a n cap, .int .i64 k0] w fun e w' => e = .returned (.int .i64 (k0 + n)) ∧ w' = w := by
  go_enter Try.func19, Try.ntmps19
  go_wp2
  go_loop [1, 5] (fun q i => ∃ k : Nat, k ≤ n ∧ i = .int .i64 k ∧ q = .int .i64 (k0 + k)) (fun _ i => n - (intOf i).toNat)
  case atStart => exact ⟨0, Nat.zero_le _, rfl, by simp⟩
  case round =>
    obtain ⟨k, hk, rfl, rfl⟩ := hrel
    by_cases hlt : k < n
    · have hne : ¬ n = 0 := by omega
      rcases h with h | ⟨b, o, rfl, hc⟩
      · exact absurd h hne
      have hcx := hc k hlt
      have hq : (IntKind.u8.wrap (k0 + k) != IntKind.u8.wrap (k0 + k)) = false := by simp
      clear hc
      go_wp2
      go_round
      case rel => exact ⟨k + 1, by omega, by go_num, by go_num⟩
      case measure => simp [intOf]; omega
    · have e : k = n := by omega
      subst e
      go_wp2
      go_ret
      exact ⟨rfl, rfl⟩
end Go.Proofs.Ytocmbnocdjnfpaa
