import Derived.Test.YthcclkeeekppmaaNp24
import Derived.Test.YthcclkeeekppmaaNp18
import Derived.Deep.CutBlock
import Derived.Test.YthcclkeeekppmaaNp21
import Derived.Test.YthcclkeeekppmaaNp19
import Derived.Test.YthcclkeeekppmaaNp17
namespace Go.Proofs.Ythcclkeeekppmaa
open Go.RowKit Go.Deep
set_option linter.unusedVariables false
set_option linter.unusedSimpArgs false
set_option maxRecDepth 100000

set_option maxHeartbeats 1000000 in
theorem zeros_tx (n : Nat) (w : World) (hn : n ≤ 1048576) : Calls Try.prog 37 #[.int .i64 (n : Int)] w fun e w' => ∃ v, e = .returned v ∧ TxA w' w.heap.size v n (List.replicate n 0) ∧ Below w.heap.size w w' := by
  go_enter Try.func37, Try.ntmps37
  go_wp2
  go_loopw [3, 4] (fun u i wr => ∃ j : Nat, i = .int .i64 (j : Int) ∧ j ≤ n ∧ TxA wr w.heap.size u j (List.replicate j 0) ∧ Below w.heap.size w wr) (fun _ i _ => n - (intOf i).toNat)
  case atStart => exact ⟨0, rfl, Nat.zero_le _, ⟨rfl, .inl (World.ownsRow_lit w #[] 0 (Nat.le_refl _) (Nat.zero_le _) rfl)⟩, (Below.refl _ _).alloc (Nat.le_refl _) _⟩
  case round =>
    obtain ⟨j, rfl, hj, hown, hbel⟩ := hrel
    have hsz := hbel.size
    have HO : Hid (TxA wr w.heap.size u3 j (List.replicate j 0) ∧ Below w.heap.size w wr) := ⟨hown, hbel⟩
    clear hown hbel
    by_cases hlt : j < n
    · have ij : (j : Int) < (n : Int) := by omega
      go_wp2_with (at_builtin; refine app_b rfl _ _ rfl w.heap.size _ j (List.replicate j 0) rfl (HO.out.1.below (below_alloc _ _)) ⟨wr.heap.size, 0, none⟩ 1 1 [0] rfl rfl (by omega) (new_cells _ [.int .u8 0] _) (by omega) (by simp; omega) ?_)
      intro v' wq hown' hgrow
      have HX : Hid (TxA wq w.heap.size v' (j + 1) (List.replicate (j + 1) 0) ∧ Below w.heap.size w wq) := ⟨by rw [List.replicate_succ']; exact hown', (HO.out.2.alloc hsz _).trans hgrow⟩
      clear hown' hgrow
      go_wp2
      go_roundw
      case rel => exact ⟨j + 1, by go_num, by omega, HX.out⟩
      case measure => simp [intOf]; omega
    · have ij : ¬ (j : Int) < (n : Int) := by omega
      obtain rfl : j = n := by omega
      go_wp2
      go_ret
      exact ⟨_, rfl, HO.out⟩

theorem ndLits (w : World) (l : List Nd) (h0 : l.length ≤ 1000) : NdA (w.alloc (.cells (ndR l).toArray 35)) w.heap.size (.slice (some ⟨w.heap.size, 0, none⟩) l.length l.length) l := by
  refine ⟨ndR_length l, .inr ⟨w.heap.size, l.length, (ndR l).toArray, rfl, Nat.le_refl _, Array.getElem?_push_size, Nat.le_refl _, by unfold maxLen; omega, by simp [ndR_length], by rw [← ndR_length]; simp⟩⟩
theorem NdA.setL3 {w : World} {B : Nat} {v : Value} {l : List Nd} (h : NdA w B v l) {a : Addr} (ha : a.block < B) (u : Value) : NdA (w.setCell a u) B v l :=
  plS_keep h (fun g e => Below.heap_setCell w a u g (by have := (h.lt g e).1; omega))
/-- A path that is drawn. -/
def PthRet (g : Nat) (b : Option Addr) (n c : Nat) (f : Nat → Int) (r : List Nd × (Nat × Int)) (w : World) (e : Ending) (w' : World) : Prop :=
  ∃ v, e = .returned (.agg #[v]) ∧ NdA w' w.heap.size v r.1 ∧ DrX w' g b n c f r.2 ∧ w.grownBy w' (some g)
def pathDF (f : Nat → Int) (n : Nat) (s : Nat × Int) : List Nd × (Nat × Int) := treeF f n (1 + nBl f n 4 s).toNat (nS n 4 s)
section
variable {Z g : Nat} {b : Option Addr} {n c : Nat} {f : Nat → Int} {s : Nat × Int} {w : World}
set_option maxHeartbeats 1000000 in
theorem l6Path_x (hz : DrB Z g b n) (hZ : Z ≤ w.heap.size) (h : DrX w g b n c f s) : Calls Try.prog 49 #[.pointer (some ⟨g, 0, none⟩)] w (PthRet g b n c f (pathDF f n s) w) := by
  have H : Hid (DrX w g b n c f s) := h
  have HZ : Hid (DrB Z g b n) := hz
  have hzg := hz.1
  clear h hz
  obtain ⟨k0, k1⟩ := nBl_range f n (k := 4) (by omega) s
  obtain ⟨d, hd⟩ : ∃ d : Nat, (d : Int) = 1 + nBl f n 4 s := ⟨(1 + nBl f n 4 s).toNat, by omega⟩
  have HD : Hid (pathDF f n s = treeF f n d (nS n 4 s)) := by show _ = _; unfold pathDF; rw [← hd, Int.toNat_natCast]
  have hd8 : d ≤ 8 := by omega
  go_enter Try.func49, Try.ntmps49
  go_wp2_with fail
  refine (l1Below_x (H.out.below (below_alloc _ _)) 4 (by omega) (by omega)).mono ?_
  rintro e w1 ⟨rfl, hd1, ho1⟩
  have hz1 : w.heap.size + 1 ≤ w1.heap.size := by have := ho1.size; simpa using this
  have bg : w.heap.size ≠ g := by omega
  have k1' : w1.heap[w.heap.size]? = some (.cells #[.slice none 0 0] 25 (0, 0)) := (ho1.block w.heap.size (by simp) (fun e => bg (by injection e with e))).trans Array.getElem?_push_size
  have H1 : Hid (DrX w1 g b n c f (nS n 4 s) ∧ w.grownBy w1 (some g) ∧ w1.heap[w.heap.size]? = some (.cells #[.slice none 0 0] 25 (0, 0))) := ⟨hd1, grownN_trans (grownN_below (below_alloc _ _) _) ho1, k1'⟩
  have ed : IntKind.i64.wrap (1 + nBl f n 4 s) = (d : Int) := by rw [IntKind.wrap_i64]; omega
  have ed' : 1 + nBl f n 4 s = (d : Int) := by omega
  clear hd1 ho1 H hd k1'
  generalize nBl f n 4 s = k at *
  go_wp2_with fail
  refine (tree_x HZ.out d hd8 (nS n 4 s) w1 (by omega) H1.out.1).mono ?_
  rintro e w2 ⟨v, rfl, hn2, hd2, ho2⟩
  have k2 : w2.heap[w.heap.size]? = some (.cells #[.slice none 0 0] 25 (0, 0)) := (ho2.block w.heap.size (by omega) (fun e => bg (by injection e with e))).trans H1.out.2.2
  have hz2 := ho2.size
  have q0 : w2.cell? ⟨w.heap.size, 0, none⟩ = some (.slice none 0 0) := by simp [World.cell?, k2]
  have qf : ∀ o, w2.frozen? ⟨w.heap.size, o, none⟩ = false := fun o => by simp [World.frozen?, k2]
  obtain ⟨av, cv, rfl, -, -, -⟩ := hn2.rd
  have HF : Hid (PthRet g b n c f (pathDF f n s) w (.returned (.agg #[.slice av (treeF f n d (nS n 4 s)).1.length cv])) (w2.setCell ⟨w.heap.size, 0, none⟩ (.slice av (treeF f n d (nS n 4 s)).1.length cv))) := by
    show PthRet _ _ _ _ _ _ _ _ _
    rw [HD.out]
    refine ⟨_, rfl, (hn2.setL3 (by show w.heap.size < _; omega) _).mono' (by omega), hd2.grown HZ.out grownN_set (fun x e => by injection e with e; omega), fr_new (grownN_trans H1.out.2.1 ho2) grownN_set (fun x e => by injection e with e; omega)⟩
  have hzz : w.heap.size < w2.heap.size := by omega
  clear hn2 hd2 ho2 k2 H1
  generalize (treeF f n d (nS n 4 s)).1.length = L at *
  go_wp2
  refine bodyPost_ret (v := .agg #[.slice av L cv]) (by simp [results, Try.results49, go_sem, q0]) rfl HF.out
/-- A path at a limit. -/
def limDF (f : Nat → Int) (n : Nat) (s : Nat × Int) : List Nd × (Nat × Int) :=
  (if nBl f n 3 s = 0 then [⟨1, [], []⟩] ++ List.replicate (63 + nBl f n 2 (nS n 3 s)).toNat ⟨3, [112], []⟩
   else if nBl f n 3 s = 1 then [⟨1, [], []⟩] ++ (List.replicate 40 [(⟨1, [], []⟩ : Nd), ⟨7, [], []⟩]).flatten ++ List.replicate (19 + nBl f n 2 (nS n 3 s)).toNat ⟨4, [113], []⟩
   else [⟨2, List.replicate (30 + nBl f n 2 (nS n 3 s)).toNat 0, []⟩], nS n 2 (nS n 3 s))
theorem blk_lt2 {W : World} {B : Nat} {o : Obj} (h : W.heap[B]? = some o) : B < W.heap.size := (Array.getElem?_eq_some_iff.1 h).1
/-- A row that grows by one node again and again. -/
structure LmI (g : Nat) (b : Option Addr) (n c : Nat) (f : Nat → Int) (s' : Nat × Int) (w : World) (u : Value) (l : List Nd) (wr : World) : Prop where
  row : NdA wr (w.heap.size + 1) u l
  dr : DrX wr g b n c f s'
  fr : w.grownBy wr (some g)
  box : wr.heap[w.heap.size]? = some (.cells #[.slice none 0 0] 25 (0, 0))
theorem LmI.next {s' : Nat × Int} {u v : Value} {l l' : List Nd} {wr wq : World} (h : LmI g b n c f s' w u l wr) (hz : DrB Z g b n) (hZ : Z ≤ w.heap.size) {o : Obj} (hn : NdA wq (w.heap.size + 1) v l') (hg : (wr.alloc o).grownBy wq u.ownBlock) : LmI g b n c f s' w v l' wq := by
  refine ⟨hn, (h.dr.below (below_alloc _ _)).grown hz hg (fun x e => by have := (h.row.lt x e).1; omega), fr_new (fr_below h.fr (below_alloc _ _)) hg (fun x e => by have := (h.row.lt x e).1; omega), ?_⟩
  have hlt := blk_lt2 h.box
  refine (hg.block w.heap.size (by simp; omega) (fun e => by have := (h.row.lt _ e.symm).1; omega)).trans (((below_alloc wr o).block w.heap.size hlt).trans h.box)
set_option maxHeartbeats 4000000 in
theorem l6Limit_x (hz : DrB Z g b n) (hZ : Z ≤ w.heap.size) (h : DrX w g b n c f s) : Calls Try.prog 48 #[.pointer (some ⟨g, 0, none⟩)] w (PthRet g b n c f (limDF f n s) w) := by
  have H : Hid (DrX w g b n c f s) := h
  have HZ : Hid (DrB Z g b n) := hz
  have hzg := hz.1
  clear h hz
  obtain ⟨k0, k1⟩ := nBl_range f n (k := 3) (by omega) s
  obtain ⟨x0, x1⟩ := nBl_range f n (k := 2) (by omega) (nS n 3 s)
  have HL : Hid (limDF f n s = (if nBl f n 3 s = 0 then [⟨1, [], []⟩] ++ List.replicate (63 + nBl f n 2 (nS n 3 s)).toNat ⟨3, [112], []⟩
   else if nBl f n 3 s = 1 then [⟨1, [], []⟩] ++ (List.replicate 40 [(⟨1, [], []⟩ : Nd), ⟨7, [], []⟩]).flatten ++ List.replicate (19 + nBl f n 2 (nS n 3 s)).toNat ⟨4, [113], []⟩
   else [⟨2, List.replicate (30 + nBl f n 2 (nS n 3 s)).toNat 0, []⟩], nS n 2 (nS n 3 s))) := rfl
  go_enter Try.func48, Try.ntmps48
  go_wp2_with fail
  refine (l1Below_x (H.out.below (below_alloc _ _)) 3 (by omega) (by omega)).mono ?_
  rintro e w1 ⟨rfl, hd1, ho1⟩
  have hz1 : w.heap.size + 1 ≤ w1.heap.size := by have := ho1.size; simpa using this
  have bg : w.heap.size ≠ g := by omega
  have H1 : Hid (DrX w1 g b n c f (nS n 3 s) ∧ w.grownBy w1 (some g) ∧ w1.heap[w.heap.size]? = some (.cells #[.slice none 0 0] 25 (0, 0))) := ⟨hd1, grownN_trans (grownN_below (below_alloc _ _) _) ho1, (ho1.block w.heap.size (by simp) (fun e => bg (by injection e with e))).trans Array.getElem?_push_size⟩
  clear hd1 ho1 H
  go_wp2_with fail
  refine (l1Below_x H1.out.1 2 (by omega) (by omega)).mono ?_
  rintro e w2 ⟨rfl, hd2, ho2⟩
  have hz2 := ho2.size
  have H2 : Hid (DrX w2 g b n c f (nS n 2 (nS n 3 s)) ∧ w.grownBy w2 (some g) ∧ w2.heap[w.heap.size]? = some (.cells #[.slice none 0 0] 25 (0, 0))) := ⟨hd2, grownN_trans H1.out.2.1 ho2, (ho2.block w.heap.size (by omega) (fun e => bg (by injection e with e))).trans H1.out.2.2⟩
  clear hd2 ho2 H1
  obtain ⟨x, hx⟩ : ∃ x : Nat, (x : Int) = nBl f n 2 (nS n 3 s) := ⟨(nBl f n 2 (nS n 3 s)).toNat, by omega⟩
  rw [← hx] at x0 x1 HL ⊢
  clear hx
  have hx1 : x ≤ 1 := by omega
  generalize nBl f n 3 s = k at *
  generalize nS n 2 (nS n 3 s) = s' at *
  have I0 : Hid (LmI g b n c f s' w (.slice (some ⟨w2.heap.size, 0, none⟩) 1 1) [⟨1, [], []⟩] (w2.alloc (.cells #[.int .i64 1, .string { data := #[] }, .string { data := #[] }] 35))) :=
    ⟨(ndLit w2 ⟨1, [], []⟩).mono' (by omega), H2.out.1.below (below_alloc _ _), fr_below H2.out.2.1 (below_alloc _ _), ((below_alloc w2 _).block _ (blk_lt2 H2.out.2.2)).trans H2.out.2.2⟩
  have FIN : Hid (∀ (u : Value) (l : List Nd) (wr : World), LmI g b n c f s' w u l wr → limDF f n s = (l, s') → PthRet g b n c f (limDF f n s) w (.returned (.agg #[u])) (wr.setCell ⟨w.heap.size, 0, none⟩ u) ∧ wr.cell? ⟨w.heap.size, 0, none⟩ = some (.slice none 0 0) ∧ (∀ o, wr.frozen? ⟨w.heap.size, o, none⟩ = false) ∧ w.heap.size < wr.heap.size) := fun u l wr hI e => by
    have hb := hI.box
    refine ⟨?_, by simp [World.cell?, hb], fun o => by simp [World.frozen?, hb], blk_lt2 hb⟩
    rw [e]
    exact ⟨u, rfl, (hI.row.setL3 (by show w.heap.size < _; omega) _).mono' (by omega), hI.dr.grown HZ.out grownN_set (fun y e => by injection e with e; omega), fr_new hI.fr grownN_set (fun y e => by injection e with e; omega)⟩
  clear H2
  by_cases e0 : k = 0
  · subst e0
    have HR : Hid (limDF f n s = ([⟨1, [], []⟩] ++ List.replicate (63 + x) ⟨3, [112], []⟩, s')) := by
      show _ = _
      rw [HL.out, if_pos rfl, show ((63 : Int) + (x : Int)).toNat = 63 + x by omega]
    have e64 : IntKind.i64.wrap (64 + (x : Int)) = ((64 + x : Nat) : Int) := by rw [IntKind.wrap_i64]; omega
    obtain ⟨M, hM⟩ : ∃ M, M = 64 + x := ⟨_, rfl⟩
    rw [← hM] at e64
    have e64' : (64 : Int) + (x : Int) = (M : Int) := by omega
    have HM : Hid (M = 64 + x) := hM
    clear hM HL
    go_wp2_with fail
    go_loopw [5, 6] (fun u i wr => ∃ j : Nat, i = .int .i64 ((j + 1 : Nat) : Int) ∧ j + 1 ≤ M ∧ LmI g b n c f s' w u ([(⟨1, [], []⟩ : Nd)] ++ List.replicate j ⟨3, [112], []⟩) wr) (fun _ i _ => M - (intOf i).toNat)
    case atStart => exact ⟨0, rfl, by have := HM.out; omega, by simpa using I0.out⟩
    case round =>
      obtain ⟨j, rfl, hj, hI⟩ := hrel
      have HI : Hid (LmI g b n c f s' w u5 ([(⟨1, [], []⟩ : Nd)] ++ List.replicate j ⟨3, [112], []⟩) wr) := hI
      have hzr := blk_lt2 hI.box
      obtain ⟨J, hJ⟩ : ∃ J, J = j + 1 := ⟨_, rfl⟩
      rw [← hJ] at hj ⊢
      have HJ : Hid (J = j + 1) := hJ
      clear hI hJ
      by_cases hlt : J < M
      · have ij : (J : Int) < (M : Int) := by omega
        go_wp2_with (at_builtin; refine app_nd rfl _ _ rfl (w.heap.size + 1) _ ([(⟨1, [], []⟩ : Nd)] ++ List.replicate j ⟨3, [112], []⟩) rfl (HI.out.row.below (below_alloc _ _)) wr.heap.size ⟨3, [112], []⟩ rfl (new_cells _ [.int .i64 3, .string { data := #[112] }, .string { data := #[] }] _) (by rw [List.length_append, List.length_replicate]; have := HJ.out; have := HM.out; simp; omega) (by simp; omega) ?_)
        intro v' wq hown' hgrow _
        have HX : Hid (LmI g b n c f s' w v' ([(⟨1, [], []⟩ : Nd)] ++ List.replicate (j + 1) ⟨3, [112], []⟩) wq) := HI.out.next HZ.out hZ (by rw [List.replicate_succ', ← List.append_assoc]; exact hown') hgrow
        clear hown' hgrow
        go_wp2
        go_roundw
        case rel => exact ⟨j + 1, by have := HJ.out; rw [← HJ.out]; go_num, by have := HJ.out; omega, HX.out⟩
        case measure => simp [intOf]; omega
      · have ij : ¬ (J : Int) < (M : Int) := by omega
        obtain ⟨LL, hLL⟩ : ∃ LL : List Nd, LL = [(⟨1, [], []⟩ : Nd)] ++ List.replicate j ⟨3, [112], []⟩ := ⟨_, rfl⟩
        have HI2 : Hid (LmI g b n c f s' w u5 LL wr ∧ limDF f n s = (LL, s')) := ⟨by rw [hLL]; exact HI.out, by rw [hLL, HR.out, show 63 + x = j by have := HJ.out; have := HM.out; omega]⟩
        clear hLL HI
        obtain ⟨hF, q0, qf, hzz⟩ := FIN.out _ _ _ HI2.out.1 HI2.out.2
        obtain ⟨av, cv, ev, -, -, -⟩ := HI2.out.1.row.rd
        subst ev
        have HF : Hid (PthRet g b n c f (limDF f n s) w (.returned (.agg #[.slice av LL.length cv])) (wr.setCell ⟨w.heap.size, 0, none⟩ (.slice av LL.length cv))) := hF
        clear hF HI2
        generalize LL.length = LN at *
        go_wp2
        refine bodyPost_ret (v := .agg #[.slice av LN cv]) (by simp [results, Try.results48, go_sem, q0]) rfl HF.out
  have n0 : (k == 0) = false := by simp [e0]
  by_cases e1 : k = 1
  · subst e1
    have HR : Hid (limDF f n s = ([⟨1, [], []⟩] ++ (List.replicate 40 [(⟨1, [], []⟩ : Nd), ⟨7, [], []⟩]).flatten ++ List.replicate (19 + x) ⟨4, [113], []⟩, s')) := by
      show _ = _
      rw [HL.out, if_neg (by omega), if_pos rfl, show ((19 : Int) + (x : Int)).toNat = 19 + x by omega]
    have e19 : IntKind.i64.wrap (19 + (x : Int)) = ((19 + x : Nat) : Int) := by rw [IntKind.wrap_i64]; omega
    obtain ⟨M, hM⟩ : ∃ M, M = 19 + x := ⟨_, rfl⟩
    rw [← hM] at e19
    have e19' : (19 : Int) + (x : Int) = (M : Int) := by omega
    have HM : Hid (M = 19 + x) := hM
    clear hM HL
    go_wp2_with fail
    go_loopw [5, 7] (fun u i wr => ∃ j : Nat, i = .int .i64 (j : Int) ∧ j ≤ 40 ∧ LmI g b n c f s' w u ([(⟨1, [], []⟩ : Nd)] ++ (List.replicate j [(⟨1, [], []⟩ : Nd), ⟨7, [], []⟩]).flatten) wr) (fun _ i _ => 40 - (intOf i).toNat)
    case atStart => exact ⟨0, rfl, by omega, by simpa using I0.out⟩
    case round =>
      obtain ⟨j, rfl, hj, hI⟩ := hrel
      have HI : Hid (LmI g b n c f s' w u5 ([(⟨1, [], []⟩ : Nd)] ++ (List.replicate j [(⟨1, [], []⟩ : Nd), ⟨7, [], []⟩]).flatten) wr) := hI
      have hzr := blk_lt2 hI.box
      clear hI
      by_cases hlt : j < 40
      · have ij : (j : Int) < 40 := by omega
        have hlen : ([(⟨1, [], []⟩ : Nd)] ++ (List.replicate j [(⟨1, [], []⟩ : Nd), ⟨7, [], []⟩]).flatten).length ≤ 100 := by
          rw [List.length_append, List.length_flatten, List.map_replicate]; simp [List.sum_replicate_nat]; omega
        go_wp2_with (at_builtin; refine app_ndl rfl _ _ rfl (w.heap.size + 1) _ ([(⟨1, [], []⟩ : Nd)] ++ (List.replicate j [(⟨1, [], []⟩ : Nd), ⟨7, [], []⟩]).flatten) rfl (HI.out.row.below (below_alloc _ _)) (.slice (some ⟨wr.heap.size, 0, none⟩) 2 2) [(⟨1, [], []⟩ : Nd), ⟨7, [], []⟩] rfl (ndLits wr [(⟨1, [], []⟩ : Nd), ⟨7, [], []⟩] (by decide)) (by simp at hlen ⊢; omega) (by decide) (by simp; omega) ?_)
        intro v' wq hown' hgrow _
        have HX : Hid (LmI g b n c f s' w v' ([(⟨1, [], []⟩ : Nd)] ++ (List.replicate (j + 1) [(⟨1, [], []⟩ : Nd), ⟨7, [], []⟩]).flatten) wq) := HI.out.next HZ.out hZ (by rw [List.replicate_succ', List.flatten_append, ← List.append_assoc]; simpa using hown') hgrow
        clear hown' hgrow
        go_wp2
        go_roundw
        case rel => exact ⟨j + 1, by go_num, by omega, HX.out⟩
        case measure => simp [intOf]; omega
      · have ij : ¬ (j : Int) < 40 := by omega
        obtain rfl : j = 40 := by omega
        obtain ⟨L4, hL4⟩ : ∃ L4, L4 = [(⟨1, [], []⟩ : Nd)] ++ (List.replicate 40 [(⟨1, [], []⟩ : Nd), ⟨7, [], []⟩]).flatten := ⟨_, rfl⟩
        have hlen : L4.length = 81 := by rw [hL4]; rfl
        rw [← hL4] at HI HR
        have HJ0 : Hid (LmI g b n c f s' w u5 L4 wr) := HI.out
        clear HI hL4
        obtain ⟨wk, rfl⟩ : ∃ y, y = wr := ⟨_, rfl⟩
        obtain ⟨uk, rfl⟩ : ∃ y, y = u5 := ⟨_, rfl⟩
        go_wp2_with fail
        go_loopw [5, 8] (fun u i wr => ∃ j : Nat, i = .int .i64 (j : Int) ∧ j ≤ M ∧ LmI g b n c f s' w u (L4 ++ List.replicate j ⟨4, [113], []⟩) wr) (fun _ i _ => M - (intOf i).toNat)
        case atStart => exact ⟨0, rfl, Nat.zero_le _, by simpa using HJ0.out⟩
        case round =>
          obtain ⟨j, rfl, hj, hI⟩ := hrel
          have HI : Hid (LmI g b n c f s' w u5 (L4 ++ List.replicate j ⟨4, [113], []⟩) wr) := hI
          have hzr := blk_lt2 hI.box
          clear hI
          by_cases hlt : j < M
          · have ij : (j : Int) < (M : Int) := by omega
            go_wp2_with (at_builtin; refine app_nd rfl _ _ rfl (w.heap.size + 1) _ (L4 ++ List.replicate j ⟨4, [113], []⟩) rfl (HI.out.row.below (below_alloc _ _)) wr.heap.size ⟨4, [113], []⟩ rfl (new_cells _ [.int .i64 4, .string { data := #[113] }, .string { data := #[] }] _) (by rw [List.length_append, List.length_replicate]; have := HM.out; omega) (by simp; omega) ?_)
            intro v' wq hown' hgrow _
            have HX : Hid (LmI g b n c f s' w v' (L4 ++ List.replicate (j + 1) ⟨4, [113], []⟩) wq) := HI.out.next HZ.out hZ (by rw [List.replicate_succ', ← List.append_assoc]; simpa only [List.append_assoc] using hown') hgrow
            clear hown' hgrow
            go_wp2
            go_roundw
            case rel => exact ⟨j + 1, by go_num, by omega, HX.out⟩
            case measure => simp [intOf]; omega
          · have ij : ¬ (j : Int) < (M : Int) := by omega
            obtain ⟨LL, hLL⟩ : ∃ LL : List Nd, LL = L4 ++ List.replicate j ⟨4, [113], []⟩ := ⟨_, rfl⟩
            have HI2 : Hid (LmI g b n c f s' w u5 LL wr ∧ limDF f n s = (LL, s')) := ⟨by rw [hLL]; exact HI.out, by rw [hLL, HR.out, show 19 + x = j by have := HM.out; omega]⟩
            clear hLL HI
            obtain ⟨hF, q0, qf, hzz⟩ := FIN.out _ _ _ HI2.out.1 HI2.out.2
            obtain ⟨av, cv, ev, -, -, -⟩ := HI2.out.1.row.rd
            subst ev
            have HF : Hid (PthRet g b n c f (limDF f n s) w (.returned (.agg #[.slice av LL.length cv])) (wr.setCell ⟨w.heap.size, 0, none⟩ (.slice av LL.length cv))) := hF
            clear hF HI2
            generalize LL.length = LN at *
            go_wp2
            refine bodyPost_ret (v := .agg #[.slice av LN cv]) (by simp [results, Try.results48, go_sem, q0]) rfl HF.out
  have n1 : (k == 1) = false := by simp [e1]
  have e2 : k = 2 := by omega
  subst e2
  have HR : Hid (limDF f n s = ([⟨2, List.replicate (30 + x) 0, []⟩], s')) := by
    show _ = _
    rw [HL.out, if_neg (by omega), if_neg (by omega), show ((30 : Int) + (x : Int)).toNat = 30 + x by omega]
  have e30 : IntKind.i64.wrap (30 + (x : Int)) = ((30 + x : Nat) : Int) := by rw [IntKind.wrap_i64]; omega
  obtain ⟨M, hM⟩ : ∃ M, M = 30 + x := ⟨_, rfl⟩
  rw [← hM] at e30 HR
  have e30' : (30 : Int) + (x : Int) = (M : Int) := by omega
  have hM40 : M ≤ 40 := by omega
  clear hM HL
  go_wp2_with fail
  refine (zeros_tx M _ (by omega)).mono ?_
  rintro e w3 ⟨vz, rfl, htx, hb3⟩
  obtain ⟨az, cz, hvz, hrd, _⟩ := htx.rd
  have hrd' : Rd .u8 w3 az M (lf (List.replicate M 0)) := by have h := hrd; unfold RdL at h; rw [List.length_replicate] at h; exact h
  have cv1 := conv_T (w := w3) M cz (List.length_replicate ..).symm hrd'
  obtain ⟨Y, hY⟩ : ∃ Y, Y = strT (List.replicate M 0) := ⟨_, rfl⟩
  have HY : Hid (Y = strT (List.replicate M 0)) := hY
  rw [← hY] at cv1
  have hvz' : vz = .slice az M cz := by rw [hvz]
  subst hvz'
  have hz3 := hb3.size
  simp at hz3
  have I3 : Hid (LmI g b n c f s' w (.slice (some ⟨w3.heap.size, 0, none⟩) 1 1) [⟨2, List.replicate M 0, []⟩] (w3.alloc (.cells #[.int .i64 2, .string Y, .string { data := #[] }] 35))) := by
    have hr := ndLit w3 ⟨2, List.replicate M 0, []⟩
    have hc : (ndC ⟨2, List.replicate M 0, []⟩).toArray = #[.int .i64 2, .string Y, .string { data := #[] }] := by rw [HY.out]; rfl
    rw [hc] at hr
    have hbb : Below w2.heap.size w2 w3 := (below_alloc _ _).trans (hb3.mono (by simp))
    refine ⟨hr.mono' (by omega), ?_, ?_, ?_⟩
    · exact (I0.out.dr.below hb3).below (below_alloc _ _)
    · exact fr_below (fr_below I0.out.fr hb3) (below_alloc _ _)
    · exact ((below_alloc w3 _).block _ (by have := blk_lt2 I0.out.box; have := hb3.size; omega)).trans ((hb3.block _ (blk_lt2 I0.out.box)).trans I0.out.box)
  clear hrd hrd' htx hb3 hY hvz
  obtain ⟨hF, q0, qf, hzz⟩ := FIN.out _ _ _ I3.out HR.out
  have HF : Hid (PthRet g b n c f (limDF f n s) w (.returned (.agg #[.slice (some ⟨w3.heap.size, 0, none⟩) 1 1])) ((w3.alloc (.cells #[.int .i64 2, .string Y, .string { data := #[] }] 35)).setCell ⟨w.heap.size, 0, none⟩ (.slice (some ⟨w3.heap.size, 0, none⟩) 1 1))) := hF
  obtain ⟨w4, hw4⟩ : ∃ w4, w4 = w3.alloc (.cells #[.int .i64 2, .string Y, .string { data := #[] }] 35) := ⟨_, rfl⟩
  rw [← hw4] at HF q0 qf hzz
  clear hF
  go_upto_region 20 with fail
  rw [← hw4]
  clear hw4
  generalize w3.heap.size = b3 at *
  go_wp2
  refine bodyPost_ret (v := .agg #[.slice (some ⟨b3, 0, none⟩) 1 1]) (by simp [results, Try.results48, go_sem, q0]) rfl HF.out
end
end Go.Proofs.Ythcclkeeekppmaa

namespace Go.Proofs.Ythcclkeeekppmaa
open Go.RowKit Go.Deep
set_option linter.unusedVariables false
set_option linter.unusedSimpArgs false
set_option maxRecDepth 100000

/-- A PathRes as it is handed back. -/
def PVal (er at_ : Int) (v : Value) : Value := .agg #[.int .i64 er, .int .i64 at_, v]
def PaRet (f : Nat → Int) (n m : Nat) (w : World) (e : Ending) (w' : World) : Prop :=
  ∃ er at_ v l, e = .returned (PVal er at_ v) ∧ PAns f n m er at_ l ∧ NdA w' w.heap.size v l ∧ Below w.heap.size w w'
theorem NdA.nil (w : World) (B : Nat) : NdA w B (.slice none 0 0) [] := ⟨rfl, .inl ⟨rfl, rfl⟩⟩
theorem NdA.mono {w : World} {B B' : Nat} {v : Value} {l : List Nd} (h : NdA w B v l) (hb : B' ≤ B) : NdA w B' v l := Go.Joins.ownsRow_le h hb

theorem NdA.row {w : World} {B : Nat} {v : Value} {l : List Nd} (h : NdA w B v l) : (v = .slice none 0 0 ∧ l = []) ∨ ∃ g c, v = .slice (some ⟨g, 0, none⟩) l.length c ∧ B ≤ g ∧ rowIn w g 35 (l.length * 3) (pnCell (nI l) (nX l) (nR l)) := by
  obtain ⟨h0, ⟨e, h1⟩ | ⟨g, cap, cur, e, hg, hh, h1, h2, h3, h4⟩⟩ := h
  · exact .inl ⟨e, List.length_eq_zero_iff.1 h1⟩
  · refine .inr ⟨g, cap, e, hg, cur, hh, by rw [h3]; exact Nat.mul_le_mul_right 3 h1, fun i hi => ?_⟩
    have e4 : cur[i]? = (ndR l)[i]? := by
      rw [← h4, List.getElem?_take, if_pos hi]
      simp
    rw [e4]
    have hi3 : i = (i / 3) * 3 + i % 3 := by omega
    have := ndR_get l (i / 3) (i % 3) (by omega) (by omega)
    rw [← hi3] at this
    rw [this]
    unfold pnCell
    have h3 : i % 3 = 0 ∨ i % 3 = 1 ∨ i % 3 = 2 := by omega
    rcases h3 with q | q | q
    · rw [q, if_pos rfl]; rfl
    · rw [q, if_neg (by omega), if_pos rfl]; rfl
    · rw [q, if_neg (by omega), if_neg (by omega)]; rfl
end Go.Proofs.Ythcclkeeekppmaa

namespace Go.Proofs.Ythcclkeeekppmaa
open Go.RowKit Go.Deep
set_option linter.unusedVariables false
set_option linter.unusedSimpArgs false
set_option maxRecDepth 100000

/-- A path's nodes that can be read, whatever they are, in new memory. -/
def NdQ (w : World) (B : Nat) (v : Value) : Prop := ∃ q o n c I X R, v = .slice (some ⟨q, o, none⟩) n c ∧ B ≤ q ∧ q < w.heap.size ∧ RdN w (some ⟨q, o, none⟩) n I X R ∧ n ≤ 2000 ∧ n ≤ c ∧ c ≤ 9223372036854775807
theorem NRow.rd {w : World} {g n : Nat} (h : NRow w g n) : ∃ I X R, RdN w (some ⟨g, 0, none⟩) n I X R := by
  obtain ⟨I, X, R, h⟩ := h
  refine ⟨I, X, R, .inr ⟨g, 0, rfl, fun i hi => ⟨?_, ?_, ?_⟩⟩⟩
  · have := h.cell (i := i * 3) (by omega); rw [pnCell_0] at this; rwa [Nat.zero_add]
  · have := h.cell (i := i * 3 + 1) (by omega); rw [pnCell_1] at this; rwa [Nat.zero_add]
  · have := h.cell (i := i * 3 + 2) (by omega); rw [pnCell_2] at this; rwa [Nat.zero_add]
theorem NRow.rdFrom {w : World} {g n : Nat} (h : NRow w g (n + 1)) : ∃ I X R, RdN w (some ⟨g, 3, none⟩) n I X R := by
  obtain ⟨I, X, R, h⟩ := h
  refine ⟨fun i => I (i + 1), fun i => X (i + 1), fun i => R (i + 1), .inr ⟨g, 3, rfl, fun i hi => ⟨?_, ?_, ?_⟩⟩⟩
  · have := h.cell (i := (i + 1) * 3) (by omega); rw [pnCell_0] at this; rwa [show 3 + i * 3 = (i + 1) * 3 by omega]
  · have := h.cell (i := (i + 1) * 3 + 1) (by omega); rw [pnCell_1] at this; rwa [show 3 + i * 3 + 1 = (i + 1) * 3 + 1 by omega]
  · have := h.cell (i := (i + 1) * 3 + 2) (by omega); rw [pnCell_2] at this; rwa [show 3 + i * 3 + 2 = (i + 1) * 3 + 2 by omega]
theorem NRow.keep {w w' : World} {g n : Nat} (h : NRow w g n) (hb : w'.heap[g]? = w.heap[g]?) : NRow w' g n := by
  obtain ⟨I, X, R, h⟩ := h
  exact ⟨I, X, R, h.of_block hb⟩
theorem NRow.lt {w : World} {g n : Nat} (h : NRow w g n) : g < w.heap.size := by
  obtain ⟨I, X, R, h⟩ := h
  exact h.lt
theorem NdQ.fr {w w' : World} {B g : Nat} {v : Value} (h : NdQ w B v) (hg : w.grownBy w' (some g)) (hB : g < B) : NdQ w' B v := by
  obtain ⟨q, o, n, c, I, X, R, e, h1, h2, h3, h4⟩ := h
  have hb : w'.heap[q]? = w.heap[q]? := hg.block q h2 (fun e => by injection e with e; omega)
  refine ⟨q, o, n, c, I, X, R, e, h1, Nat.lt_of_lt_of_le h2 hg.size, ?_, h4⟩
  rcases h3 with h3 | ⟨x, y, e, h3⟩
  · exact .inl h3
  · injection e with e
    injection e with e1 e2
    subst e1 e2
    refine .inr ⟨_, _, rfl, fun i hi => ?_⟩
    have hq : ∀ z, w'.cell? ⟨q, z, none⟩ = w.cell? ⟨q, z, none⟩ := fun z => by unfold World.cell?; rw [hb]
    rw [hq, hq, hq]
    exact h3 i hi
theorem NdQ.mono {w : World} {B B' : Nat} {v : Value} (h : NdQ w B v) (hb : B' ≤ B) : NdQ w B' v := by
  obtain ⟨q, o, n, c, I, X, R, e, h1, h2⟩ := h
  exact ⟨q, o, n, c, I, X, R, e, Nat.le_trans hb h1, h2⟩
theorem NdA.q {w : World} {B : Nat} {v : Value} {l : List Nd} (h : NdA w B v l) (h0 : 0 < l.length) (h1 : l.length ≤ 2000) : NdQ w B v := by
  obtain ⟨a, c, e, hc, hcm, hr⟩ := h.rd
  obtain ⟨_, rfl⟩ | ⟨g, c', e', hg, hw⟩ := h.row
  · simp at h0
  · rw [e] at e'
    injection e' with ea _ ec
    subst ea ec
    exact ⟨g, 0, _, _, _, _, _, e, hg, hw.lt, hr, h1, hc, hcm⟩
/-- What hands back a path. -/
def PthQ (g : Nat) (b : Option Addr) (n c : Nat) (f : Nat → Int) (w : World) (e : Ending) (w' : World) : Prop :=
  ∃ v, e = .returned (.agg #[v]) ∧ NdQ w' w.heap.size v ∧ (∃ s', DrX w' g b n c f s') ∧ w.grownBy w' (some g)
/-- A path being spoilt. -/
structure SpI (g : Nat) (b : Option Addr) (n c : Nat) (f : Nat → Int) (w W : World) (q N : Nat) : Prop where
  row : NRow W q N
  lo : w.heap.size + 2 ≤ q
  dr : ∃ s', DrX W g b n c f s'
  fr : w.grownBy W (some g)
  box : W.heap[w.heap.size + 1]? = some (.cells #[.slice none 0 0] 25 (0, 0))
section
variable {Z g : Nat} {b : Option Addr} {n c : Nat} {f : Nat → Int} {s : Nat × Int} {w W : World} {q N : Nat}
theorem SpI.set (h : SpI g b n c f w W q N) (hz : DrB Z g b n) (hZ : Z ≤ w.heap.size) {W' : World} (hr : NRow W' q N) (hg : W.grownBy W' (some q)) : SpI g b n c f w W' q N := by
  have hlo := h.lo
  obtain ⟨s', hd⟩ := h.dr
  exact ⟨hr, hlo, ⟨s', hd.grown hz hg (fun x e => by injection e with e; omega)⟩, fr_new h.fr hg (fun x e => by injection e with e; omega), (hg.block _ (blk_lt2 h.box) (fun e => by injection e with e; omega)).trans h.box⟩
theorem SpI.draw (h : SpI g b n c f w W q N) (hg0 : g < w.heap.size) {W' : World} {s' : Nat × Int} (hd : DrX W' g b n c f s') (hg : W.grownBy W' (some g)) : SpI g b n c f w W' q N := by
  have hlo := h.lo
  exact ⟨h.row.keep (hg.block q h.row.lt (fun e => by injection e with e; omega)), hlo, ⟨s', hd⟩, grownN_trans h.fr hg, (hg.block _ (blk_lt2 h.box) (fun e => by injection e with e; omega)).trans h.box⟩
theorem SpI.done (h : SpI g b n c f w W q N) (hz : DrB Z g b n) (hZ : Z ≤ w.heap.size) (C : Nat) (h1 : N ≤ 2000) (h2 : N ≤ C) (h3 : C ≤ 9223372036854775807) : PthQ g b n c f w (.returned (.agg #[.slice (some ⟨q, 0, none⟩) N C])) (W.setCell ⟨w.heap.size + 1, 0, none⟩ (.slice (some ⟨q, 0, none⟩) N C)) := by
  have hlo := h.lo
  obtain ⟨s', hd⟩ := h.dr
  have hr : NRow (W.setCell ⟨w.heap.size + 1, 0, none⟩ (.slice (some ⟨q, 0, none⟩) N C)) q N := h.row.keep (Below.heap_setCell _ _ _ _ (by show q ≠ w.heap.size + 1; omega))
  obtain ⟨I, X, R, hrd⟩ := hr.rd
  exact ⟨_, rfl, ⟨q, 0, N, C, I, X, R, rfl, by omega, hr.lt, hrd, h1, h2, h3⟩, ⟨s', hd.grown hz grownN_set (fun x e => by injection e with e; omega)⟩, fr_new h.fr grownN_set (fun x e => by injection e with e; omega)⟩
theorem SpI.doneFrom (h : SpI g b n c f w W q (N + 1)) (hz : DrB Z g b n) (hZ : Z ≤ w.heap.size) (C : Nat) (h1 : N ≤ 2000) (h2 : N ≤ C) (h3 : C ≤ 9223372036854775807) : PthQ g b n c f w (.returned (.agg #[.slice (some ⟨q, 3, none⟩) N C])) (W.setCell ⟨w.heap.size + 1, 0, none⟩ (.slice (some ⟨q, 3, none⟩) N C)) := by
  have hlo := h.lo
  obtain ⟨s', hd⟩ := h.dr
  have hr : NRow (W.setCell ⟨w.heap.size + 1, 0, none⟩ (.slice (some ⟨q, 3, none⟩) N C)) q (N + 1) := h.row.keep (Below.heap_setCell _ _ _ _ (by show q ≠ w.heap.size + 1; omega))
  obtain ⟨I, X, R, hrd⟩ := hr.rdFrom
  exact ⟨_, rfl, ⟨q, 3, N, C, I, X, R, rfl, by omega, hr.lt, hrd, h1, h2, h3⟩, ⟨s', hd.grown hz grownN_set (fun x e => by injection e with e; omega)⟩, fr_new h.fr grownN_set (fun x e => by injection e with e; omega)⟩
theorem SpI.done0 (h : SpI g b n c f w W q N) (hz : DrB Z g b n) (hZ : Z ≤ w.heap.size) : PthQ g b n c f w (.returned (.agg #[.slice (some ⟨q, 0, none⟩) 0 0])) (W.setCell ⟨w.heap.size + 1, 0, none⟩ (.slice (some ⟨q, 0, none⟩) 0 0)) := by
  have hlo := h.lo
  obtain ⟨s', hd⟩ := h.dr
  exact ⟨_, rfl, ⟨q, 0, 0, 0, fun _ => 0, fun _ => ⟨#[]⟩, fun _ => ⟨#[]⟩, rfl, by omega, by have := h.row.lt; simpa using this, .inl rfl, by omega, by omega, by omega⟩, ⟨s', hd.grown hz grownN_set (fun x e => by injection e with e; omega)⟩, fr_new h.fr grownN_set (fun x e => by injection e with e; omega)⟩
theorem SpI.boxes (h : SpI g b n c f w W q N) : W.cell? ⟨w.heap.size + 1, 0, none⟩ = some (.slice none 0 0) ∧ (∀ o, W.frozen? ⟨w.heap.size + 1, o, none⟩ = false) ∧ w.heap.size + 1 < W.heap.size := by
  have hb := h.box
  exact ⟨by simp [World.cell?, hb], fun o => by simp [World.frozen?, hb], blk_lt2 hb⟩
end
end Go.Proofs.Ythcclkeeekppmaa

namespace Go.Proofs.Ythcclkeeekppmaa
open Go.RowKit Go.Deep
set_option linter.unusedVariables false
set_option linter.unusedSimpArgs false
set_option maxRecDepth 100000

theorem nd0 (w : World) (x : Nat) (hx : w.heap.size = x) : NdA (w.alloc (.cells #[] 35)) x (.slice (some ⟨x, 0, none⟩) 0 0) [] := by
  subst hx
  exact ndLits w [] (by decide)
set_option maxHeartbeats 4000000 in
theorem l6Spoil_x {Z g : Nat} {b : Option Addr} {n c : Nat} {f : Nat → Int} {s : Nat × Int} {w : World} (hz : DrB Z g b n) (hZ : Z ≤ w.heap.size) (h : DrX w g b n c f s) {By : Nat} {u : Value} {l : List Nd} (hy : NdA w By u l) (h0 : 0 < l.length) (h1 : l.length ≤ 1000) :
    Calls Try.prog 50 #[.pointer (some ⟨g, 0, none⟩), .agg #[u]] w (PthQ g b n c f w) := by
  have H : Hid (DrX w g b n c f s ∧ NdA w By u l) := ⟨h, hy⟩
  have HZ : Hid (DrB Z g b n) := hz
  have hzg := hz.1
  obtain ⟨ua, uc, rfl, huc, hucm, -⟩ := hy.rd
  clear h hz hy
  obtain ⟨NN, hNN⟩ : ∃ NN, NN = l.length := ⟨_, rfl⟩
  have HN : Hid (NN = l.length) := hNN
  rw [← hNN] at h0 h1 huc ⊢
  clear hNN
  have n0 : ((NN : Int) == 0) = false := by have : (NN : Int) ≠ 0 := by omega
                                            simpa using this
  go_enter Try.func50, Try.ntmps50
  go_wp2_with (at_builtin; refine app_ndl rfl _ _ rfl (w.heap.size + 2) _ [] rfl (nd0 _ (w.heap.size + 2) (by simp)) _ l (congrArg (fun x => Value.slice ua x uc) HN.out) (((H.out.2.below (below_alloc _ _)).below (below_alloc _ _)).below (below_alloc _ _)) (by have := HN.out; simp; omega) (by have := HN.out; omega) (by simp) ?_)
  intro v' w1 hown' hgrow hsm
  obtain ⟨e0, e1⟩ | ⟨q, qc, ev, hq, hrow⟩ := hown'.row
  · exfalso; have := HN.out; rw [e1] at this; simp at this; omega
  subst ev
  obtain ⟨qa, qd, ev2, hqc, hqcm, -⟩ := hown'.rd
  have ec2 : qd = qc := by injection ev2 with _ _ ev2; exact ev2.symm
  rw [ec2] at hqc hqcm
  clear ev2 ec2 qa qd
  rw [← HN.out] at hrow hqc ⊢
  have hgrow : ((((w.alloc (.cells #[.slice ua NN uc] 25)).alloc (.cells #[.slice none 0 0] 25)).alloc (.cells #[] 35))).grownBy w1 (some (w.heap.size + 2)) := hgrow
  have hgx : w.grownBy w1 (some g) := fr_new (grownN_below (((below_alloc _ _).alloc (by simp) _).alloc (by simp; omega) _) _) hgrow (fun x e => by injection e with e; omega)
  have hbx : w1.heap[w.heap.size + 1]? = some (.cells #[.slice none 0 0] 25 (0, 0)) := by
    refine (hgrow.block (w.heap.size + 1) (by simp) (fun e => by injection e with e; omega)).trans (((below_alloc _ _).block (w.heap.size + 1) (by simp)).trans ?_)
    rw [show w.heap.size + 1 = (w.alloc (.cells #[.slice ua NN uc] 25)).heap.size by simp]
    exact Array.getElem?_push_size
  have I1 : Hid (SpI g b n c f w w1 q NN ∧ NdA w1 (w.heap.size + 2) (.slice (some ⟨q, 0, none⟩) l.length qc) l) := ⟨⟨⟨_, _, _, hrow⟩, hq, ⟨s, (((H.out.1.below (below_alloc _ _)).below (below_alloc _ _)).below (below_alloc _ _)).grown HZ.out hgrow (fun x e => by injection e with e; omega)⟩, hgx, hbx⟩, hown'⟩
  clear hown' hgrow hsm hrow hgx hbx H
  obtain ⟨s1, hd1⟩ := I1.out.1.dr
  have HD1 : Hid (DrX w1 g b n c f s1) := hd1
  clear hd1
  go_wp2_with fail
  refine (l1Below_x HD1.out NN (by omega) (by omega)).mono ?_
  rintro e w2 ⟨rfl, hd2, ho2⟩
  have I2 : Hid (SpI g b n c f w w2 q NN ∧ NdA w2 (w.heap.size + 2) (.slice (some ⟨q, 0, none⟩) l.length qc) l ∧ DrX w2 g b n c f (nS n NN s1)) := ⟨I1.out.1.draw (by omega) hd2 ho2, I1.out.2.fr ho2 (by omega), hd2⟩
  obtain ⟨i0, i1⟩ := nBl_range f n (k := NN) (by omega) s1
  obtain ⟨i, hi⟩ : ∃ i : Nat, (i : Int) = nBl f n NN s1 := ⟨(nBl f n NN s1).toNat, by omega⟩
  rw [← hi] at i0 i1 ⊢
  have hiN : i < NN := by omega
  clear hi hd2 ho2 I1 HD1
  generalize nS n NN s1 = s2 at *
  go_wp2_with fail
  refine (l1Below_x I2.out.2.2 6 (by omega) (by omega)).mono ?_
  rintro e w3 ⟨rfl, hd3, ho3⟩
  have I3 : Hid (SpI g b n c f w w3 q NN ∧ NdA w3 (w.heap.size + 2) (.slice (some ⟨q, 0, none⟩) l.length qc) l ∧ DrX w3 g b n c f (nS n 6 s2)) := ⟨I2.out.1.draw (by omega) hd3 ho3, I2.out.2.1.fr ho3 (by omega), hd3⟩
  obtain ⟨k0, k1⟩ := nBl_range f n (k := 6) (by omega) s2
  generalize nBl f n 6 s2 = k at *
  generalize nS n 6 s2 = s3 at *
  clear hd3 ho3 I2
  have HF : Hid (∀ W, SpI g b n c f w W q NN → PthQ g b n c f w (.returned (.agg #[.slice (some ⟨q, 0, none⟩) NN qc])) (W.setCell ⟨w.heap.size + 1, 0, none⟩ (.slice (some ⟨q, 0, none⟩) NN qc))) := fun W hW => hW.done HZ.out hZ qc (by omega) hqc hqcm
  have hqn : q ≠ w.heap.size + 1 := by omega
  have aj : (Addr.mk q 0 none).add (i * 3) = ⟨q, i * 3, none⟩ := by rw [Addr.add_lit, Nat.zero_add]
  have tl : Int.toNat (i : Int) = i := rfl
  have ni : ¬ (i : Int) < 0 := by omega
  by_cases e0 : k = 0
  · subst e0
    go_wp2_with fail
    refine (l1Below_x I3.out.2.2 11 (by omega) (by omega)).mono ?_
    rintro e w4 ⟨rfl, hd4, ho4⟩
    have I4 : Hid (SpI g b n c f w w4 q NN) := I3.out.1.draw (by omega) hd4 ho4
    generalize nBl f n 11 s3 = kk at *
    clear hd4 ho4 I3
    obtain ⟨x0, x1, x2, cx0, cx1, cx2, qf, hqz⟩ := I4.out.row.cells hiN
    have I5 : Hid (SpI g b n c f w (w4.setCell ⟨q, i * 3, none⟩ (.int .i64 kk)) q NN) := I4.out.set HZ.out hZ (I4.out.row.set0 kk) grownN_set
    obtain ⟨b0, bf, bz⟩ := I5.out.boxes
    have HF2 := HF.out _ I5.out
    have HF3 : Hid (PthQ g b n c f w (.returned (.agg #[.slice (some ⟨q, 0, none⟩) NN qc])) ((w4.setCell ⟨q, i * 3, none⟩ (.int .i64 kk)).setCell ⟨w.heap.size + 1, 0, none⟩ (.slice (some ⟨q, 0, none⟩) NN qc))) := HF2
    clear HF HF2
    go_wp2
    refine bodyPost_ret (v := .agg #[.slice (some ⟨q, 0, none⟩) NN qc]) (by simp [results, Try.results50, go_sem, b0]) rfl HF3.out
  have m0 : (k == 0) = false := by simp [e0]
  by_cases e1 : k = 1
  · subst e1
    obtain ⟨x0, x1, x2, cx0, cx1, cx2, qf, hqz⟩ := I3.out.1.row.cells hiN
    have I5 : Hid (SpI g b n c f w (w3.setCell ⟨q, i * 3 + 1, none⟩ (.string { data := #[] })) q NN) := I3.out.1.set HZ.out hZ (I3.out.1.row.set1 { data := #[] }) grownN_set
    obtain ⟨b0, bf, bz⟩ := I5.out.boxes
    have HF2 := HF.out _ I5.out
    have HF3 : Hid (PthQ g b n c f w (.returned (.agg #[.slice (some ⟨q, 0, none⟩) NN qc])) ((w3.setCell ⟨q, i * 3 + 1, none⟩ (.string { data := #[] })).setCell ⟨w.heap.size + 1, 0, none⟩ (.slice (some ⟨q, 0, none⟩) NN qc))) := HF2
    clear HF HF2
    go_wp2
    refine bodyPost_ret (v := .agg #[.slice (some ⟨q, 0, none⟩) NN qc]) (by simp [results, Try.results50, go_sem, b0]) rfl HF3.out
  have m1 : (k == 1) = false := by simp [e1]
  by_cases e2 : k = 2
  · subst e2
    obtain ⟨x0, x1, x2, cx0, cx1, cx2, qf, hqz⟩ := I3.out.1.row.cells hiN
    have I5 : Hid (SpI g b n c f w (w3.setCell ⟨q, i * 3 + 2, none⟩ (.string { data := #[116] })) q NN) := I3.out.1.set HZ.out hZ (I3.out.1.row.set2 { data := #[116] }) grownN_set
    obtain ⟨b0, bf, bz⟩ := I5.out.boxes
    have HF2 := HF.out _ I5.out
    have HF3 : Hid (PthQ g b n c f w (.returned (.agg #[.slice (some ⟨q, 0, none⟩) NN qc])) ((w3.setCell ⟨q, i * 3 + 2, none⟩ (.string { data := #[116] })).setCell ⟨w.heap.size + 1, 0, none⟩ (.slice (some ⟨q, 0, none⟩) NN qc))) := HF2
    clear HF HF2
    go_wp2
    refine bodyPost_ret (v := .agg #[.slice (some ⟨q, 0, none⟩) NN qc]) (by simp [results, Try.results50, go_sem, b0]) rfl HF3.out
  have m2 : (k == 2) = false := by simp [e2]
  by_cases e3 : k = 3
  · subst e3
    obtain ⟨y, hy⟩ : ∃ y, y = l.getD 0 ⟨0, [], []⟩ := ⟨_, rfl⟩
    obtain ⟨cx0, cx1, cx2, qf, hqz⟩ : w3.cell? ⟨q, 0, none⟩ = some (.int .i64 (y.k : Int)) ∧ w3.cell? ⟨q, 1, none⟩ = some (.string (strT y.s)) ∧ w3.cell? ⟨q, 2, none⟩ = some (.string (strT y.t)) ∧ (∀ o, w3.frozen? ⟨q, o, none⟩ = false) ∧ q < w3.heap.size := by
      obtain ⟨e, _⟩ | ⟨q', c', e, _, hw⟩ := I3.out.2.1.row
      · cases e
      · injection e with e _ _
        injection e with e
        injection e with e
        subst e
        have hl0 : 0 < l.length := by have := HN.out; omega
        refine ⟨?_, ?_, ?_, hw.frozen, hw.lt⟩
        · have := hw.cell (i := 0 * 3) (by omega); rw [pnCell_0] at this; rw [hy]; exact this
        · have := hw.cell (i := 0 * 3 + 1) (by omega); rw [pnCell_1] at this; rw [hy]; exact this
        · have := hw.cell (i := 0 * 3 + 2) (by omega); rw [pnCell_2] at this; rw [hy]; exact this
    have HC : Hid (ndC y = [.int .i64 (y.k : Int), .string (strT y.s), .string (strT y.t)]) := rfl
    clear hy
    obtain ⟨b0, bf, bz⟩ := I3.out.1.boxes
    clear HF
    have h0' : (0 : Int) < (NN : Int) := by omega
    go_wp2_with (at_builtin; refine app_nd rfl _ _ rfl (w.heap.size + 2) _ l (congrArg (fun x => Value.slice (some ⟨q, 0, none⟩) x qc) HN.out) (I3.out.2.1.below (below_alloc _ _)) w3.heap.size y rfl (by rw [HC.out]; exact new_cells _ [.int .i64 (y.k : Int), .string (strT y.s), .string (strT y.t)] _) (by have := HN.out; omega) (by simp; omega) ?_)
    intro v' w4 hown' hgrow hsm
    have hgrow : (w3.alloc (.cells #[.int .i64 (y.k : Int), .string (strT y.s), .string (strT y.t)] 35)).grownBy w4 (some q) := hgrow
    have hlo := I3.out.1.lo
    have hbx : w4.heap[w.heap.size + 1]? = some (.cells #[.slice none 0 0] 25 (0, 0)) := (hgrow.block (w.heap.size + 1) (by simp; omega) (fun e => by injection e with e; omega)).trans (((below_alloc _ _).block (w.heap.size + 1) bz).trans I3.out.1.box)
    have hrow := hown'.row
    obtain ⟨e0, e1⟩ | ⟨q2, qc2, ev, hq2, hrow2⟩ := hrow
    · simp at e1
    have ev2 := hown'.rd
    subst ev
    obtain ⟨qa, qd, ev2, hqc2, hqcm2, -⟩ := ev2
    have ec2 : qd = qc2 := by injection ev2 with _ _ ev2; exact ev2.symm
    rw [ec2] at hqc2 hqcm2
    have eL : (l ++ [y]).length = NN + 1 := by rw [HN.out]; simp
    rw [eL] at hqc2 hrow2 ⊢
    have hI : SpI g b n c f w w4 q2 (NN + 1) := ⟨⟨_, _, _, hrow2⟩, hq2, ⟨_, (I3.out.2.2.below (below_alloc _ _)).grown HZ.out hgrow (fun x e => by injection e with e; omega)⟩, fr_new (grownN_trans I3.out.1.fr (grownN_below (below_alloc _ _) _)) hgrow (fun x e => by injection e with e; omega), hbx⟩
    obtain ⟨c0, cf, cz⟩ := hI.boxes
    have HF3 : Hid (PthQ g b n c f w (.returned (.agg #[.slice (some ⟨q2, 0, none⟩) (NN + 1) qc2])) (w4.setCell ⟨w.heap.size + 1, 0, none⟩ (.slice (some ⟨q2, 0, none⟩) (NN + 1) qc2))) := hI.done HZ.out hZ qc2 (by omega) hqc2 hqcm2
    clear hI hown' hgrow hsm hbx hrow2 ev2 ec2 eL b0 bf bz cx0 cx1 cx2 qf hqz I3
    generalize NN + 1 = N1 at *
    go_wp2
    refine bodyPost_ret (v := .agg #[.slice (some ⟨q2, 0, none⟩) N1 qc2]) (by simp [results, Try.results50, go_sem, c0]) rfl HF3.out
  have m3 : (k == 3) = false := by simp [e3]
  by_cases e4 : k = 4
  · subst e4
    obtain ⟨N', rfl⟩ : ∃ N', NN = N' + 1 := ⟨NN - 1, by omega⟩
    obtain ⟨b0, bf, bz⟩ := I3.out.1.boxes
    have i1' : (1 : Int) ≤ ((N' + 1 : Nat) : Int) := by omega
    by_cases ec : qc = 1
    · subst ec
      obtain rfl : N' = 0 := by omega
      have HF3 : Hid (PthQ g b n c f w (.returned (.agg #[.slice (some ⟨q, 0, none⟩) 0 0])) (w3.setCell ⟨w.heap.size + 1, 0, none⟩ (.slice (some ⟨q, 0, none⟩) 0 0))) := I3.out.1.done0 HZ.out hZ
      go_wp2
      refine bodyPost_ret (v := .agg #[.slice (some ⟨q, 0, none⟩) 0 0]) (by simp [results, Try.results50, go_sem, b0]) rfl HF3.out
    · obtain ⟨C', rfl⟩ : ∃ C', qc = C' + 1 := ⟨qc - 1, by omega⟩
      have hC' : 0 < C' := by omega
      have hC0 : C' ≠ 0 := by omega
      have HF3 : Hid (PthQ g b n c f w (.returned (.agg #[.slice (some ⟨q, 3, none⟩) N' C'])) (w3.setCell ⟨w.heap.size + 1, 0, none⟩ (.slice (some ⟨q, 3, none⟩) N' C'))) := I3.out.1.doneFrom HZ.out hZ C' (by omega) (by omega) (by omega)
      clear HF
      go_wp2
      refine bodyPost_ret (v := .agg #[.slice (some ⟨q, 3, none⟩) N' C']) (by simp [results, Try.results50, go_sem, b0]) rfl HF3.out
  have m4 : (k == 4) = false := by simp [e4]
  by_cases e5 : k = 5
  · subst e5
    obtain ⟨x0, x1, x2, cx0, cx1, cx2, qf, hqz⟩ := I3.out.1.row.cells hiN
    have I5 : Hid (SpI g b n c f w (w3.setCell ⟨q, i * 3 + 1, none⟩ (.string { data := #[120] })) q NN) := I3.out.1.set HZ.out hZ (I3.out.1.row.set1 { data := #[120] }) grownN_set
    obtain ⟨b0, bf, bz⟩ := I5.out.boxes
    have HF2 := HF.out _ I5.out
    have HF3 : Hid (PthQ g b n c f w (.returned (.agg #[.slice (some ⟨q, 0, none⟩) NN qc])) ((w3.setCell ⟨q, i * 3 + 1, none⟩ (.string { data := #[120] })).setCell ⟨w.heap.size + 1, 0, none⟩ (.slice (some ⟨q, 0, none⟩) NN qc))) := HF2
    clear HF HF2
    go_wp2
    refine bodyPost_ret (v := .agg #[.slice (some ⟨q, 0, none⟩) NN qc]) (by simp [results, Try.results50, go_sem, b0]) rfl HF3.out
  omega
end Go.Proofs.Ythcclkeeekppmaa
