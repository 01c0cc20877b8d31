import Derived.Test.YthcclkeeekppmaaNp25
import Derived.Deep.CutBlock
import Derived.Test.YthcclkeeekppmaaNp21
import Derived.Test.YthcclkeeekppmaaNp7
import Derived.Deep.CutRange
namespace Go.Proofs.Ythcclkeeekppmaa
open Go.RowKit Go.Deep
set_option linter.unusedVariables false
set_option linter.unusedSimpArgs false
set_option maxRecDepth 100000

theorem pathDF_len (f : Nat → Int) (n : Nat) (s : Nat × Int) : 0 < (pathDF f n s).1.length ∧ (pathDF f n s).1.length ≤ 46 := by
  obtain ⟨k0, k1⟩ := nBl_range f n (k := 4) (by omega) s
  unfold pathDF
  refine ⟨treeF_pos _ _ _ _, ?_⟩
  have h := treeF_len f n (1 + nBl f n 4 s).toNat (nS n 4 s)
  have h4 : (1 + nBl f n 4 s).toNat ≤ 4 := by omega
  have h5 : 3 * 2 ^ (1 + nBl f n 4 s).toNat ≤ 3 * 2 ^ 4 := Nat.mul_le_mul_left _ (Nat.pow_le_pow_right (by omega) h4)
  omega
theorem limDF_len (f : Nat → Int) (n : Nat) (s : Nat × Int) : 0 < (limDF f n s).1.length ∧ (limDF f n s).1.length ≤ 101 := by
  obtain ⟨x0, x1⟩ := nBl_range f n (k := 2) (by omega) (nS n 3 s)
  unfold limDF
  show 0 < List.length (if _ then _ else _) ∧ List.length (if _ then _ else _) ≤ _
  split
  · simp; omega
  · split
    · simp; omega
    · simp
section
variable {Z g : Nat} {b : Option Addr} {n c : Nat} {f : Nat → Int} {s : Nat × Int} {w : World}
theorem PthRet.q {r : List Nd × (Nat × Int)} (h0 : 0 < r.1.length) (h1 : r.1.length ≤ 2000) {e : Ending} {w' : World} (h : PthRet g b n c f r w e w') : PthQ g b n c f w e w' := by
  obtain ⟨v, e, hn, hd, hg⟩ := h
  exact ⟨v, e, hn.q h0 h1, ⟨_, hd⟩, hg⟩
/-- The result's cell, put in last. -/
theorem PthQ.put {wk w' : World} {v : Value} {i : Nat} (hz : DrB Z g b n) (hZ : Z ≤ w.heap.size) (hk : w.grownBy wk (some g)) (hi : w.heap.size ≤ i) (hik : i < wk.heap.size) (h : PthQ g b n c f wk (.returned (.agg #[v])) w') : PthQ g b n c f w (.returned (.agg #[v])) (w'.setCell ⟨i, 0, none⟩ v) := by
  obtain ⟨u, e, ⟨q, o, m, cc, I, X, R, e1, h1, h2, h3, h4⟩, ⟨s', hd⟩, hg⟩ := h
  injection e with e
  injection e with e
  have e : u = v := by simpa using e.symm
  subst e
  have hks := hk.size
  have hn : NdQ (w'.setCell ⟨i, 0, none⟩ u) w.heap.size u := by
    have hx : NdQ w' (i + 1) u := ⟨q, o, m, cc, I, X, R, e1, by omega, h2, h3, h4⟩
    exact (hx.fr grownN_set (by omega)).mono (by omega)
  exact ⟨u, rfl, hn, ⟨s', hd.grown hz grownN_set (fun x e => by injection e with e; omega)⟩, fr_new (grownN_trans hk hg) grownN_set (fun x e => by injection e with e; omega)⟩
set_option maxHeartbeats 4000000 in
theorem l6Any_x (hz : DrB Z g b n) (hZ : Z ≤ w.heap.size) (h : DrX w g b n c f s) : Calls Try.prog 20 #[.pointer (some ⟨g, 0, none⟩)] w (PthQ g b n c f w) := by
  have H : Hid (DrX w g b n c f s) := h
  have HZ : Hid (DrB Z g b n) := hz
  have hzg := hz.1
  clear h hz
  go_enter Try.func20, Try.ntmps20
  go_wp2_with fail
  refine (l1Once_x (H.out.below (below_alloc _ _)) 16 (by omega) (by omega)).mono ?_
  rintro e w1 ⟨rfl, hd1, ho1⟩
  have hz1 : w.heap.size + 1 ≤ w1.heap.size := by have := ho1.size; simpa using this
  have bg : w.heap.size ≠ g := by omega
  have H1 : Hid (DrX w1 g b n c f (nS n 16 s) ∧ w.grownBy w1 (some g) ∧ w1.heap[w.heap.size]? = some (.cells #[.slice none 0 0] 25 (0, 0))) := ⟨hd1, grownN_trans (grownN_below (below_alloc _ _) _) ho1, (ho1.block w.heap.size (by simp) (fun e => bg (by injection e with e))).trans Array.getElem?_push_size⟩
  clear hd1 ho1 H
  generalize nS n 16 s = s1 at *
  have FIN : Hid (∀ (wk w' : World) (v : Value), w.grownBy wk (some g) → w.heap.size < wk.heap.size → wk.heap[w.heap.size]? = some (.cells #[.slice none 0 0] 25 (0, 0)) → PthQ g b n c f wk (.returned (.agg #[v])) w' → PthQ g b n c f w (.returned (.agg #[v])) (w'.setCell ⟨w.heap.size, 0, none⟩ v) ∧ w'.cell? ⟨w.heap.size, 0, none⟩ = some (.slice none 0 0) ∧ (∀ o, w'.frozen? ⟨w.heap.size, o, none⟩ = false) ∧ w.heap.size < w'.heap.size) := fun wk w' v hk hlt hb hp => by
    have hg := hp
    obtain ⟨_, _, _, _, hg⟩ := hg
    have hb' : w'.heap[w.heap.size]? = some (.cells #[.slice none 0 0] 25 (0, 0)) := (hg.block _ hlt (fun e => bg (by injection e with e))).trans hb
    exact ⟨hp.put HZ.out hZ hk (Nat.le_refl _) hlt, by simp [World.cell?, hb'], fun o => by simp [World.frozen?, hb'], by have := hg.size; omega⟩
  by_cases h0 : nBl f n 16 s = 0
  · have e0 : (nBl f n 16 s == 0) = true := by simp [h0]
    go_wp2_with fail
    refine (l6Limit_x HZ.out (by omega) H1.out.1).mono ?_
    rintro e w2 hp
    have hp := PthRet.q (limDF_len f n s1).1 (by have := (limDF_len f n s1).2; omega) hp
    have hp' := hp
    obtain ⟨v, rfl, ⟨q, o, m, cc, I, X, R, rfl, -⟩, -⟩ := hp'
    obtain ⟨hF, q0, qf, hzz⟩ := FIN.out w1 w2 _ H1.out.2.1 (by omega) H1.out.2.2 hp
    have HF : Hid (PthQ g b n c f w (.returned (.agg #[.slice (some ⟨q, o, none⟩) m cc])) (w2.setCell ⟨w.heap.size, 0, none⟩ (.slice (some ⟨q, o, none⟩) m cc))) := hF
    clear hF hp FIN H1
    go_wp2
    refine bodyPost_ret (v := .agg #[.slice (some ⟨q, o, none⟩) m cc]) (by simp [results, Try.results20, go_sem, q0]) rfl HF.out
  have e0 : (nBl f n 16 s == 0) = false := by simp [h0]
  go_wp2_with fail
  refine (l6Path_x HZ.out (by omega) H1.out.1).mono ?_
  rintro e w2 ⟨v, rfl, hn2, hd2, ho2⟩
  have hz2 := ho2.size
  have hb2 : w2.heap[w.heap.size]? = some (.cells #[.slice none 0 0] 25 (0, 0)) := (ho2.block w.heap.size (by omega) (fun e => bg (by injection e with e))).trans H1.out.2.2
  obtain ⟨hl0, hl1⟩ := pathDF_len f n s1
  obtain ⟨av, cv, rfl, hlc, hcm, -⟩ := hn2.rd
  have H2 : Hid (NdA w2 w1.heap.size (.slice av (pathDF f n s1).1.length cv) (pathDF f n s1).1 ∧ DrX w2 g b n c f (pathDF f n s1).2 ∧ w.grownBy w2 (some g) ∧ w2.heap[w.heap.size]? = some (.cells #[.slice none 0 0] 25 (0, 0))) := ⟨hn2, hd2, grownN_trans H1.out.2.1 ho2, hb2⟩
  clear hn2 hd2 ho2 hb2 H1
  generalize (pathDF f n s1).1 = l at *
  generalize (pathDF f n s1).2 = s2 at *
  obtain ⟨NN, hNN⟩ : ∃ NN, NN = l.length := ⟨_, rfl⟩
  have HN : Hid (NN = l.length) := hNN
  rw [← hNN] at hl0 hl1 hlc ⊢
  clear hNN
  go_wp2_with fail
  refine (l1Once_x (H2.out.2.1.below (below_alloc _ _)) 8 (by omega) (by omega)).mono ?_
  rintro e w3 ⟨rfl, hd3, ho3⟩
  have hz3 : w2.heap.size + 1 ≤ w3.heap.size := by have := ho3.size; simpa using this
  have bg2 : w2.heap.size ≠ g := by omega
  have hk3 : w3.heap[w2.heap.size]? = some (.cells #[.slice av NN cv] 25 (0, 0)) := (ho3.block w2.heap.size (by simp) (fun e => bg2 (by injection e with e))).trans Array.getElem?_push_size
  have p0 : w3.cell? ⟨w2.heap.size, 0, none⟩ = some (.slice av NN cv) := by simp [World.cell?, hk3]
  have hb3 : w3.heap[w.heap.size]? = some (.cells #[.slice none 0 0] 25 (0, 0)) := (ho3.block w.heap.size (by simp; omega) (fun e => bg (by injection e with e))).trans (((below_alloc _ _).block w.heap.size (by omega)).trans H2.out.2.2.2)
  have H3 : Hid (NdA w3 w1.heap.size (.slice av NN cv) l ∧ DrX w3 g b n c f (nS n 8 s2) ∧ w.grownBy w3 (some g) ∧ w3.heap[w.heap.size]? = some (.cells #[.slice none 0 0] 25 (0, 0))) := ⟨by have := (H2.out.1.below (below_alloc _ _)).fr ho3 (by omega); rw [HN.out]; exact this, hd3, grownN_trans (fr_below H2.out.2.2.1 (below_alloc _ _)) ho3, hb3⟩
  clear hd3 ho3 hk3 hb3 H2
  generalize nS n 8 s2 = s3 at *
  by_cases h8 : nBl f n 8 s2 = 0
  · have e8 : (nBl f n 8 s2 == 0) = true := by simp [h8]
    go_wp2_with fail
    refine (l6Spoil_x HZ.out (by omega) H3.out.2.1 H3.out.1 (by rw [← HN.out]; omega) (by rw [← HN.out]; omega)).mono ?_
    rintro e w4 hp
    have hp' := hp
    obtain ⟨v, rfl, ⟨q, o, m, cc, I, X, R, rfl, -⟩, -⟩ := hp'
    obtain ⟨hF, q0, qf, hzz⟩ := FIN.out w3 w4 _ H3.out.2.2.1 (by omega) H3.out.2.2.2 hp
    have HF : Hid (PthQ g b n c f w (.returned (.agg #[.slice (some ⟨q, o, none⟩) m cc])) (w4.setCell ⟨w.heap.size, 0, none⟩ (.slice (some ⟨q, o, none⟩) m cc))) := hF
    clear hF hp FIN H3
    go_wp2
    refine bodyPost_ret (v := .agg #[.slice (some ⟨q, o, none⟩) m cc]) (by simp [results, Try.results20, go_sem, q0]) rfl HF.out
  have e8 : (nBl f n 8 s2 == 0) = false := by simp [h8]
  have hb3 := H3.out.2.2.2
  have q0 : w3.cell? ⟨w.heap.size, 0, none⟩ = some (.slice none 0 0) := by simp [World.cell?, hb3]
  have qf : ∀ o, w3.frozen? ⟨w.heap.size, o, none⟩ = false := fun o => by simp [World.frozen?, hb3]
  have hzz : w.heap.size < w3.heap.size := by omega
  have HF : Hid (PthQ g b n c f w (.returned (.agg #[.slice av NN cv])) (w3.setCell ⟨w.heap.size, 0, none⟩ (.slice av NN cv))) :=
    ⟨_, rfl, ((H3.out.1.q (by rw [← HN.out]; omega) (by rw [← HN.out]; omega)).fr grownN_set (by omega)).mono (by omega), ⟨_, H3.out.2.1.grown HZ.out grownN_set (fun x e => by injection e with e; omega)⟩, fr_new H3.out.2.2.1 grownN_set (fun x e => by injection e with e; omega)⟩
  clear hb3 FIN H3
  go_wp2
  refine bodyPost_ret (v := .agg #[.slice av NN cv]) (by simp [results, Try.results20, go_sem, q0]) rfl HF.out

/-- A path that DrawPrintPath hands out. -/
def DpRet (w : World) (e : Ending) (w' : World) : Prop := ∃ v, e = .returned (.agg #[v]) ∧ NdQ w' w.heap.size v ∧ Below w.heap.size w w'
end
end Go.Proofs.Ythcclkeeekppmaa

namespace Go.Proofs.Ythcclkeeekppmaa
open Go.RowKit Go.Deep
set_option linter.unusedVariables false
set_option linter.unusedSimpArgs false
set_option maxRecDepth 100000

/-- A node that can be shown. -/
def gdW (x : Nd) : Prop := (1 ≤ x.k ∧ x.k ≤ 9) ∧ x.s.length ≤ 31 ∧ x.t.length ≤ 31
theorem getD_in {L : List ByteArray} {k : Nat} {m : Nat} (h : ∀ x, x ∈ L → x.size ≤ m) : (L.getD k { data := #[] }).size ≤ m := by
  rw [List.getD_eq_getElem?_getD]
  cases e : L[k]? with
  | none => exact Nat.zero_le _
  | some x => exact h x (List.mem_of_getElem? e)
theorem pkS_size (f : Nat → Int) (n : Nat) (s : Nat × Int) {L : List ByteArray} {m : Nat} (h : ∀ x, x ∈ L → x.size ≤ m) : (bl (pkS f n L s)).length ≤ m := by
  rw [bl_length]
  exact getD_in h
theorem wdA_size : ∀ x, x ∈ wdA → x.size ≤ 31 := by decide
theorem wdB_size : ∀ x, x ∈ wdB → x.size ≤ 31 := by decide
theorem wdP_size : ∀ x, x ∈ wdP → x.size ≤ 31 := by decide
theorem wdG_size : ∀ x, x ∈ wdG → x.size ≤ 31 := by decide
theorem wordF_size (f : Nat → Int) (n : Nat) (s : Nat × Int) : (bl (wordF f n s)).length ≤ 31 := by
  unfold wordF
  split
  · exact pkS_size _ _ _ wdA_size
  · exact pkS_size _ _ _ wdB_size
/-- Nodes that can be shown. -/
def ShW (l : List Nd) : Prop := Tr l ∧ ∀ x, x ∈ l → gdW x
theorem ShW.one {l : List Nd} {x : Nd} (hl : ShW l) (h : gdW x) (ha : arN x.k = 1) : ShW (l ++ [x]) := ⟨tr_one hl.1 ha, fun y hy => by
  rcases List.mem_append.1 hy with hy | hy
  · exact hl.2 y hy
  · simp at hy; rw [hy]; exact h⟩
theorem ShW.two {l l' : List Nd} {x : Nd} (hl : ShW l) (hl' : ShW l') (h : gdW x) (ha : arN x.k = 2) : ShW (l ++ l' ++ [x]) := ⟨tr_two hl.1 hl'.1 ha, fun y hy => by
  rcases List.mem_append.1 hy with hy | hy
  · rcases List.mem_append.1 hy with hy | hy
    · exact hl.2 y hy
    · exact hl'.2 y hy
  · simp at hy; rw [hy]; exact h⟩
end Go.Proofs.Ythcclkeeekppmaa

namespace Go.Proofs.Ythcclkeeekppmaa
open Go.RowKit Go.Deep
set_option linter.unusedVariables false
set_option linter.unusedSimpArgs false
set_option maxRecDepth 100000

theorem most_any (a : Option Addr) (n c : Nat) (w : World) (hn : n ≤ 1048576) : Calls Try.prog 22 #[.slice a n c] w fun e w' => ∃ k : Nat, e = .returned (.int .i64 (k : Int)) ∧ 14 ≤ k ∧ k ≤ 34 ∧ w' = w := by
  obtain ⟨q, hq⟩ : ∃ q : Nat, (q : Int) = 14 + Int.tdiv (n : Int) 10 := ⟨(14 + Int.tdiv (n : Int) 10).toNat, by have := Int.tdiv_nonneg (a := (n : Int)) (b := 10) (by omega) (by omega); omega⟩
  have hq1 : 14 ≤ q := by have := Int.tdiv_nonneg (a := (n : Int)) (b := 10) (by omega) (by omega); omega
  have hq2 : q ≤ 200000 := by have : Int.tdiv (n : Int) 10 ≤ 150000 := by rw [Int.tdiv_eq_ediv_of_nonneg (by omega)]; omega
                              omega
  have e2 : Int.tdiv (n : Int) 10 = (q : Int) - 14 := by omega
  have e3 : (n : Int) / 10 = (q : Int) - 14 := by rw [← Int.tdiv_eq_ediv_of_nonneg (by omega)]; exact e2
  have w1 : IntKind.i64.wrap ((q : Int) - 14) = (q : Int) - 14 := by rw [IntKind.wrap_i64]; omega
  have w2 : IntKind.i64.wrap (14 + ((q : Int) - 14)) = (q : Int) := by rw [IntKind.wrap_i64]; omega
  have w3 : 14 + ((q : Int) - 14) = (q : Int) := by omega
  clear hq
  by_cases h : 34 < q
  · have h' : (34 : Int) < (q : Int) := by omega
    go_enter Try.func22, Try.ntmps22
    go_wp2
    go_ret
    exact ⟨34, rfl, by omega, by omega, rfl⟩
  · have h' : ¬ (34 : Int) < (q : Int) := by omega
    go_enter Try.func22, Try.ntmps22
    go_wp2
    go_ret
    exact ⟨q, rfl, by omega, by omega, rfl⟩
/-- A fact that is drawn. -/
def FctX (g : Nat) (b : Option Addr) (n c : Nat) (f : Nat → Int) (w : World) (e : Ending) (w' : World) : Prop :=
  ∃ x : Fc, e = .returned (.agg #[.string x.s, .string x.p, .string x.o, .string x.g]) ∧ (x.s.size ≤ 31 ∧ x.o.size ≤ 31) ∧ (∃ s', DrX w' g b n c f s') ∧ w.grownBy w' (some g)
/-- A row of strings in a box. -/
def fcB (x : Fc) (j : Nat) : Value := if j = 0 then .string x.s else if j = 1 then .string x.p else if j = 2 then .string x.o else .string x.g
def fc0 : Fc := ⟨{ data := #[] }, { data := #[] }, { data := #[] }, { data := #[] }⟩
section
variable {Z g : Nat} {b : Option Addr} {n c : Nat} {f : Nat → Int} {s : Nat × Int} {w : World}
/-- What l5Fact holds while it goes on. -/
structure FcI (Z g : Nat) (b : Option Addr) (n c : Nat) (f : Nat → Int) (w : World) (s : Nat × Int) (x : Fc) (W : World) : Prop where
  dr : DrX W g b n c f s
  fr : w.grownBy W (some g)
  bx : rowIn W (w.heap.size + 1) 38 4 (fcB x)
  rs : rowIn W w.heap.size 38 4 (fcB fc0)
theorem FcI.call {x : Fc} {s' : Nat × Int} {W W' : World} (h : FcI Z g b n c f w s x W) (hg : g < w.heap.size) (hd : DrX W' g b n c f s') (ho : W.grownBy W' (some g)) : FcI Z g b n c f w s' x W' :=
  ⟨hd, grownN_trans h.fr ho, h.bx.of_block (ho.block _ h.bx.lt (fun e => by injection e with e; omega)), h.rs.of_block (ho.block _ h.rs.lt (fun e => by injection e with e; omega))⟩
theorem FcI.put {x y : Fc} {W : World} (h : FcI Z g b n c f w s x W) (hz : DrB Z g b n) (hZ : Z ≤ w.heap.size) (i : Nat) (v : Value) (hy : ∀ j, j < 4 → (if j = i then v else fcB x j) = fcB y j) : FcI Z g b n c f w s y (W.setCell ⟨w.heap.size + 1, i, none⟩ v) :=
  ⟨h.dr.grown hz grownN_set (fun q e => by injection e with e; omega), fr_new h.fr grownN_set (fun q e => by injection e with e; omega), (h.bx.set i v).congr hy, h.rs.setOther (by show w.heap.size ≠ _; simp) _⟩
set_option maxHeartbeats 4000000 in
theorem l5Fact_x (hz : DrB Z g b n) (hZ : Z ≤ w.heap.size) (h : DrX w g b n c f s) : Calls Try.prog 24 #[.pointer (some ⟨g, 0, none⟩)] w (FctX g b n c f w) := by
  have hlt := h.lt
  have HZ : Hid (DrB Z g b n) := hz
  have I0 : Hid (FcI Z g b n c f w s fc0 ((w.alloc (.cells #[.string { data := #[] }, .string { data := #[] }, .string { data := #[] }, .string { data := #[] }] 38)).alloc (.cells #[.string { data := #[] }, .string { data := #[] }, .string { data := #[] }, .string { data := #[] }] 38))) := by
    have e : (w.alloc (.cells #[.string { data := #[] }, .string { data := #[] }, .string { data := #[] }, .string { data := #[] }] 38)).heap.size = w.heap.size + 1 := by simp
    have b0 := below_alloc w (.cells #[.string { data := #[] }, .string { data := #[] }, .string { data := #[] }, .string { data := #[] }] 38)
    have b1 := below_alloc (w.alloc (.cells #[.string { data := #[] }, .string { data := #[] }, .string { data := #[] }, .string { data := #[] }] 38)) (.cells #[.string { data := #[] }, .string { data := #[] }, .string { data := #[] }, .string { data := #[] }] 38)
    refine ⟨(h.below b0).below b1, grownN_trans (grownN_below b0 _) (grownN_below b1 _), ?_, ?_⟩
    · rw [← e]
      exact ⟨_, Array.getElem?_push_size, by simp, fun j hj => by
        match j, hj with
        | 0, _ => rfl
        | 1, _ => rfl
        | 2, _ => rfl
        | 3, _ => rfl⟩
    · refine rowIn.of_block (w := w.alloc (.cells #[.string { data := #[] }, .string { data := #[] }, .string { data := #[] }, .string { data := #[] }] 38)) ?_ (b1.block _ (by simp))
      exact ⟨_, Array.getElem?_push_size, by simp, fun j hj => by
        match j, hj with
        | 0, _ => rfl
        | 1, _ => rfl
        | 2, _ => rfl
        | 3, _ => rfl⟩
  clear h hz
  go_enter Try.func24, Try.ntmps24
  go_upto_region 2 with fail
  generalize ((w.alloc (.cells #[.string { data := #[] }, .string { data := #[] }, .string { data := #[] }, .string { data := #[] }] 38)).alloc (.cells #[.string { data := #[] }, .string { data := #[] }, .string { data := #[] }, .string { data := #[] }] 38)) = W0 at *
  try simp only [Array.size_push, World.heap_alloc_size, World.size_alloc]
  go_wp2_with fail
  refine (l5Word_x I0.out.dr).mono ?_
  rintro e w0 ⟨rfl, hd, ho⟩
  have J0 := I0.out.call hlt hd ho
  have c0 : w0.cell? ⟨w.heap.size + 1, 0, none⟩ = some (fcB fc0 0) := J0.bx.cell (i := 0) (by omega)
  have f0 : w0.frozen? ⟨w.heap.size + 1, 0, none⟩ = false := J0.bx.frozen 0
  have HY0 : Hid ((wordF f n s).size ≤ 31) := by have := wordF_size f n s; rw [bl_length] at this; exact this
  generalize wordF f n s = Y0 at *
  have I1 : Hid (FcI Z g b n c f w _ ⟨Y0, fc0.p, fc0.o, fc0.g⟩ (w0.setCell ⟨w.heap.size + 1, 0, none⟩ (.string Y0))) := J0.put HZ.out hZ 0 (.string Y0) (fun j hj => by
    match j, hj with
    | 0, _ => simp [fcB]
    | 1, _ => simp [fcB]
    | 2, _ => simp [fcB]
    | 3, _ => simp [fcB])
  have z0 := J0.bx.lt
  clear hd ho J0 I0
  go_upto_region 3 with fail
  generalize w0.setCell ⟨w.heap.size + 1, 0, none⟩ (.string Y0) = V0 at *
  clear c0 f0 z0
  generalize wordS n s = s1 at *
  go_wp2_with fail
  refine (l5Pred_x I1.out.dr).mono ?_
  rintro e w1 ⟨rfl, hd, ho⟩
  have J1 := I1.out.call hlt hd ho
  have c1 : w1.cell? ⟨w.heap.size + 1, 1, none⟩ = some (fcB ⟨Y0, fc0.p, fc0.o, fc0.g⟩ 1) := J1.bx.cell (i := 1) (by omega)
  have f1 : w1.frozen? ⟨w.heap.size + 1, 1, none⟩ = false := J1.bx.frozen 1
  have HY1 : Hid ((pkS f n wdP s1).size ≤ 31) := getD_in wdP_size
  generalize pkS f n wdP s1 = Y1 at *
  have I2 : Hid (FcI Z g b n c f w _ ⟨Y0, Y1, fc0.o, fc0.g⟩ (w1.setCell ⟨w.heap.size + 1, 1, none⟩ (.string Y1))) := J1.put HZ.out hZ 1 (.string Y1) (fun j hj => by
    match j, hj with
    | 0, _ => simp [fcB]
    | 1, _ => simp [fcB]
    | 2, _ => simp [fcB]
    | 3, _ => simp [fcB])
  have z1 := J1.bx.lt
  clear hd ho J1 I1
  go_upto_region 4 with fail
  generalize w1.setCell ⟨w.heap.size + 1, 1, none⟩ (.string Y1) = V1 at *
  clear c1 f1 z1
  generalize nS n 5 s1 = s2 at *
  go_wp2_with fail
  refine (l5Word_x I2.out.dr).mono ?_
  rintro e w2 ⟨rfl, hd, ho⟩
  have J2 := I2.out.call hlt hd ho
  have c2 : w2.cell? ⟨w.heap.size + 1, 2, none⟩ = some (fcB ⟨Y0, Y1, fc0.o, fc0.g⟩ 2) := J2.bx.cell (i := 2) (by omega)
  have f2 : w2.frozen? ⟨w.heap.size + 1, 2, none⟩ = false := J2.bx.frozen 2
  have HY2 : Hid ((wordF f n s2).size ≤ 31) := by have := wordF_size f n s2; rw [bl_length] at this; exact this
  generalize wordF f n s2 = Y2 at *
  have I3 : Hid (FcI Z g b n c f w _ ⟨Y0, Y1, Y2, fc0.g⟩ (w2.setCell ⟨w.heap.size + 1, 2, none⟩ (.string Y2))) := J2.put HZ.out hZ 2 (.string Y2) (fun j hj => by
    match j, hj with
    | 0, _ => simp [fcB]
    | 1, _ => simp [fcB]
    | 2, _ => simp [fcB]
    | 3, _ => simp [fcB])
  have z2 := J2.bx.lt
  clear hd ho J2 I2
  go_upto_region 5 with fail
  generalize w2.setCell ⟨w.heap.size + 1, 2, none⟩ (.string Y2) = V2 at *
  clear c2 f2 z2
  generalize wordS n s2 = s3 at *
  go_wp2_with fail
  refine (l5Label_x I3.out.dr).mono ?_
  rintro e w3 ⟨rfl, hd, ho⟩
  have J3 := I3.out.call hlt hd ho
  have c3 : w3.cell? ⟨w.heap.size + 1, 3, none⟩ = some (fcB ⟨Y0, Y1, Y2, fc0.g⟩ 3) := J3.bx.cell (i := 3) (by omega)
  have f3 : w3.frozen? ⟨w.heap.size + 1, 3, none⟩ = false := J3.bx.frozen 3
  have HY3 : Hid ((pkS f n wdG s3).size ≤ 31) := getD_in wdG_size
  generalize pkS f n wdG s3 = Y3 at *
  have I4 : Hid (FcI Z g b n c f w _ ⟨Y0, Y1, Y2, Y3⟩ (w3.setCell ⟨w.heap.size + 1, 3, none⟩ (.string Y3))) := J3.put HZ.out hZ 3 (.string Y3) (fun j hj => by
    match j, hj with
    | 0, _ => simp [fcB]
    | 1, _ => simp [fcB]
    | 2, _ => simp [fcB]
    | 3, _ => simp [fcB])
  have z3 := J3.bx.lt
  clear hd ho J3 I3
  go_upto_region 6 with fail
  generalize w3.setCell ⟨w.heap.size + 1, 3, none⟩ (.string Y3) = V3 at *
  clear c3 f3 z3
  have d0 : V3.cell? ⟨w.heap.size + 1, 0, none⟩ = some (.string Y0) := I4.out.bx.cell (i := 0) (by omega)
  have d1 : V3.cell? ⟨w.heap.size + 1, 1, none⟩ = some (.string Y1) := I4.out.bx.cell (i := 1) (by omega)
  have d2 : V3.cell? ⟨w.heap.size + 1, 2, none⟩ = some (.string Y2) := I4.out.bx.cell (i := 2) (by omega)
  have d3 : V3.cell? ⟨w.heap.size + 1, 3, none⟩ = some (.string Y3) := I4.out.bx.cell (i := 3) (by omega)
  have r0 : V3.cell? ⟨w.heap.size, 0, none⟩ = some (.string { data := #[] }) := I4.out.rs.cell (i := 0) (by omega)
  have r1 : V3.cell? ⟨w.heap.size, 1, none⟩ = some (.string { data := #[] }) := I4.out.rs.cell (i := 1) (by omega)
  have r2 : V3.cell? ⟨w.heap.size, 2, none⟩ = some (.string { data := #[] }) := I4.out.rs.cell (i := 2) (by omega)
  have r3 : V3.cell? ⟨w.heap.size, 3, none⟩ = some (.string { data := #[] }) := I4.out.rs.cell (i := 3) (by omega)
  have rf : ∀ o, V3.frozen? ⟨w.heap.size, o, none⟩ = false := fun o => I4.out.rs.frozen o
  have zr := I4.out.rs.lt
  have HF : Hid (FctX g b n c f w (.returned (.agg #[.string Y0, .string Y1, .string Y2, .string Y3])) ((((V3.setCell ⟨w.heap.size, 0, none⟩ (.string Y0)).setCell ⟨w.heap.size, 1, none⟩ (.string Y1)).setCell ⟨w.heap.size, 2, none⟩ (.string Y2)).setCell ⟨w.heap.size, 3, none⟩ (.string Y3))) := by
    have hs : ∀ (W : World) (i : Nat) (v : Value), (∃ s', DrX W g b n c f s') ∧ w.grownBy W (some g) → (∃ s', DrX (W.setCell ⟨w.heap.size, i, none⟩ v) g b n c f s') ∧ w.grownBy (W.setCell ⟨w.heap.size, i, none⟩ v) (some g) := fun W i v ⟨⟨s', h1⟩, h2⟩ => ⟨⟨s', h1.grown HZ.out grownN_set (fun q e => by injection e with e; omega)⟩, fr_new h2 grownN_set (fun q e => by injection e with e; omega)⟩
    exact ⟨⟨Y0, Y1, Y2, Y3⟩, rfl, ⟨HY0.out, HY2.out⟩, (hs _ 3 _ (hs _ 2 _ (hs _ 1 _ (hs _ 0 _ ⟨⟨_, I4.out.dr⟩, I4.out.fr⟩))))⟩
  clear I4
  go_wp2
  refine bodyPost_ret (v := .agg #[.string Y0, .string Y1, .string Y2, .string Y3]) (by simp [results, Try.results24, go_sem, r0, r1, r2, r3]) rfl HF.out
end
end Go.Proofs.Ythcclkeeekppmaa
