import Derived.Test.YtocmbnocdjnfpaaNl2
import Derived.Test.YtocmbnocdjnfpaaQbD
import Derived.Test.YtocmbnocdjnfpaaNl4
import Derived.Test.YtocmbnocdjnfpaaQbC
import Derived.Deep.CutBlock
import Derived.Test.YtocmbnocdjnfpaaPpD
import Derived.Test.YtocmbnocdjnfpaaNl3
import Derived.Test.YtocmbnocdjnfpaaPpH
import Derived.Deep.CutRange
namespace Go.Proofs.Ytocmbnocdjnfpaa
open Go.RowKit Go.Deep
set_option linter.unusedVariables false
set_option linter.unusedSimpArgs false
set_option maxRecDepth 100000

/-- A PathRes as it is handed back. -/
def PVal (er at_ : Int) (v : Value) : Value := .agg #[.int .i64 er, .int .i64 at_, v]
def PaRet (f : Nat → Int) (n m : Nat) (w : World) (e : Ending) (w' : World) : Prop :=
  ∃ er at_ v l, e = .returned (PVal er at_ v) ∧ PAns f n m er at_ l ∧ NdA w' w.heap.size v l ∧ Below w.heap.size w w'
theorem NdA.nil (w : World) (B : Nat) : NdA w B (.slice none 0 0) [] := ⟨rfl, .inl ⟨rfl, rfl⟩⟩
theorem NdA.mono {w : World} {B B' : Nat} {v : Value} {l : List Nd} (h : NdA w B v l) (hb : B' ≤ B) : NdA w B' v l := Go.Joins.ownsRow_le h hb

theorem NdA.setLow {w : World} {B : Nat} {v : Value} {l : List Nd} (h : NdA w B v l) {a : Addr} (ha : a.block < B) (u : Value) : NdA (w.setCell a u) B v l :=
  plS_keep h (fun g e => Below.heap_setCell w a u g (by have := (h.lt g e).1; omega))
theorem NdA.row {w : World} {B : Nat} {v : Value} {l : List Nd} (h : NdA w B v l) : (v = .slice none 0 0 ∧ l = []) ∨ ∃ g c, v = .slice (some ⟨g, 0, none⟩) l.length c ∧ B ≤ g ∧ rowIn w g 61 (l.length * 3) (pnCell (nI l) (nX l) (nR l)) := by
  obtain ⟨h0, ⟨e, h1⟩ | ⟨g, cap, cur, e, hg, hh, h1, h2, h3, h4⟩⟩ := h
  · exact .inl ⟨e, List.length_eq_zero_iff.1 h1⟩
  · refine .inr ⟨g, cap, e, hg, cur, hh, by rw [h3]; exact Nat.mul_le_mul_right 3 h1, fun i hi => ?_⟩
    have e4 : cur[i]? = (ndR l)[i]? := by
      rw [← h4, List.getElem?_take, if_pos hi]
      simp
    rw [e4]
    have hi3 : i = (i / 3) * 3 + i % 3 := by omega
    have := ndR_get l (i / 3) (i % 3) (by omega) (by omega)
    rw [← hi3] at this
    rw [this]
    unfold pnCell
    have h3 : i % 3 = 0 ∨ i % 3 = 1 ∨ i % 3 = 2 := by omega
    rcases h3 with q | q | q
    · rw [q, if_pos rfl]; rfl
    · rw [q, if_neg (by omega), if_pos rfl]; rfl
    · rw [q, if_neg (by omega), if_neg (by omega)]; rfl
end Go.Proofs.Ytocmbnocdjnfpaa

namespace Go.Proofs.Ytocmbnocdjnfpaa
open Go.RowKit Go.Deep
set_option linter.unusedVariables false
set_option linter.unusedSimpArgs false
set_option maxRecDepth 100000

/-- A path's nodes that can be read, whatever they are, in new memory. -/
def NdQ (w : World) (B : Nat) (v : Value) : Prop := ∃ q o n c I X R, v = .slice (some ⟨q, o, none⟩) n c ∧ B ≤ q ∧ q < w.heap.size ∧ RdN w (some ⟨q, o, none⟩) n I X R ∧ n ≤ 2000 ∧ n ≤ c ∧ c ≤ 9223372036854775807
theorem NRow.rd {w : World} {g n : Nat} (h : NRow w g n) : ∃ I X R, RdN w (some ⟨g, 0, none⟩) n I X R := by
  obtain ⟨I, X, R, h⟩ := h
  refine ⟨I, X, R, .inr ⟨g, 0, rfl, fun i hi => ⟨?_, ?_, ?_⟩⟩⟩
  · have := h.cell (i := i * 3) (by omega); rw [pnCell_0] at this; rwa [Nat.zero_add]
  · have := h.cell (i := i * 3 + 1) (by omega); rw [pnCell_1] at this; rwa [Nat.zero_add]
  · have := h.cell (i := i * 3 + 2) (by omega); rw [pnCell_2] at this; rwa [Nat.zero_add]
theorem NRow.keep {w w' : World} {g n : Nat} (h : NRow w g n) (hb : w'.heap[g]? = w.heap[g]?) : NRow w' g n := by
  obtain ⟨I, X, R, h⟩ := h
  exact ⟨I, X, R, h.of_block hb⟩
theorem NRow.lt {w : World} {g n : Nat} (h : NRow w g n) : g < w.heap.size := by
  obtain ⟨I, X, R, h⟩ := h
  exact h.lt
theorem NdQ.fr {w w' : World} {B g : Nat} {v : Value} (h : NdQ w B v) (hg : w.grownBy w' (some g)) (hB : g < B) : NdQ w' B v := by
  obtain ⟨q, o, n, c, I, X, R, e, h1, h2, h3, h4⟩ := h
  have hb : w'.heap[q]? = w.heap[q]? := hg.block q h2 (fun e => by injection e with e; omega)
  refine ⟨q, o, n, c, I, X, R, e, h1, Nat.lt_of_lt_of_le h2 hg.size, ?_, h4⟩
  rcases h3 with h3 | ⟨x, y, e, h3⟩
  · exact .inl h3
  · injection e with e
    injection e with e1 e2
    subst e1 e2
    refine .inr ⟨_, _, rfl, fun i hi => ?_⟩
    have hq : ∀ z, w'.cell? ⟨q, z, none⟩ = w.cell? ⟨q, z, none⟩ := fun z => by unfold World.cell?; rw [hb]
    rw [hq, hq, hq]
    exact h3 i hi
theorem NdQ.mono {w : World} {B B' : Nat} {v : Value} (h : NdQ w B v) (hb : B' ≤ B) : NdQ w B' v := by
  obtain ⟨q, o, n, c, I, X, R, e, h1, h2⟩ := h
  exact ⟨q, o, n, c, I, X, R, e, Nat.le_trans hb h1, h2⟩
theorem NdA.q {w : World} {B : Nat} {v : Value} {l : List Nd} (h : NdA w B v l) (h0 : 0 < l.length) (h1 : l.length ≤ 2000) : NdQ w B v := by
  obtain ⟨a, c, e, hc, hcm, hr⟩ := h.rd
  obtain ⟨_, rfl⟩ | ⟨g, c', e', hg, hw⟩ := h.row
  · simp at h0
  · rw [e] at e'
    injection e' with ea _ ec
    subst ea ec
    exact ⟨g, 0, _, _, _, _, _, e, hg, hw.lt, hr, h1, hc, hcm⟩
/-- What hands back a path. -/
def PthQ (g : Nat) (b : Option Addr) (n c : Nat) (f : Nat → Int) (w : World) (e : Ending) (w' : World) : Prop :=
  ∃ v, e = .returned (.agg #[v]) ∧ NdQ w' w.heap.size v ∧ (∃ s', DrX w' g b n c f s') ∧ w.grownBy w' (some g)
/-- A path being spoilt. -/
structure SpI (g : Nat) (b : Option Addr) (n c : Nat) (f : Nat → Int) (w W : World) (q N : Nat) : Prop where
  row : NRow W q N
  lo : w.heap.size + 2 ≤ q
  dr : ∃ s', DrX W g b n c f s'
  fr : w.grownBy W (some g)
  box : W.heap[w.heap.size + 1]? = some (.cells #[.slice none 0 0] 29 (0, 0))
section
variable {Z g : Nat} {b : Option Addr} {n c : Nat} {f : Nat → Int} {s : Nat × Int} {w W : World} {q N : Nat}
theorem SpI.set (h : SpI g b n c f w W q N) (hz : DrB Z g b n) (hZ : Z ≤ w.heap.size) {W' : World} (hr : NRow W' q N) (hg : W.grownBy W' (some q)) : SpI g b n c f w W' q N := by
  have hlo := h.lo
  obtain ⟨s', hd⟩ := h.dr
  exact ⟨hr, hlo, ⟨s', hd.grown hz hg (fun x e => by injection e with e; omega)⟩, fr_new h.fr hg (fun x e => by injection e with e; omega), (hg.block _ (blk_lt2 h.box) (fun e => by injection e with e; omega)).trans h.box⟩
theorem SpI.done (h : SpI g b n c f w W q N) (hz : DrB Z g b n) (hZ : Z ≤ w.heap.size) (C : Nat) (h1 : N ≤ 2000) (h2 : N ≤ C) (h3 : C ≤ 9223372036854775807) : PthQ g b n c f w (.returned (.agg #[.slice (some ⟨q, 0, none⟩) N C])) (W.setCell ⟨w.heap.size + 1, 0, none⟩ (.slice (some ⟨q, 0, none⟩) N C)) := by
  have hlo := h.lo
  obtain ⟨s', hd⟩ := h.dr
  have hr : NRow (W.setCell ⟨w.heap.size + 1, 0, none⟩ (.slice (some ⟨q, 0, none⟩) N C)) q N := h.row.keep (Below.heap_setCell _ _ _ _ (by show q ≠ w.heap.size + 1; omega))
  obtain ⟨I, X, R, hrd⟩ := hr.rd
  exact ⟨_, rfl, ⟨q, 0, N, C, I, X, R, rfl, by omega, hr.lt, hrd, h1, h2, h3⟩, ⟨s', hd.grown hz grownN_set (fun x e => by injection e with e; omega)⟩, fr_new h.fr grownN_set (fun x e => by injection e with e; omega)⟩
theorem SpI.boxes (h : SpI g b n c f w W q N) : W.cell? ⟨w.heap.size + 1, 0, none⟩ = some (.slice none 0 0) ∧ (∀ o, W.frozen? ⟨w.heap.size + 1, o, none⟩ = false) ∧ w.heap.size + 1 < W.heap.size := by
  have hb := h.box
  exact ⟨by simp [World.cell?, hb], fun o => by simp [World.frozen?, hb], blk_lt2 hb⟩
end
end Go.Proofs.Ytocmbnocdjnfpaa

namespace Go.Proofs.Ytocmbnocdjnfpaa
open Go.RowKit Go.Deep
set_option linter.unusedVariables false
set_option linter.unusedSimpArgs false
set_option maxRecDepth 100000

theorem nd0 (w : World) (x : Nat) (hx : w.heap.size = x) : NdA (w.alloc (.cells #[] 61)) x (.slice (some ⟨x, 0, none⟩) 0 0) [] := by
  subst hx
  exact ndLits w [] (by decide)
end Go.Proofs.Ytocmbnocdjnfpaa

namespace Go.Proofs.Ytocmbnocdjnfpaa
open Go.RowKit Go.Deep
set_option linter.unusedVariables false
set_option linter.unusedSimpArgs false
set_option maxRecDepth 100000

theorem pathDF_len (f : Nat → Int) (n : Nat) (s : Nat × Int) : 0 < (pathDF f n s).1.length ∧ (pathDF f n s).1.length ≤ 46 := by
  obtain ⟨k0, k1⟩ := nBl_range f n (k := 4) (by omega) s
  unfold pathDF
  refine ⟨treeF_pos _ _ _ _, ?_⟩
  have h := treeF_len f n (1 + nBl f n 4 s).toNat (nS n 4 s)
  have h4 : (1 + nBl f n 4 s).toNat ≤ 4 := by omega
  have h5 : 3 * 2 ^ (1 + nBl f n 4 s).toNat ≤ 3 * 2 ^ 4 := Nat.mul_le_mul_left _ (Nat.pow_le_pow_right (by omega) h4)
  omega
theorem limDF_len (f : Nat → Int) (n : Nat) (s : Nat × Int) : 0 < (limDF f n s).1.length ∧ (limDF f n s).1.length ≤ 101 := by
  obtain ⟨x0, x1⟩ := nBl_range f n (k := 2) (by omega) (nS n 3 s)
  unfold limDF
  show 0 < List.length (if _ then _ else _) ∧ List.length (if _ then _ else _) ≤ _
  split
  · simp; omega
  · split
    · simp; omega
    · simp
section
variable {Z g : Nat} {b : Option Addr} {n c : Nat} {f : Nat → Int} {s : Nat × Int} {w : World}
theorem PthRet.q {r : List Nd × (Nat × Int)} (h0 : 0 < r.1.length) (h1 : r.1.length ≤ 2000) {e : Ending} {w' : World} (h : PthRet g b n c f r w e w') : PthQ g b n c f w e w' := by
  obtain ⟨v, e, hn, hd, hg⟩ := h
  exact ⟨v, e, hn.q h0 h1, ⟨_, hd⟩, hg⟩
/-- The result's cell, put in last. -/
theorem PthQ.put {wk w' : World} {v : Value} {i : Nat} (hz : DrB Z g b n) (hZ : Z ≤ w.heap.size) (hk : w.grownBy wk (some g)) (hi : w.heap.size ≤ i) (hik : i < wk.heap.size) (h : PthQ g b n c f wk (.returned (.agg #[v])) w') : PthQ g b n c f w (.returned (.agg #[v])) (w'.setCell ⟨i, 0, none⟩ v) := by
  obtain ⟨u, e, ⟨q, o, m, cc, I, X, R, e1, h1, h2, h3, h4⟩, ⟨s', hd⟩, hg⟩ := h
  injection e with e
  injection e with e
  have e : u = v := by simpa using e.symm
  subst e
  have hks := hk.size
  have hn : NdQ (w'.setCell ⟨i, 0, none⟩ u) w.heap.size u := by
    have hx : NdQ w' (i + 1) u := ⟨q, o, m, cc, I, X, R, e1, by omega, h2, h3, h4⟩
    exact (hx.fr grownN_set (by omega)).mono (by omega)
  exact ⟨u, rfl, hn, ⟨s', hd.grown hz grownN_set (fun x e => by injection e with e; omega)⟩, fr_new (grownN_trans hk hg) grownN_set (fun x e => by injection e with e; omega)⟩
/-- A path that DrawPrintPath hands out. -/
def DpRet (w : World) (e : Ending) (w' : World) : Prop := ∃ v, e = .returned (.agg #[v]) ∧ NdQ w' w.heap.size v ∧ Below w.heap.size w w'
end
end Go.Proofs.Ytocmbnocdjnfpaa

namespace Go.Proofs.Ytocmbnocdjnfpaa
open Go.RowKit Go.Deep
set_option linter.unusedVariables false
set_option linter.unusedSimpArgs false
set_option maxRecDepth 100000

/-- The text of nodes. -/
def shT (l : List Nd) : List Int := T (nI l) (nX l) (nR l) (l.length - 1)
/-- Blanks dropped by chance. -/
def rpS (f : Nat → Int) (n : Nat) : List Int → Nat × Int → List Int × (Nat × Int)
  | [], s => ([], s)
  | x :: l, s => if x ≠ 32 then (x :: (rpS f n l s).1, (rpS f n l s).2) else if nBl f n 2 s = 0 then (x :: (rpS f n l (nS n 2 s)).1, (rpS f n l (nS n 2 s)).2) else rpS f n l (nS n 2 s)
theorem rpS_len (f : Nat → Int) (n : Nat) : ∀ l s, (rpS f n l s).1.length ≤ l.length
  | [], s => Nat.le_refl _
  | x :: l, s => by
    have h1 := rpS_len f n l s
    have h2 := rpS_len f n l (nS n 2 s)
    unfold rpS
    split
    · simp; omega
    · split
      · simp; omega
      · simp; omega
theorem rpS_sub (f : Nat → Int) (n : Nat) {P : Int → Prop} : ∀ l s, (∀ x, x ∈ l → P x) → ∀ x, x ∈ (rpS f n l s).1 → P x
  | [], s, h, x, hx => by cases hx
  | y :: l, s, h, x, hx => by
    have h1 := rpS_sub f n l s (fun z hz => h z (List.mem_cons_of_mem _ hz)) x
    have h2 := rpS_sub f n l (nS n 2 s) (fun z hz => h z (List.mem_cons_of_mem _ hz)) x
    unfold rpS at hx
    split at hx
    · rcases List.mem_cons.1 hx with e | e
      · rw [e]; exact h y List.mem_cons_self
      · exact h1 e
    · split at hx
      · rcases List.mem_cons.1 hx with e | e
        · rw [e]; exact h y List.mem_cons_self
        · exact h2 e
      · exact h2 hx
/-- The words that are put in. -/
def wdQ : List ByteArray := [{ data := #[40] }, { data := #[41] }, { data := #[38] }, { data := #[124] }, { data := #[45] }, { data := #[46] }, { data := #[44] }, { data := #[34] }, { data := #[97, 108, 108] }, { data := #[118] }, { data := #[111, 117, 116] }, { data := #[97] }, { data := #[92] }, { data := #[0] }, { data := #[46, 111, 117, 116, 40, 34, 112, 34, 41] }, { data := #[118, 40, 34, 34, 41] }, { data := #[103, 114, 97, 112, 104] }, { data := #[32] }, { data := #[34, 92, 120, 52, 34] }, { data := #[65] }, { data := #[46, 104, 97, 115, 40, 34, 112, 34, 41] }, { data := #[46, 46] }, { data := #[118, 40, 34, 97, 34, 41] }]
theorem wdQ_size : ∀ x, x ∈ wdQ → x.size ≤ 31 := by decide
def txN (f : Nat → Int) (n : Nat) (s : Nat × Int) : List Nd × (Nat × Int) :=
  if nBl f n 14 (pathDF f n s).2 = 0 then limDF f n (nS n 14 (pathDF f n s).2) else ((pathDF f n s).1, nS n 14 (pathDF f n s).2)
def txB (f : Nat → Int) (n : Nat) (r : List Int × (Nat × Int)) : List Int × (Nat × Int) := (if nBl f n 4 r.2 = 0 then [[40], r.1, [41]].flatten else r.1, nS n 4 r.2)
def txC (f : Nat → Int) (n : Nat) (r : List Int × (Nat × Int)) : List Int × (Nat × Int) := if nBl f n 4 r.2 = 0 then rpS f n r.1 (nS n 4 r.2) else (r.1, nS n 4 r.2)
def txR (f : Nat → Int) (n : Nat) (s : Nat × Int) (l : List Int) : List Int := if nBl f n 3 s = 0 ∧ 0 < l.length then l.drop 1 else l
def txD (f : Nat → Int) (n : Nat) (r : List Int × (Nat × Int)) : List Int :=
  if 1 < nBl f n 5 r.2 then r.1
  else [r.1.take (nBl f n (r.1.length + 1 : Nat) (nS n 5 r.2)).toNat, bl (pkS f n wdQ (nS n (r.1.length + 1 : Nat) (nS n 5 r.2))), txR f n (nS n 23 (nS n (r.1.length + 1 : Nat) (nS n 5 r.2))) (r.1.drop (nBl f n (r.1.length + 1 : Nat) (nS n 5 r.2)).toNat)].flatten
/-- The text that is drawn. -/
def textDF (f : Nat → Int) (n : Nat) (s : Nat × Int) : List Int := txD f n (txC f n (txB f n (shT (txN f n s).1, (txN f n s).2)))
/-- A text in memory that can be sliced. -/
def TxQ (W : World) (B : Nat) (a : Option Addr) (l : List Int) (c : Nat) : Prop := RdL W a l ∧ (0 < l.length → ∀ p, a = some p → B ≤ p.block) ∧ l.length ≤ c ∧ c ≤ 9223372036854775807
def RetQ (w : World) (l : List Int) (e : Ending) (w' : World) : Prop := ∃ a c, e = .returned (.slice a l.length c) ∧ TxQ w' w.heap.size a l c ∧ Below w.heap.size w w'
theorem TxQ.fr {W W' : World} {B g : Nat} {a : Option Addr} {l : List Int} {c : Nat} (h : TxQ W B a l c) (hg : W.grownBy W' (some g)) (hB : g < B) : TxQ W' B a l c := by
  obtain ⟨h1, h2, h3⟩ := h
  refine ⟨?_, h2, h3⟩
  rcases h1 with h1 | ⟨b, o, e, hc⟩
  · exact .inl h1
  · refine .inr ⟨b, o, e, fun i hi => ?_⟩
    have hb := h2 (by omega) _ e
    rw [← hc i hi]
    exact World.cell?_of_block (a := ⟨b, o + i, none⟩) (hg.block b (World.block_lt_of_cell? _ _ (hc i hi)) (fun q => by injection q with q; simp at hb; omega))
theorem TxQ.below {W W' : World} {B : Nat} {a : Option Addr} {l : List Int} {c : Nat} (h : TxQ W B a l c) (hb : Below W.heap.size W W') : TxQ W' B a l c := ⟨h.1.below hb, h.2⟩
theorem TxQ.mono {W : World} {B B' : Nat} {a : Option Addr} {l : List Int} {c : Nat} (h : TxQ W B a l c) (hb : B' ≤ B) : TxQ W B' a l c := ⟨h.1, fun h0 p hp => Nat.le_trans hb (h.2.1 h0 p hp), h.2.2⟩
def ShowOk : Prop := ∀ (l : List Nd) (v : Value) (B : Nat) (w : World), ShW l → l.length ≤ 200 → NdA w B v l → Calls Try.prog 46 #[v] w (RetQ w (shT l))
def CatOk : Prop := ∀ (b m : Nat) (PL : List (List Int)) (w : World), RdSL w b 0 PL → m = PL.length → m ≤ 1000 → PL.flatten.length ≤ 1048576 → Calls Try.prog 88 #[.slice (some ⟨b, 0, none⟩) m m] w (RetQ w PL.flatten)
end Go.Proofs.Ytocmbnocdjnfpaa

namespace Go.Proofs.Ytocmbnocdjnfpaa
open Go.RowKit Go.Deep
set_option linter.unusedVariables false
set_option linter.unusedSimpArgs false
set_option maxRecDepth 100000

theorem dtFrom (a : Option Addr) (L c k : Nat) (hk : k ≤ L) (hL : L ≤ c) (hc : c ≤ 9223372036854775807) : ∃ a', (∀ w, (Instr.sliceAt 33 (.slice a L c) (some (.int .i64 (k : Int))) none none).run Try.prog w = .ok (.slice a' (L - k) (c - k)) w) ∧ ∀ W l, RdL W a l → l.length = L → RdL W a' (l.drop k) := by
  have hkc : k ≤ c := by omega
  cases a with
  | none =>
    refine ⟨none, fun w => ?_, fun W l h e => ?_⟩
    · simp [Instr.sliceAt, Instr.slice, go_sem, hk, hL, hkc]
    · rcases h with h | ⟨b, o, e', _⟩
      · exact .inl (by rw [List.length_drop]; omega)
      · cases e'
  | some x =>
    by_cases e : c = k
    · refine ⟨some x, fun w => ?_, fun W l h e' => .inl (by rw [List.length_drop]; omega)⟩
      subst e
      obtain rfl : L = c := by omega
      simp [Instr.sliceAt, Instr.slice, go_sem]
    · refine ⟨some (x.add k), fun w => ?_, fun W l h e' => ?_⟩
      · simp [Instr.sliceAt, Instr.slice, go_sem, hk, hL, hkc, e]
      · rcases h with h | ⟨b, o, e1, hcl⟩
        · exact .inl (by rw [List.length_drop]; omega)
        · injection e1 with e1
          subst e1
          refine .inr ⟨b, o + k, ?_, fun i hi => ?_⟩
          · rw [addN3]
          · rw [List.length_drop] at hi
            have := hcl (k + i) (by omega)
            rw [show o + k + i = o + (k + i) by omega, this]
            unfold lf
            rw [List.getD_eq_getElem?_getD, List.getD_eq_getElem?_getD, List.getElem?_drop]
theorem dtTo (a : Option Addr) (L c k : Nat) (hk : k ≤ L) (hL : L ≤ c) (hc : c ≤ 9223372036854775807) : (∀ w, (Instr.sliceAt 33 (.slice a L c) none (some (.int .i64 (k : Int))) none).run Try.prog w = .ok (.slice a k c) w) ∧ ∀ W l, RdL W a l → l.length = L → RdL W a (l.take k) := by
  have hkc : k ≤ c := by omega
  refine ⟨fun w => ?_, fun W l h e => ?_⟩
  · cases a with
    | none => simp [Instr.sliceAt, Instr.slice, go_sem, hk, hL, hkc]
    | some x =>
      by_cases e : c = 0
      · subst e
        obtain rfl : k = 0 := by omega
        obtain rfl : L = 0 := by omega
        simp [Instr.sliceAt, Instr.slice, go_sem]
      · simp [Instr.sliceAt, Instr.slice, go_sem, hk, hL, hkc, e]
  · rcases h with h | ⟨b, o, e1, hcl⟩
    · exact .inl (by rw [List.length_take]; omega)
    · refine .inr ⟨b, o, e1, fun i hi => ?_⟩
      rw [List.length_take] at hi
      rw [hcl i (by omega)]
      unfold lf
      rw [List.getD_eq_getElem?_getD, List.getD_eq_getElem?_getD, List.getElem?_take, if_pos (by omega)]
theorem dtConv (w : World) (C : Array Value) (n c g : Nat) (hg : g = w.heap.size) : (convert 33 33 (.slice (some ⟨g, 0, none⟩) n c)).run Try.prog (w.alloc (.cells C 5)) = .ok (.slice (some ⟨g, 0, none⟩) n c) (w.alloc (.cells C 5 (C.size, C.size + 1))) := by
  subst hg
  exact conv_bb w C n c
theorem dtLit (w : World) (l : List Int) (C : Array Value) (hC : C = (bv l).toArray) (fr : Nat × Nat) (g : Nat) (hg : g = w.heap.size) : RdL (w.alloc (.cells C 5 fr)) (some ⟨g, 0, none⟩) l := by
  subst hg
  obtain ⟨a, c, e, h, _⟩ := (TxA.lit w l C hC l.length rfl fr).rd
  injection e with e
  rw [e]
  exact h
theorem TxA.fr {w w' : World} {B n g : Nat} {v : Value} {l : List Int} (h : TxA w B v n l) (hg : w.grownBy w' (some g)) (hB : g < B) : TxA w' B v n l := by
  obtain ⟨h0, h | ⟨k, e, h1, h2, h3⟩⟩ := h
  · exact ⟨h0, .inl (plS_keep h (fun x e => hg.block x (h.lt x e).2 (fun q => by injection q with q; have := (h.lt x e).1; omega)))⟩
  · refine ⟨h0, .inr ⟨k, e, h1, Nat.lt_of_lt_of_le h2 hg.size, fun j u hj => ?_⟩⟩
    rw [← h3 j u hj]
    refine World.cell?_of_block ?_
    have eb : (Addr.add ⟨k, 0, none⟩ j).block = k := by unfold Addr.add; split <;> rfl
    rw [eb]
    exact hg.block k h2 (fun q => by injection q with q; omega)
theorem fr_belowB {w w1 w2 : World} {g : Nat} (h : w.grownBy w1 (some g)) (k : Below w.heap.size w1 w2) : w.grownBy w2 (some g) :=
  ⟨k.os.trans h.os, k.tape.trans h.tape, k.output.trans h.output, Nat.le_trans h.size k.size, fun b hb hne => (k.block b hb).trans (h.block b hb hne)⟩
theorem DrX.belowB {w w' : World} {g Z B : Nat} {b : Option Addr} {n c : Nat} {f : Nat → Int} {s : Nat × Int} (h : DrX w g b n c f s) (hz : DrB Z g b n) (hB : Z ≤ B) (hb : Below B w w') : DrX w' g b n c f s := by
  refine ⟨h.cur.of_block (hb.block g (by have := hz.1; omega)), h.le, ?_, h.ne, h.len, h.range⟩
  by_cases h0 : n = 0
  · exact Or.inl h0
  rcases h.rd with q | ⟨bb, o, rfl, hc⟩
  · exact Or.inl q
  · have hlz : bb < Z := hz.2 h0 _ rfl
    exact Or.inr ⟨bb, o, rfl, fun i hi => (World.cell?_of_block (a := ⟨bb, o + i, none⟩) (hb.block bb (by omega))).trans (hc i hi)⟩
theorem shT_len {l : List Nd} (h : ShW l) : (shT l).length ≤ 300 * l.length := by
  obtain ⟨h0, hb⟩ := trW_begins h.1 h.2
  have hg : GdN l.length (nI l) (nX l) (nR l) := fun i hi => gdW_cells h.2 i hi
  have e : l.length = (l.length - 1) + 1 := by omega
  have := T_len hg l.length 0 (l.length - 1) (by omega) (by omega) (by
    rw [← e]
    simpa using hb)
  rw [Nat.zero_add, ← e] at this
  exact this
theorem txN_sh (f : Nat → Int) (n : Nat) (s : Nat × Int) : ShW (txN f n s).1 ∧ (txN f n s).1.length ≤ 101 := by
  unfold txN
  split
  · exact ⟨limDF_sh _ _ _, (limDF_len _ _ _).2⟩
  · exact ⟨pathDF_sh _ _ _, by have := (pathDF_len f n s).2; show (pathDF f n s).1.length ≤ 101; omega⟩
/-- A text that is drawn, the cursor with it. -/
def DtS (g : Nat) (b : Option Addr) (n c : Nat) (f : Nat → Int) (w : World) (r : List Int × (Nat × Int)) (v : Value) (W : World) : Prop :=
  ∃ a L cc, v = .slice a L cc ∧ L = r.1.length ∧ TxQ W w.heap.size a r.1 cc ∧ DrX W g b n c f r.2 ∧ w.grownBy W (some g)
/-- What l6DrawText hands out. -/
def DtRet (g : Nat) (l : List Int) (w : World) (e : Ending) (w' : World) : Prop := ∃ a L cc, e = .returned (.slice a L cc) ∧ L = l.length ∧ TxQ w' w.heap.size a l cc ∧ w.grownBy w' (some g)
/-- The loop that drops blanks: what is there, what is to come. -/
def RpS (f : Nat → Int) (n : Nat) (l : List Int) (s0 : Nat × Int) (j : Nat) (o : List Int) (s : Nat × Int) : Prop := rpS f n l s0 = (o ++ (rpS f n (l.drop j) s).1, (rpS f n (l.drop j) s).2) ∧ o.length ≤ j
theorem drop_cons {l : List Int} {j : Nat} (h : j < l.length) : l.drop j = lf l j :: l.drop (j + 1) := by
  rw [List.drop_eq_getElem_cons h]
  unfold lf
  rw [List.getD_eq_getElem?_getD, List.getElem?_eq_getElem h]
  rfl
theorem RpS.next {f : Nat → Int} {n : Nat} {l : List Int} {s0 : Nat × Int} {j : Nat} {o : List Int} {s : Nat × Int} (h : RpS f n l s0 j o s) (hj : j < l.length) :
    (lf l j ≠ 32 → RpS f n l s0 (j + 1) (o ++ [lf l j]) s) ∧ (lf l j = 32 → (nBl f n 2 s = 0 → RpS f n l s0 (j + 1) (o ++ [lf l j]) (nS n 2 s)) ∧ (nBl f n 2 s ≠ 0 → RpS f n l s0 (j + 1) o (nS n 2 s))) := by
  obtain ⟨h1, h2⟩ := h
  rw [drop_cons hj] at h1
  refine ⟨fun e => ⟨?_, by simp; omega⟩, fun e => ⟨fun e2 => ⟨?_, by simp; omega⟩, fun e2 => ⟨?_, by omega⟩⟩⟩
  · rw [h1]
    conv => lhs; unfold rpS
    rw [if_pos e]
    simp
  · rw [h1]
    conv => lhs; unfold rpS
    rw [if_neg (by omega), if_pos e2]
    simp
  · rw [h1]
    conv => lhs; unfold rpS
    rw [if_neg (by omega), if_neg e2]
end Go.Proofs.Ytocmbnocdjnfpaa

namespace Go.Proofs.Ytocmbnocdjnfpaa
open Go.RowKit Go.Deep
set_option linter.unusedVariables false
set_option linter.unusedSimpArgs false
set_option maxRecDepth 100000

section
variable {Z g : Nat} {b : Option Addr} {n c : Nat} {f : Nat → Int} {s : Nat × Int} {w : World}
set_option maxHeartbeats 8000000 in
theorem drawText_x (HS : ShowOk) (HC : CatOk) (hz : DrB Z g b n) (hZ : Z ≤ w.heap.size) (h : DrX w g b n c f s) : Calls Try.prog 73 #[.pointer (some ⟨g, 0, none⟩)] w (DtRet g (textDF f n s) w) := by
  have H : Hid (DrX w g b n c f s) := h
  have HZ : Hid (DrB Z g b n ∧ ShowOk ∧ CatOk) := ⟨hz, HS, HC⟩
  have hzg := hz.1
  clear h hz HS HC
  go_enter Try.func73, Try.ntmps73
  go_wp2_with fail
  refine (l6Path_x HZ.out.1 hZ H.out).mono ?_
  rintro e w1 ⟨v, rfl, hn1, hd1, hg1⟩
  have hz1 := hg1.size
  obtain ⟨av, cv, rfl, hlc, hcm, -⟩ := hn1.rd
  obtain ⟨NN, hNN⟩ : ∃ NN, NN = (pathDF f n s).1.length := ⟨_, rfl⟩
  have H1 : Hid (NN = (pathDF f n s).1.length ∧ NdA w1 w.heap.size (.slice av NN cv) (pathDF f n s).1 ∧ DrX w1 g b n c f (pathDF f n s).2 ∧ w.grownBy w1 (some g)) := ⟨hNN, by rw [hNN]; exact hn1, hd1, hg1⟩
  have HT : Hid (txN f n s = if nBl f n 14 (pathDF f n s).2 = 0 then limDF f n (nS n 14 (pathDF f n s).2) else ((pathDF f n s).1, nS n 14 (pathDF f n s).2)) := rfl
  rw [← hNN] at hlc ⊢
  clear hn1 hd1 hg1 hNN H
  generalize (pathDF f n s).1 = l1 at *
  generalize (pathDF f n s).2 = s1 at *
  go_wp2_with fail
  refine (l1Once_x (H1.out.2.2.1.below (below_alloc _ _)) 14 (by omega) (by omega)).mono ?_
  rintro e w2 ⟨rfl, hd2, hg2⟩
  have hz2 : w1.heap.size + 1 ≤ w2.heap.size := by have := hg2.size; simpa using this
  have bg : w1.heap.size ≠ g := by omega
  have hk2 : w2.heap[w1.heap.size]? = some (.cells #[.slice av NN cv] 29 (0, 0)) := (hg2.block w1.heap.size (by simp) (fun e => bg (by injection e with e))).trans Array.getElem?_push_size
  have p0 : w2.cell? ⟨w1.heap.size, 0, none⟩ = some (.slice av NN cv) := by simp [World.cell?, hk2]
  have pf : ∀ o, w2.frozen? ⟨w1.heap.size, o, none⟩ = false := fun o => by simp [World.frozen?, hk2]
  have H2 : Hid (NN = l1.length ∧ NdA w2 w.heap.size (.slice av NN cv) l1 ∧ DrX w2 g b n c f (nS n 14 s1) ∧ w.grownBy w2 (some g)) := ⟨H1.out.1, (H1.out.2.1.below (below_alloc _ _)).fr hg2 (by omega), hd2, grownN_trans (fr_below H1.out.2.2.2 (below_alloc _ _)) hg2⟩
  clear hd2 hg2 hk2 H1
  generalize w1.heap.size = bx at *
  generalize hs2 : nS n 14 s1 = s2 at *
  have HS2 : Hid (nS n 14 s1 = s2) := hs2
  clear hs2
  go_upto_if 13 with fail
  go_cut [3] from 10 to 85 (fun s3 wx => s3 = .pointer (some ⟨bx, 0, none⟩) ∧ Hid (∃ av NN cv, wx.cell? ⟨bx, 0, none⟩ = some (.slice av NN cv) ∧ NN = (txN f n s).1.length ∧ NdA wx w.heap.size (.slice av NN cv) (txN f n s).1 ∧ DrX wx g b n c f (txN f n s).2 ∧ w.grownBy wx (some g)))
  case first =>
    by_cases h0 : nBl f n 14 s1 = 0
    · have e0 : (nBl f n 14 s1 == 0) = true := by simp [h0]
      have HE : Hid (txN f n s = limDF f n s2) := by show _ = _; rw [HT.out, if_pos h0]
      clear h0
      go_wp2_with fail
      refine (l6Limit_x HZ.out.1 (by omega) H2.out.2.2.1).mono ?_
      rintro e w3 ⟨v, rfl, hn3, hd3, hg3⟩
      have hz3 := hg3.size
      obtain ⟨a3, c3, rfl, -, -, -⟩ := hn3.rd
      have hf3 : ∀ o, w3.frozen? ⟨bx, o, none⟩ = false := fun o => by
        rw [World.frozen?_of_block (a := ⟨bx, o, none⟩) (hg3.block bx (by omega) (fun e => bg (by injection e with e)))]
        exact pf o
      have hp3 : w3.cell? ⟨bx, 0, none⟩ = some (.slice av NN cv) := (World.cell?_of_block (a := ⟨bx, 0, none⟩) (hg3.block bx (by omega) (fun e => bg (by injection e with e)))).trans p0
      have HX : Hid (∃ av NN cv, (w3.setCell ⟨bx, 0, none⟩ (.slice a3 (limDF f n s2).1.length c3)).cell? ⟨bx, 0, none⟩ = some (.slice av NN cv) ∧ NN = (txN f n s).1.length ∧ NdA (w3.setCell ⟨bx, 0, none⟩ (.slice a3 (limDF f n s2).1.length c3)) w.heap.size (.slice av NN cv) (txN f n s).1 ∧ DrX (w3.setCell ⟨bx, 0, none⟩ (.slice a3 (limDF f n s2).1.length c3)) g b n c f (txN f n s).2 ∧ w.grownBy (w3.setCell ⟨bx, 0, none⟩ (.slice a3 (limDF f n s2).1.length c3)) (some g)) := by
        rw [HE.out]
        refine ⟨a3, _, c3, ?_, rfl, (hn3.setL3 (by show bx < _; omega) _).mono' (by omega), hd3.grown HZ.out.1 grownN_set (fun x e => by injection e with e; omega), fr_new (grownN_trans H2.out.2.2.2 hg3) grownN_set (fun x e => by injection e with e; omega)⟩
        exact World.cell?_setCell_same _ _ _ hp3
      clear hn3 hd3 hg3 HE
      generalize (limDF f n s2).1.length = L3 at *
      go_wp2
      go_meet
      exact ⟨rfl, HX⟩
    · have e0 : (nBl f n 14 s1 == 0) = false := by simp [h0]
      have HE : Hid (txN f n s = (l1, s2)) := by show _ = _; rw [HT.out, if_neg h0]
      have HX : Hid (∃ av NN cv, w2.cell? ⟨bx, 0, none⟩ = some (.slice av NN cv) ∧ NN = (txN f n s).1.length ∧ NdA w2 w.heap.size (.slice av NN cv) (txN f n s).1 ∧ DrX w2 g b n c f (txN f n s).2 ∧ w.grownBy w2 (some g)) := by
        rw [HE.out]
        exact ⟨av, NN, cv, p0, H2.out⟩
      clear h0 HE
      go_wp2
      go_meet
      exact ⟨rfl, HX⟩
  case rest =>
    obtain ⟨rfl, hX⟩ := hcut
    clear p0 pf H2 HT HS2 hlc hcm
    obtain ⟨av, NN, cv, p0, hNN, hn3, hd3, hg3⟩ := hX.out
    clear hX
    obtain ⟨hsh, hl101⟩ := txN_sh f n s
    have hlen := shT_len hsh
    have H3 : Hid (NdA wc w.heap.size (.slice av NN cv) (txN f n s).1 ∧ DrX wc g b n c f (txN f n s).2 ∧ w.grownBy wc (some g) ∧ ShW (txN f n s).1) := ⟨hn3, hd3, hg3, hsh⟩
    have hz3 := hg3.size
    have hl30 : (shT (txN f n s).1).length ≤ 30300 := by omega
    have HL1 : Hid ((txN f n s).1.length ≤ 200) := by show _ ≤ _; omega
    clear hn3 hd3 hg3 hsh hlen hl101 hNN
    go_wp2_with fail
    refine (HZ.out.2.1 _ _ _ _ H3.out.2.2.2 HL1.out H3.out.1).mono ?_
    rintro e w4 ⟨a4, c4, rfl, ht4, hb4⟩
    have H4 : Hid (DtS g b n c f w (shT (txN f n s).1, (txN f n s).2) (.slice a4 (shT (txN f n s).1).length c4) w4) := ⟨a4, _, c4, rfl, rfl, ht4.mono hz3, H3.out.2.1.below hb4, fr_below H3.out.2.2.1 hb4⟩
    have HR : Hid (textDF f n s = txD f n (txC f n (txB f n (shT (txN f n s).1, (txN f n s).2)))) := rfl
    clear ht4 hb4 H3 HL1 p0
    generalize shT (txN f n s).1 = l4 at *
    generalize (txN f n s).2 = s4 at *
    generalize textDF f n s = RES at *
    obtain ⟨L4, hL4⟩ : ∃ L4, L4 = l4.length := ⟨_, rfl⟩
    rw [← hL4] at H4 hl30 ⊢
    have HL4 : Hid (L4 = l4.length) := hL4
    clear hL4
    have hz4 : w.heap.size ≤ w4.heap.size := by obtain ⟨_, _, _, _, _, _, _, q⟩ := H4.out; exact q.size
    have hd4 : Hid (DrX w4 g b n c f s4) := by obtain ⟨_, _, _, _, _, _, q, _⟩ := H4.out; exact q
    go_wp2_with fail
    refine (l1Once_x hd4.out 4 (by omega) (by omega)).mono ?_
    rintro e w5 ⟨rfl, hd5, hg5⟩
    have hz5 := hg5.size
    have H5 : Hid (TxQ w5 w.heap.size a4 l4 c4 ∧ DrX w5 g b n c f (nS n 4 s4) ∧ w.grownBy w5 (some g)) := by
      obtain ⟨_, _, _, q1, q2, q3, q4, q5⟩ := H4.out
      injection q1 with q1 q1' q1''
      subst q1 q1''
      exact ⟨q3.fr hg5 (by omega), hd5, grownN_trans q5 hg5⟩
    clear H4 hd4 hd5 hg5
    have HB : Hid (txB f n (l4, s4) = (if nBl f n 4 s4 = 0 then [[40], l4, [41]].flatten else l4, nS n 4 s4)) := rfl
    have HBl : Hid ((txB f n (l4, s4)).1.length ≤ 30302) := by
      show _ ≤ _
      rw [HB.out]
      show (if _ then _ else _ : List Int).length ≤ _
      have := HL4.out
      split
      · simp; omega
      · omega
    go_upto_if 20 with fail
    go_cut [4] from 10 to 85 (fun s4' wx => DtS g b n c f w (txB f n (l4, s4)) s4' wx)
    case first =>
      by_cases h0 : nBl f n 4 s4 = 0
      · have e0 : (nBl f n 4 s4 == 0) = true := by simp [h0]
        have HE : Hid (txB f n (l4, s4) = ([[40], l4, [41]].flatten, nS n 4 s4)) := by show _ = _; rw [HB.out, if_pos h0]
        clear h0
        have cv := dtConv
        have HCt : Hid (Calls Try.prog 88 #[.slice (some ⟨w5.heap.size + 1 + 1, 0, none⟩) 3 3] (((w5.alloc (.cells #[.int .u8 40] 5 (1, 2))).alloc (.cells #[.int .u8 41] 5 (1, 2))).alloc (.cells #[.slice (some ⟨w5.heap.size, 0, none⟩) 1 1, .slice a4 L4 c4, .slice (some ⟨w5.heap.size + 1, 0, none⟩) 1 1] 33)) (RetQ (((w5.alloc (.cells #[.int .u8 40] 5 (1, 2))).alloc (.cells #[.int .u8 41] 5 (1, 2))).alloc (.cells #[.slice (some ⟨w5.heap.size, 0, none⟩) 1 1, .slice a4 L4 c4, .slice (some ⟨w5.heap.size + 1, 0, none⟩) 1 1] 33)) [[40], l4, [41]].flatten)) := by
          have b1 : Below w5.heap.size w5 (w5.alloc (.cells #[.int .u8 40] 5 (1, 2))) := below_alloc _ _
          have b2 : Below (w5.alloc (.cells #[.int .u8 40] 5 (1, 2))).heap.size (w5.alloc (.cells #[.int .u8 40] 5 (1, 2))) ((w5.alloc (.cells #[.int .u8 40] 5 (1, 2))).alloc (.cells #[.int .u8 41] 5 (1, 2))) := below_alloc _ _
          have hsl := rdSL_new ((w5.alloc (.cells #[.int .u8 40] 5 (1, 2))).alloc (.cells #[.int .u8 41] 5 (1, 2))) [[40], l4, [41]] [.slice (some ⟨w5.heap.size, 0, none⟩) 1 1, .slice a4 L4 c4, .slice (some ⟨w5.heap.size + 1, 0, none⟩) 1 1] (fun i p hi => by
            match i, hi with
            | 0, hi =>
              injection hi with hi
              subst hi
              exact ⟨_, _, rfl, (dtLit w5 [40] _ rfl (1, 2) _ rfl).below b2⟩
            | 1, hi =>
              injection hi with hi
              subst hi
              exact ⟨_, c4, by rw [← HL4.out]; rfl, (H5.out.1.1.below b1).below b2⟩
            | 2, hi =>
              injection hi with hi
              subst hi
              exact ⟨_, _, rfl, dtLit _ [41] _ rfl (1, 2) _ (by simp)⟩
            | n + 3, hi => cases hi)
          have hbk : ((w5.alloc (.cells #[.int .u8 40] 5 (1, 2))).alloc (.cells #[.int .u8 41] 5 (1, 2))).heap.size = w5.heap.size + 1 + 1 := by simp
          rw [hbk] at hsl
          exact HZ.out.2.2 _ 3 [[40], l4, [41]] _ hsl rfl (by omega) (by have q := HBl.out; rw [HE.out] at q; exact Nat.le_trans q (by omega))
        go_wp2_with fail
        refine HCt.out.mono ?_
        rintro e w6 ⟨a6, c6, rfl, ht6, hb6⟩
        have hb56 : Below w5.heap.size w5 w6 := by
          have q := (((Below.refl w5.heap.size w5).alloc (Nat.le_refl _) (.cells #[.int .u8 40] 5 (1, 2))).alloc (by simp) (.cells #[.int .u8 41] 5 (1, 2))).alloc (by simp; omega) (.cells #[.slice (some ⟨w5.heap.size, 0, none⟩) 1 1, .slice a4 L4 c4, .slice (some ⟨w5.heap.size + 1, 0, none⟩) 1 1] 33)
          exact q.trans (hb6.mono q.size)
        have HX : DtS g b n c f w (txB f n (l4, s4)) (.slice a6 [[40], l4, [41]].flatten.length c6) w6 := by
          rw [HE.out]
          exact ⟨a6, _, c6, rfl, rfl, ht6.mono (by simp; omega), H5.out.2.1.below hb56, fr_below H5.out.2.2 hb56⟩
        have HXX : Hid (DtS g b n c f w (txB f n (l4, s4)) (.slice a6 [[40], l4, [41]].flatten.length c6) w6) := HX
        clear HX ht6 hb6 hb56 HCt HE
        generalize [[40], l4, [41]].flatten.length = L6 at *
        go_wp2
        go_meet
        exact HXX.out
      · have e0 : (nBl f n 4 s4 == 0) = false := by simp [h0]
        have HXX : Hid (DtS g b n c f w (txB f n (l4, s4)) (.slice a4 L4 c4) w5) := by
          show DtS _ _ _ _ _ _ _ _ _
          rw [HB.out, if_neg h0]
          exact ⟨a4, L4, c4, rfl, HL4.out, H5.out⟩
        clear h0
        go_wp2
        go_meet
        exact HXX.out
    case rest =>
      clear H5 HB HL4 hl30 hz4 hz5
      obtain ⟨a4, L4, c4, rfl, hL4, ht4, hd4, hg4⟩ := hcut
      have hz4 := hg4.size
      generalize txB f n (l4, s4) = r4 at *
      obtain ⟨l4, s4⟩ := r4
      simp only at hL4 ht4 hd4 HBl
      have hl30 : L4 ≤ 30302 := by have := HBl.out; omega
      have hc4 : L4 ≤ c4 ∧ c4 ≤ 9223372036854775807 := by have := ht4.2.2; omega
      have HL4 : Hid (L4 = l4.length) := hL4
      have H4 : Hid (TxQ wc w.heap.size a4 l4 c4 ∧ DrX wc g b n c f s4 ∧ w.grownBy wc (some g)) := ⟨ht4, hd4, hg4⟩
      clear hL4 ht4 hd4 hg4 HBl
      go_wp2_with fail
      refine (l1Once_x H4.out.2.1 4 (by omega) (by omega)).mono ?_
      rintro e w5 ⟨rfl, hd5, hg5⟩
      have hz5 := hg5.size
      have H5 : Hid (TxQ w5 w.heap.size a4 l4 c4 ∧ DrX w5 g b n c f (nS n 4 s4) ∧ w.grownBy w5 (some g)) := ⟨H4.out.1.fr hg5 (by omega), hd5, grownN_trans H4.out.2.2 hg5⟩
      clear H4 hd5 hg5
      have HB : Hid (txC f n (l4, s4) = if nBl f n 4 s4 = 0 then rpS f n l4 (nS n 4 s4) else (l4, nS n 4 s4)) := rfl
      have HBl : Hid ((txC f n (l4, s4)).1.length ≤ 30302) := by
        show _ ≤ _
        rw [HB.out]
        have := HL4.out
        split
        · have := rpS_len f n l4 (nS n 4 s4); omega
        · show l4.length ≤ _; omega
      go_upto_if 29 with fail
      go_cut [4] from 10 to 85 (fun s4' wx => DtS g b n c f w (txC f n (l4, s4)) s4' wx)
      case first =>
        by_cases h0 : nBl f n 4 s4 = 0
        · have e0 : (nBl f n 4 s4 == 0) = true := by simp [h0]
          have HE : Hid (txC f n (l4, s4) = rpS f n l4 (nS n 4 s4)) := by show _ = _; rw [HB.out, if_pos h0]
          clear h0 HB
          rw [e0]
          clear e0
          generalize hs5 : nS n 4 s4 = s5 at *
          clear hs5
          go_wp2
          go_loopw [5, 6] (fun u i wr => ∃ j : Nat, i = .int .i64 (j : Int) ∧ j ≤ L4 ∧ ∃ o s', RpS f n l4 s5 j o s' ∧ TxA wr w5.heap.size u o.length o ∧ DrX wr g b n c f s' ∧ w5.grownBy wr (some g)) (fun _ i _ => L4 - (intOf i).toNat)
          case atStart => exact ⟨0, rfl, Nat.zero_le _, [], s5, ⟨by simp, Nat.le_refl _⟩, ⟨rfl, .inl (World.ownsRow_lit w5 #[] 0 (Nat.le_refl _) (Nat.zero_le _) rfl)⟩, H5.out.2.1.below (below_alloc _ _), grownN_below (below_alloc _ _) _⟩
          case round =>
            obtain ⟨j, rfl, hj, o, s', hrp, hta, hdr, hgr⟩ := hrel
            have hzr := hgr.size
            obtain ⟨lo, hlo⟩ : ∃ lo, lo = o.length := ⟨_, rfl⟩
            rw [← hlo] at hta
            have hol : lo ≤ 30302 := by have := hrp.2; omega
            have HO : Hid (RpS f n l4 s5 j o s' ∧ TxA wr w5.heap.size u5 lo o ∧ DrX wr g b n c f s' ∧ w5.grownBy wr (some g) ∧ lo = o.length) := ⟨hrp, hta, hdr, hgr, hlo⟩
            clear hrp hta hdr hgr hlo
            by_cases hlt : j < L4
            · have ij : (j : Int) < (L4 : Int) := by omega
              have hj0 : (0 : Int) ≤ (j : Int) := by omega
              obtain ⟨y, hy⟩ : ∃ y, y = lf l4 j := ⟨_, rfl⟩
              obtain ⟨q, qo, hq, hcell⟩ : ∃ q qo, a4 = some ⟨q, qo, none⟩ ∧ wr.cell? ⟨q, qo + j, none⟩ = some (.int .u8 y) := by
                have h1 := (H5.out.1.fr HO.out.2.2.2.1 (by omega)).1
                rcases h1 with h1 | ⟨q, qo, e, hc⟩
                · have := HL4.out; omega
                · exact ⟨q, qo, e, by rw [hy]; exact hc j (by have := HL4.out; omega)⟩
              subst hq
              have HN := HO.out.1.next (by have := HL4.out; omega : j < l4.length)
              rw [← hy] at HN
              have HNN : Hid ((y ≠ 32 → RpS f n l4 s5 (j + 1) (o ++ [y]) s') ∧ (y = 32 → (nBl f n 2 s' = 0 → RpS f n l4 s5 (j + 1) (o ++ [y]) (nS n 2 s')) ∧ (nBl f n 2 s' ≠ 0 → RpS f n l4 s5 (j + 1) o (nS n 2 s')))) := HN
              clear hy HN
              by_cases hy : y = 32
              · have hne : (y != 32) = false := by simp [hy]
                have hneq : (y == 32) = true := by simp [hy]
                have HN2 : Hid ((nBl f n 2 s' = 0 → RpS f n l4 s5 (j + 1) (o ++ [y]) (nS n 2 s')) ∧ (nBl f n 2 s' ≠ 0 → RpS f n l4 s5 (j + 1) o (nS n 2 s'))) := HNN.out.2 hy
                clear hy HNN
                go_wp2_with fail
                refine (l1Once_x HO.out.2.2.1 2 (by omega) (by omega)).mono ?_
                rintro e w7 ⟨rfl, hd7, hg7⟩
                have hz7 := hg7.size
                have hcell7 : w7.cell? ⟨q, qo + j, none⟩ = some (.int .u8 y) := by
                  have h1 := (H5.out.1.fr (grownN_trans HO.out.2.2.2.1 hg7) (by omega)).1
                  rw [← hcell]
                  refine World.cell?_of_block (a := ⟨q, qo + j, none⟩) (hg7.block q (World.block_lt_of_cell? _ _ hcell) (fun e => ?_))
                  injection e with e
                  have := H5.out.1.2.1 (by have := HL4.out; omega) _ rfl
                  simp at this
                  omega
                have HO7 : Hid (TxA w7 w5.heap.size u5 lo o ∧ DrX w7 g b n c f (nS n 2 s') ∧ w5.grownBy w7 (some g) ∧ lo = o.length) := ⟨HO.out.2.1.fr hg7 (by omega), hd7, grownN_trans HO.out.2.2.2.1 hg7, HO.out.2.2.2.2⟩
                clear hd7 hg7 HO hcell
                by_cases h2 : nBl f n 2 s' = 0
                · have e2 : (nBl f n 2 s' == 0) = true := by simp [h2]
                  have HR2 : Hid (RpS f n l4 s5 (j + 1) (o ++ [y]) (nS n 2 s')) := HN2.out.1 h2
                  clear h2 HN2
                  go_wp2_with (at_builtin; refine app_b rfl _ _ rfl w5.heap.size _ lo o rfl (HO7.out.1.below (below_alloc _ _)) ⟨w7.heap.size, 0, none⟩ 1 1 [y] rfl rfl (by omega) (new_cells _ [.int .u8 y] _) (by omega) (by simp; omega) ?_)
                  intro v' wq hown' hgrow
                  have HX : Hid (TxA wq w5.heap.size v' (lo + 1) (o ++ [y]) ∧ DrX wq g b n c f (nS n 2 s') ∧ w5.grownBy wq (some g)) := ⟨hown', (HO7.out.2.1.below (below_alloc _ _)).belowB HZ.out.1 (by omega) hgrow, fr_belowB (fr_below HO7.out.2.2.1 (below_alloc _ _)) hgrow⟩
                  clear hown' hgrow
                  go_wp2
                  go_roundw
                  case rel => exact ⟨j + 1, by go_num, by omega, o ++ [y], nS n 2 s', HR2.out, by rw [show (o ++ [y]).length = lo + 1 by rw [HO7.out.2.2.2]; simp]; exact HX.out.1, HX.out.2⟩
                  case measure => simp [intOf]; omega
                · have e2 : (nBl f n 2 s' == 0) = false := by simp [h2]
                  have HR2 : Hid (RpS f n l4 s5 (j + 1) o (nS n 2 s')) := HN2.out.2 h2
                  clear h2 HN2
                  go_wp2
                  go_roundw
                  case rel => exact ⟨j + 1, by go_num, by omega, o, nS n 2 s', HR2.out, by rw [← HO7.out.2.2.2]; exact HO7.out.1, HO7.out.2.1, HO7.out.2.2.1⟩
                  case measure => simp [intOf]; omega
              · have hne : (y != 32) = true := by simp [hy]
                have hneq : (y == 32) = false := by simp [hy]
                have HR2 : Hid (RpS f n l4 s5 (j + 1) (o ++ [y]) s') := HNN.out.1 hy
                clear hy HNN
                go_wp2_with (at_builtin; refine app_b rfl _ _ rfl w5.heap.size _ lo o rfl (HO.out.2.1.below (below_alloc _ _)) ⟨wr.heap.size, 0, none⟩ 1 1 [y] rfl rfl (by omega) (new_cells _ [.int .u8 y] _) (by omega) (by simp; omega) ?_)
                intro v' wq hown' hgrow
                have HX : Hid (TxA wq w5.heap.size v' (lo + 1) (o ++ [y]) ∧ DrX wq g b n c f s' ∧ w5.grownBy wq (some g)) := ⟨hown', (HO.out.2.2.1.below (below_alloc _ _)).belowB HZ.out.1 (by omega) hgrow, fr_belowB (fr_below HO.out.2.2.2.1 (below_alloc _ _)) hgrow⟩
                clear hown' hgrow
                go_wp2
                go_roundw
                case rel => exact ⟨j + 1, by go_num, by omega, o ++ [y], s', HR2.out, by rw [show (o ++ [y]).length = lo + 1 by rw [HO.out.2.2.2.2]; simp]; exact HX.out.1, HX.out.2⟩
                case measure => simp [intOf]; omega
            · have ij : ¬ (j : Int) < (L4 : Int) := by omega
              obtain rfl : j = L4 := by omega
              have HXX : Hid (DtS g b n c f w (txC f n (l4, s4)) u5 wr) := by
                show DtS _ _ _ _ _ _ _ _ _
                have h1 := HO.out.1.1
                rw [List.drop_eq_nil_of_le (by have := HL4.out; omega)] at h1
                rw [HE.out, h1]
                obtain ⟨a7, c7, rfl, q1, q2, q3, q4⟩ := HO.out.2.1.rdc (by omega)
                refine ⟨a7, lo, c7, rfl, by simp [rpS, HO.out.2.2.2.2], ⟨by simpa [rpS] using q1, fun h0 p hp => ?_, by simpa [rpS, ← HO.out.2.2.2.2] using q3, q4⟩, by simpa [rpS] using HO.out.2.2.1, grownN_trans H5.out.2.2 HO.out.2.2.2.1⟩
                have := q2 (by simpa [rpS] using h0) p hp
                omega
              go_wp2
              go_meet
              exact HXX.out
        · have e0 : (nBl f n 4 s4 == 0) = false := by simp [h0]
          have HXX : Hid (DtS g b n c f w (txC f n (l4, s4)) (.slice a4 L4 c4) w5) := by
            show DtS _ _ _ _ _ _ _ _ _
            rw [HB.out, if_neg h0]
            exact ⟨a4, L4, c4, rfl, HL4.out, H5.out⟩
          clear h0
          go_wp2
          go_meet
          exact HXX.out
      case rest =>
        clear H5 HB HL4 hl30 hz4 hz5 hc4
        obtain ⟨a4, L4, c4, rfl, hL4, ht4, hd4, hg4⟩ := hcut
        have hz4 := hg4.size
        generalize txC f n (l4, s4) = r4 at *
        obtain ⟨l4, s4⟩ := r4
        simp only at hL4 ht4 hd4 HBl
        have hl30 : L4 ≤ 30302 := by have := HBl.out; omega
        have hc4 : L4 ≤ c4 ∧ c4 ≤ 9223372036854775807 := by have := ht4.2.2; omega
        have HL4 : Hid (L4 = l4.length) := hL4
        have H4 : Hid (TxQ wc w.heap.size a4 l4 c4 ∧ DrX wc g b n c f s4 ∧ w.grownBy wc (some g)) := ⟨ht4, hd4, hg4⟩
        clear hL4 ht4 hd4 hg4 HBl
        go_wp2_with fail
        refine (l1Below_x H4.out.2.1 5 (by omega) (by omega)).mono ?_
        rintro e w5 ⟨rfl, hd5, hg5⟩
        have hz5 := hg5.size
        have H5 : Hid (TxQ w5 w.heap.size a4 l4 c4 ∧ DrX w5 g b n c f (nS n 5 s4) ∧ w.grownBy w5 (some g)) := ⟨H4.out.1.fr hg5 (by omega), hd5, grownN_trans H4.out.2.2 hg5⟩
        clear H4 hd5 hg5
        have HB : Hid (RES = if 1 < nBl f n 5 s4 then l4 else [l4.take (nBl f n (l4.length + 1 : Nat) (nS n 5 s4)).toNat, bl (pkS f n wdQ (nS n (l4.length + 1 : Nat) (nS n 5 s4))), txR f n (nS n 23 (nS n (l4.length + 1 : Nat) (nS n 5 s4))) (l4.drop (nBl f n (l4.length + 1 : Nat) (nS n 5 s4)).toNat)].flatten) := HR.out
        clear HR
        by_cases h5 : 1 < nBl f n 5 s4
        · have e5 : nBl f n 5 s4 > 1 := h5
          have HXX : Hid (DtRet g RES w (.returned (.slice a4 L4 c4)) w5) := by
            show DtRet _ _ _ _ _
            rw [HB.out, if_pos h5]
            exact ⟨a4, L4, c4, rfl, HL4.out, H5.out.1, H5.out.2.2⟩
          clear HB
          go_wp2
          go_ret
          exact HXX.out
        have e5 : ¬ nBl f n 5 s4 > 1 := h5
        have HB2 : Hid (RES = [l4.take (nBl f n (L4 + 1 : Nat) (nS n 5 s4)).toNat, bl (pkS f n wdQ (nS n (L4 + 1 : Nat) (nS n 5 s4))), txR f n (nS n 23 (nS n (L4 + 1 : Nat) (nS n 5 s4))) (l4.drop (nBl f n (L4 + 1 : Nat) (nS n 5 s4)).toNat)].flatten) := by
          show _ = _
          rw [HB.out, if_neg h5, HL4.out]
        clear HB
        generalize nS n 5 s4 = s5 at *
        generalize nBl f n 5 s4 = k5 at *
        have hw : IntKind.i64.wrap ((L4 : Int) + 1) = ((L4 + 1 : Nat) : Int) := by rw [IntKind.wrap_i64]; omega
        have hwc : (L4 : Int) + 1 = ((L4 + 1 : Nat) : Int) := by omega
        obtain ⟨M, hM⟩ : ∃ M : Nat, M = L4 + 1 := ⟨_, rfl⟩
        rw [← hM] at hw hwc HB2
        have HM : Hid (M = L4 + 1) := hM
        have hM1 : 1 ≤ M ∧ M ≤ 30303 := by omega
        clear hM
        go_wp2_with fail
        refine (l1Below_x H5.out.2.1 (M : Int) (by omega) (by omega)).mono ?_
        rintro e w6 ⟨rfl, hd6, hg6⟩
        have hz6 := hg6.size
        obtain ⟨r0, r1⟩ := nBl_range f n (show (1 : Int) ≤ (M : Int) by omega) s5
        obtain ⟨k, hk⟩ : ∃ k : Nat, nBl f n (M : Int) s5 = (k : Int) := ⟨(nBl f n (M : Int) s5).toNat, by omega⟩
        rw [hk] at r0 r1 HB2 ⊢
        rw [Int.toNat_natCast] at HB2
        have hkL : k ≤ L4 := by have := HM.out; omega
        have H6 : Hid (TxQ w6 w.heap.size a4 l4 c4 ∧ DrX w6 g b n c f (nS n (M : Int) s5) ∧ w.grownBy w6 (some g)) := ⟨H5.out.1.fr hg6 (by omega), hd6, grownN_trans H5.out.2.2 hg6⟩
        clear H5 hd6 hg6 hk r0 r1
        generalize nS n (M : Int) s5 = s6 at *
        go_upto_region 18 with fail
        have HPk : Hid (Calls Try.prog 123 #[.pointer (some ⟨g, 0, none⟩), .slice (some ⟨w6.heap.size, 0, none⟩) 23 23] (w6.alloc (.cells (wdQ.map Value.string).toArray 9)) (DRet g b n c f (.string (pkS f n wdQ s6)) (nS n 23 s6) (w6.alloc (.cells (wdQ.map Value.string).toArray 9)))) := l5Pick_x (H6.out.2.1.below (below_alloc _ _)) wdQ w6.heap.size 23 23 rfl (by omega) (by omega) (by omega) (lit_cells w6 wdQ 9)
        go_wp2_with fail
        refine HPk.out.mono ?_
        rintro e w7 ⟨rfl, hd7, hg7⟩
        have hz7 : w6.heap.size + 1 ≤ w7.heap.size := by have := hg7.size; simpa using this
        have H7 : Hid (TxQ w7 w.heap.size a4 l4 c4 ∧ DrX w7 g b n c f (nS n 23 s6) ∧ w.grownBy w7 (some g)) := ⟨(H6.out.1.below (below_alloc _ _)).fr hg7 (by omega), hd7, grownN_trans (fr_below H6.out.2.2 (below_alloc _ _)) hg7⟩
        clear H6 hd7 hg7 HPk
        have HQz : Hid ((pkS f n wdQ s6).size ≤ 31) := getD_in wdQ_size
        generalize pkS f n wdQ s6 = qw at *
        generalize nS n 23 s6 = s7 at *
        obtain ⟨ar, hrun, hrd⟩ := dtFrom a4 L4 c4 k hkL hc4.1 hc4.2
        obtain ⟨hto, htr⟩ := dtTo a4 L4 c4 k hkL hc4.1 hc4.2
        have HRr : Hid (∀ W, RdL W a4 l4 → RdL W ar (l4.drop k)) := fun W h => hrd W l4 h HL4.out.symm
        have HTr : Hid (∀ W, RdL W a4 l4 → RdL W a4 (l4.take k)) := fun W h => htr W l4 h HL4.out.symm
        have hD : Hid (l4.drop k = l4.drop k ∧ (l4.drop k).length = L4 - k ∧ (l4.take k).length = k) := ⟨rfl, by rw [List.length_drop, HL4.out], by rw [List.length_take, ← HL4.out]; omega⟩
        clear hrd htr
        obtain ⟨LR, hLR⟩ : ∃ LR : Nat, LR = L4 - k := ⟨_, rfl⟩
        obtain ⟨CR, hCR⟩ : ∃ CR : Nat, CR = c4 - k := ⟨_, rfl⟩
        rw [← hLR, ← hCR] at hrun
        have HLR : Hid ((l4.drop k).length = LR) := by show _ = _; rw [hD.out.2.1, hLR]
        have hcr : LR ≤ CR ∧ CR ≤ 9223372036854775807 ∧ LR ≤ 30302 := by omega
        clear hLR hCR
        go_upto_region 20 with fail
        obtain ⟨bb, hbb⟩ : ∃ bb : Bool, bb = decide (nBl f n 3 s7 = 0 ∧ 0 < LR) := ⟨_, rfl⟩
        have HBB : Hid (bb = decide (nBl f n 3 s7 = 0 ∧ 0 < LR)) := hbb
        clear hbb
        go_cut [75] from 10 to 85 (fun s75 wx => s75 = .bool bb ∧ Hid (TxQ wx w.heap.size a4 l4 c4 ∧ w.grownBy wx (some g)))
        case first =>
          go_wp2_with fail
          refine (l1Once_x H7.out.2.1 3 (by omega) (by omega)).mono ?_
          rintro e w8 ⟨rfl, hd8, hg8⟩
          have H8 : Hid (TxQ w8 w.heap.size a4 l4 c4 ∧ w.grownBy w8 (some g)) := ⟨H7.out.1.fr hg8 (by omega), grownN_trans H7.out.2.2 hg8⟩
          clear hd8 hg8
          by_cases h3 : nBl f n 3 s7 = 0
          · have e3 : (nBl f n 3 s7 == 0) = true := by simp [h3]
            by_cases hl : 0 < LR
            · have il : (LR : Int) > 0 := by omega
              have eb : bb = true := by rw [HBB.out]; simp [h3, hl]
              clear h3
              go_wp2
              go_meet
              exact ⟨by rw [eb], H8⟩
            · have il : ¬ (LR : Int) > 0 := by omega
              have eb : bb = false := by rw [HBB.out]; simp [h3, hl]
              clear h3
              go_wp2
              go_meet
              exact ⟨by rw [eb], H8⟩
          · have e3 : (nBl f n 3 s7 == 0) = false := by simp [h3]
            have eb : bb = false := by rw [HBB.out]; simp [h3]
            clear h3
            go_wp2
            go_meet
            exact ⟨by rw [eb], H8⟩
        case rest =>
          obtain ⟨rfl, H8⟩ := hcut
          have hz8 : w.heap.size ≤ wc.heap.size := H8.out.2.size
          have HTX : Hid (txR f n s7 (l4.drop k) = if bb = true then (l4.drop k).drop 1 else l4.drop k) := by
            show _ = _
            unfold txR
            rw [HBB.out, HLR.out]
            by_cases q : nBl f n 3 s7 = 0 ∧ 0 < LR
            · rw [if_pos q, if_pos (by simp [q])]
            · rw [if_neg q, if_neg (by simpa using q)]
          have HbL : Hid (bb = true → 0 < LR) := fun e => by
            have := HBB.out
            rw [e] at this
            exact (of_decide_eq_true this.symm).2
          clear H7 HBB
          generalize txR f n s7 (l4.drop k) = lT at *
          obtain ⟨lR, hlR⟩ : ∃ lR, lR = l4.drop k := ⟨_, rfl⟩
          have HlR : Hid (lR = l4.drop k) := hlR
          rw [← hlR] at HTX HLR
          clear hlR
          go_upto_if 75 with fail
          go_cut [9] from 10 to 85 (fun s9 wx => ∃ a9 L9 c9, s9 = .slice a9 L9 c9 ∧ Hid (L9 = lT.length ∧ RdL wx a9 lT ∧ TxQ wx w.heap.size a4 l4 c4 ∧ w.grownBy wx (some g)))
          case first =>
            cases bb with
            | true =>
              have h1L : 1 ≤ LR := HbL.out rfl
              obtain ⟨a1, hrun1, hrd1⟩ := dtFrom ar LR CR 1 h1L hcr.1 hcr.2.1
              rw [show (((1 : Nat)) : Int) = 1 from rfl] at hrun1
              have HX : Hid (LR - 1 = lT.length ∧ RdL wc a1 lT ∧ TxQ wc w.heap.size a4 l4 c4 ∧ w.grownBy wc (some g)) := by
                have e : lT = lR.drop 1 := by rw [HTX.out]; rfl
                rw [e]
                exact ⟨by rw [List.length_drop, HLR.out], hrd1 _ _ (by rw [HlR.out]; exact HRr.out _ H8.out.1.1) HLR.out, H8.out⟩
              clear hrd1
              generalize LR - 1 = L1 at *
              generalize CR - 1 = C1 at *
              go_wp2
              go_meet
              exact ⟨_, _, _, rfl, HX⟩
            | false =>
              have HX : Hid (LR = lT.length ∧ RdL wc ar lT ∧ TxQ wc w.heap.size a4 l4 c4 ∧ w.grownBy wc (some g)) := by
                have e : lT = lR := by rw [HTX.out]; rfl
                rw [e]
                exact ⟨HLR.out.symm, by rw [HlR.out]; exact HRr.out _ H8.out.1.1, H8.out⟩
              go_wp2
              go_meet
              exact ⟨_, _, _, rfl, HX⟩
          case rest =>
            obtain ⟨a9, L9, c9, rfl, H9⟩ := hcut
            have hl9 : L9 ≤ 30302 := by
              have h1 := H9.out.1
              have h2 : lT.length ≤ lR.length := by
                rw [HTX.out]
                split
                · rw [List.length_drop]; omega
                · omega
              have h3 := HLR.out
              omega
            obtain ⟨c8, W, hcv, hbW, hrW, hzW⟩ := conv_sb qw wc
            have hlq : qw.size ≤ 31 := HQz.out
            have HCt : Hid (Calls Try.prog 88 #[.slice (some ⟨W.heap.size, 0, none⟩) 3 3] (W.alloc (.cells #[.slice a4 k c4, .slice (some ⟨wc.heap.size, 0, none⟩) qw.size c8, .slice a9 L9 c9] 33)) (RetQ (W.alloc (.cells #[.slice a4 k c4, .slice (some ⟨wc.heap.size, 0, none⟩) qw.size c8, .slice a9 L9 c9] 33)) [l4.take k, bl qw, lT].flatten)) := by
              have hsl := rdSL_new W [l4.take k, bl qw, lT] [.slice a4 k c4, .slice (some ⟨wc.heap.size, 0, none⟩) qw.size c8, .slice a9 L9 c9] (fun i p hi => by
                match i, hi with
                | 0, hi =>
                  injection hi with hi
                  subst hi
                  exact ⟨a4, c4, by rw [hD.out.2.2]; rfl, (HTr.out _ H9.out.2.2.1.1).below hbW⟩
                | 1, hi =>
                  injection hi with hi
                  subst hi
                  exact ⟨_, c8, by rw [bl_length]; rfl, hrW⟩
                | 2, hi =>
                  injection hi with hi
                  subst hi
                  exact ⟨a9, c9, by rw [← H9.out.1]; rfl, H9.out.2.1.below hbW⟩
                | n + 3, hi => cases hi)
              exact HZ.out.2.2 _ 3 [l4.take k, bl qw, lT] _ hsl rfl (by omega) (by
                have h1 := hD.out.2.2
                have h2 := bl_length qw
                have h3 := H9.out.1
                simp only [List.flatten_cons, List.flatten_nil, List.length_append, List.length_nil]
                omega)
            have HRE : Hid (RES = [l4.take k, bl qw, lT].flatten) := HB2.out
            have HW : Hid (Below wc.heap.size wc W) := hbW
            clear hbW hrW hzW HRr HTr hD HLR HTX HlR HB2 HQz HbL H8
            go_wp2_with fail
            with_reducible refine HCt.out.mono ?_
            rintro e w9 ⟨a10, c10, rfl, ht10, hb10⟩
            have HF : Hid (DtRet g RES w (.returned (.slice a10 [l4.take k, bl qw, lT].flatten.length c10)) w9) := by
              show DtRet _ _ _ _ _
              have hz9 := H9.out.2.2.2.size
              have q : Below wc.heap.size wc (W.alloc (.cells #[.slice a4 k c4, .slice (some ⟨wc.heap.size, 0, none⟩) qw.size c8, .slice a9 L9 c9] 33)) := HW.out.alloc HW.out.size _
              rw [HRE.out]
              exact ⟨a10, _, c10, rfl, rfl, ht10.mono (Nat.le_trans hz9 q.size), fr_below H9.out.2.2.2 (q.trans (hb10.mono q.size))⟩
            clear ht10 hb10
            generalize [l4.take k, bl qw, lT].flatten.length = LF at *
            go_wp2
            go_ret
            exact HF.out
end
end Go.Proofs.Ytocmbnocdjnfpaa
