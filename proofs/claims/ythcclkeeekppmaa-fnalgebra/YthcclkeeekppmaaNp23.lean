import Derived.Test.YthcclkeeekppmaaNp22
import Derived.Test.YthcclkeeekppmaaNp15
namespace Go.Proofs.Ythcclkeeekppmaa
open Go.RowKit Go.Deep
set_option linter.unusedVariables false
set_option maxRecDepth 100000

/-! What a path's validity depends on. -/
theorem dep_congr {A B : Nat → Nat} : ∀ n, (∀ i, i < n → A i = B i) → dep A n = dep B n
  | 0, _ => rfl
  | n + 1, h => by rw [dep_succ, dep_succ, dep_congr n (fun i hi => h i (by omega)), h n (by omega)]
theorem need_congr {A B : Nat → Nat} {e j : Nat} (h : ∀ i, i < e → A i = B i) (hj : j ≤ e) : need A e j = need B e j := by
  unfold need
  rw [dep_congr e h, dep_congr j (fun i hi => h i (by omega))]
theorem begins_congr {A B : Nat → Nat} {e s : Nat} (h : ∀ i, i < e → A i = B i) (hb : Begins A e s) : Begins B e s := by
  obtain ⟨h1, h2, h3⟩ := hb
  exact ⟨h1, by rw [← need_congr h (by omega)]; exact h2, fun j q1 q2 => by rw [← need_congr h q2]; exact h3 j q1 q2⟩
theorem bgGo_congr {A B : Nat → Nat} {e : Nat} (h : ∀ i, i < e → A i = B i) : ∀ j, j ≤ e → bgGo A e j = bgGo B e j
  | 0, _ => rfl
  | j + 1, hj => by
    unfold bgGo
    rw [need_congr h (by omega), bgGo_congr h j (by omega)]
theorem bgF_le (A : Nat → Nat) (e : Nat) : bgF A e ≤ e := by
  have : ∀ j, bgGo A e j ≤ j := fun j => by
    induction j with
    | zero => exact Nat.le_refl _
    | succ j ih =>
      unfold bgGo
      split
      · omega
      · omega
  exact this e
theorem htF_zero : ∀ (f : Nat) (A B : Nat → Nat), A 0 = B 0 → htF f A 0 = htF f B 0
  | 0, _, _, _ => rfl
  | f + 1, A, B, h => by
    have e1 := htF_zero f A B h
    have e2 := htF_zero f (fun i => A (0 + i)) (fun i => B (0 + i)) h
    show (if A 0 = 0 then 1 else if A 0 = 1 then 1 + htF f A 0 else 1 + max (htF f A 0) (htF f (fun i => A (0 + i)) 0)) = (if B 0 = 0 then 1 else if B 0 = 1 then 1 + htF f B 0 else 1 + max (htF f B 0) (htF f (fun i => B (0 + i)) 0))
    rw [h, e1, e2]
theorem htF_congr : ∀ (f : Nat) (A B : Nat → Nat) (n : Nat), 0 < n → (∀ i, i < n → A i = B i) → htF f A n = htF f B n
  | 0, _, _, _, _, _ => rfl
  | f + 1, A, B, n, hn, h => by
    have e : bgF A (n - 1) = bgF B (n - 1) := bgGo_congr (fun i hi => h i (by omega)) _ (Nat.le_refl _)
    have hA : ∀ n', n' < n → htF f A n' = htF f B n' := fun n' h' => by
      by_cases h0 : n' = 0
      · subst h0
        cases f with
        | zero => rfl
        | succ f =>
          exact htF_zero (f + 1) A B (h 0 (by omega))
      · exact htF_congr f A B n' (by omega) (fun i hi => h i (by omega))
    have hS : htF f (fun i => A (bgF A (n - 1) + i)) (n - 1 - bgF A (n - 1)) = htF f (fun i => B (bgF B (n - 1) + i)) (n - 1 - bgF B (n - 1)) := by
      have := bgF_le B (n - 1)
      rw [e]
      by_cases h0 : n - 1 - bgF B (n - 1) = 0
      · rw [h0]
        cases f with
        | zero => rfl
        | succ f => exact htF_zero (f + 1) _ _ (h _ (by omega))
      · exact htF_congr f _ _ _ (by omega) (fun i hi => h _ (by omega))
    unfold htF
    rw [h (n - 1) (by omega), hA (n - 1) (by omega), e, hA (bgF B (n - 1)) (by have := bgF_le B (n - 1); omega)]
    rw [← e, hS, e]
theorem VPth.congr {n : Nat} {I I' : Nat → Int} {X X' R R' : Nat → ByteArray} (h : VPth n I X R) (e : ∀ i, i < n → I i = I' i ∧ X i = X' i ∧ R i = R' i) : VPth n I' X' R' := by
  obtain ⟨h1, h2, h3, h4⟩ := h
  refine ⟨h1, fun i hi => ?_, begins_congr (fun i hi => by rw [(e i hi).1]) h3, ?_⟩
  · obtain ⟨e1, e2, e3⟩ := e i hi
    rw [← e1, ← e2, ← e3]
    exact h2 i hi
  · rw [← htF_congr 100 (fun i => arOf (I i)) _ n (by omega) (fun i hi => by rw [(e i hi).1])]
    exact h4
theorem strT_bl (x : ByteArray) : strT (bl x) = x := by
  unfold strT bl
  rw [List.map_map]
  have : ((fun x : Int => UInt8.ofNat x.toNat) ∘ fun b : UInt8 => ((b.toNat : Nat) : Int)) = id := by
    funext b
    simp
  rw [this]
  simp
end Go.Proofs.Ythcclkeeekppmaa

namespace Go.Proofs.Ythcclkeeekppmaa
open Go.RowKit Go.Deep
set_option linter.unusedVariables false
set_option maxRecDepth 100000

/-- The cursor and its bytes lie below Z. -/
def DrB (Z g : Nat) (b : Option Addr) (n : Nat) : Prop := g < Z ∧ (n ≠ 0 → ∀ x, b = some x → x.block < Z)
theorem DrX.grown {w w' : World} {g Z : Nat} {b : Option Addr} {n c : Nat} {f : Nat → Int} {s : Nat × Int} {r : Option Nat} (h : DrX w g b n c f s) (hz : DrB Z g b n) (hg : w.grownBy w' r) (hr : ∀ k, r = some k → Z ≤ k) : DrX w' g b n c f s := by
  refine ⟨h.cur.of_block (hg.block g h.lt (fun e => by have := hr g e.symm; have := hz.1; omega)), h.le, ?_, h.ne, h.len, h.range⟩
  by_cases h0 : n = 0
  · exact Or.inl h0
  rcases h.rd with q | ⟨bb, o, rfl, hc⟩
  · exact Or.inl q
  · have hlt := World.block_lt_of_cell? _ _ (hc 0 (by omega))
    have hlz := hz.2 h0 _ rfl
    exact Or.inr ⟨bb, o, rfl, fun i hi => (World.cell?_of_block (a := ⟨bb, o + i, none⟩) (hg.block bb hlt (fun e => by have := hr bb e.symm; have hlz' : bb < Z := hlz; omega))).trans (hc i hi)⟩
theorem fr_new {w w1 w2 : World} {g : Nat} {r : Option Nat} (h : w.grownBy w1 (some g)) (k : w1.grownBy w2 r) (hr : ∀ x, r = some x → w.heap.size ≤ x) : w.grownBy w2 (some g) :=
  ⟨k.os.trans h.os, k.tape.trans h.tape, k.output.trans h.output, Nat.le_trans h.size k.size, fun b hb hne => (k.block b (Nat.lt_of_lt_of_le hb h.size) (fun e => by have := hr b e.symm; omega)).trans (h.block b hb hne)⟩
theorem fr_below {w w1 w2 : World} {g : Nat} (h : w.grownBy w1 (some g)) (k : Below w1.heap.size w1 w2) : w.grownBy w2 (some g) := grownN_trans h (grownN_below k _)
def pkS (f : Nat → Int) (n : Nat) (L : List ByteArray) (s : Nat × Int) : ByteArray := L.getD (nBl f n (L.length : Int) s).toNat { data := #[] }
section
variable {g : Nat} {b : Option Addr} {n c : Nat} {f : Nat → Int} {s : Nat × Int} {w : World}
set_option maxHeartbeats 1000000 in
theorem l5Pick_x (h : DrX w g b n c f s) (L : List ByteArray) (bw : Nat) (m cw : Nat) (hm : m = L.length) (h1 : 1 ≤ m) (h2 : m ≤ 1000) (hbw : bw ≠ g) (hc : ∀ j (hj : j < L.length), w.cell? ⟨bw, j, none⟩ = some (.string L[j])) :
    Calls Try.prog 86 #[.pointer (some ⟨g, 0, none⟩), .slice (some ⟨bw, 0, none⟩) m cw] w (DRet g b n c f (.string (pkS f n L s)) (nS n (m : Int) s) w) := by
  have HB : Hid (Calls Try.prog 21 #[.pointer (some ⟨g, 0, none⟩), .int .i64 (m : Int)] w (DRet g b n c f (.int .i64 (nBl f n (m : Int) s)) (nS n (m : Int) s) w)) := l1Below_x h (m : Int) (by omega) (by omega)
  obtain ⟨r0, r1⟩ := nBl_range f n (show (1 : Int) ≤ (m : Int) by omega) s
  have HC : Hid (∀ j (hj : j < L.length), w.cell? ⟨bw, j, none⟩ = some (.string L[j])) := hc
  have HP : Hid (pkS f n L s = L.getD (nBl f n (m : Int) s).toNat { data := #[] } ∧ m = L.length) := ⟨by unfold pkS; rw [hm], hm⟩
  clear h hm hc
  go_enter Try.func86, Try.ntmps86
  go_wp2_with fail
  refine HB.out.mono ?_
  rintro e w1 ⟨rfl, hd, ho⟩
  have HX : Hid (DrX w1 g b n c f (nS n (m : Int) s) ∧ w.grownBy w1 (some g)) := ⟨hd, ho⟩
  clear hd ho HB
  obtain ⟨x, hx⟩ : ∃ x : Nat, nBl f n (m : Int) s = (x : Int) := ⟨(nBl f n (m : Int) s).toNat, by omega⟩
  rw [hx] at r0 r1 HP ⊢
  have hxm : x < m := by omega
  have hxl : x < L.length := by have := HP.out.2; omega
  have HE : Hid (pkS f n L s = L[x]'hxl) := by
    show _ = _
    rw [HP.out.1, Int.toNat_natCast, List.getD_eq_getElem?_getD, List.getElem?_eq_getElem hxl]
    rfl
  have cx : w1.cell? ⟨bw, x, none⟩ = some (.string (pkS f n L s)) := by
    have hc := HC.out x hxl
    rw [HE.out, ← hc]
    exact World.cell?_of_block (a := ⟨bw, x, none⟩) (HX.out.2.block bw (World.block_lt_of_cell? _ _ hc) (fun e => hbw (by injection e with e)))
  generalize pkS f n L s = Y at *
  clear hx HP HE HC
  go_wp2
  go_ret
  exact ⟨rfl, HX.out⟩
/-- The words that are drawn. -/
def wdA : List ByteArray := [{ data := #[34] }, { data := #[92] }, { data := #[255, 0] }, { data := #[97, 32, 98] }, { data := #[49, 50, 51, 52, 53, 54, 55, 56, 57, 48, 49, 50, 51, 52, 53, 54, 55, 56, 57, 48, 49, 50, 51, 52, 53, 54, 55, 56, 57, 48] }, { data := #[112] }, { data := #[103] }]
def wdB : List ByteArray := [{ data := #[97] }, { data := #[98] }, { data := #[99] }, { data := #[100] }, { data := #[101] }, { data := #[97, 98] }, { data := #[122] }]
def wdP : List ByteArray := [{ data := #[112] }, { data := #[112] }, { data := #[113] }, { data := #[114] }, { data := #[97] }]
def wdG : List ByteArray := [{ data := #[103] }, { data := #[103] }, { data := #[104] }, { data := #[97] }]
def wordF (f : Nat → Int) (n : Nat) (s : Nat × Int) : ByteArray := if nBl f n 30 s = 0 then pkS f n wdA (nS n 30 s) else pkS f n wdB (nS n 30 s)
def wordS (n : Nat) (s : Nat × Int) : Nat × Int := nS n 7 (nS n 30 s)
theorem lit_cells (w : World) (L : List ByteArray) (t : TypeId) : ∀ j (hj : j < L.length), (w.alloc (.cells (L.map Value.string).toArray t)).cell? ⟨w.heap.size, j, none⟩ = some (.string L[j]) := fun j hj => by
  have := new_cells w (L.map Value.string) t j (.string L[j]) (by rw [List.getElem?_map, List.getElem?_eq_getElem hj]; rfl)
  rw [Addr.add_lit, Nat.zero_add] at this
  exact this
set_option maxHeartbeats 1000000 in
theorem l5Pred_x (h : DrX w g b n c f s) : Calls Try.prog 53 #[.pointer (some ⟨g, 0, none⟩)] w (DRet g b n c f (.string (pkS f n wdP s)) (nS n 5 s) w) := by
  have HP : Hid (∀ W, Below w.heap.size w W → W.heap.size = w.heap.size + 1 → (∀ j (hj : j < wdP.length), W.cell? ⟨w.heap.size, j, none⟩ = some (.string wdP[j])) → Calls Try.prog 86 #[.pointer (some ⟨g, 0, none⟩), .slice (some ⟨w.heap.size, 0, none⟩) 5 5] W (DRet g b n c f (.string (pkS f n wdP s)) (nS n 5 s) W)) := fun W hW _ hc => l5Pick_x (h.below hW) wdP w.heap.size 5 5 rfl (by omega) (by omega) (by have := h.lt; omega) hc
  clear h
  go_enter Try.func53, Try.ntmps53
  go_wp2_with fail
  refine (HP.out _ (below_alloc _ _) (by simp) (lit_cells w wdP 9)).mono ?_
  rintro e w1 ⟨rfl, hd, ho⟩
  have HX : Hid (DrX w1 g b n c f (nS n 5 s) ∧ w.grownBy w1 (some g)) := ⟨hd, grownN_trans (grownN_below (below_alloc _ _) _) ho⟩
  clear hd ho
  generalize pkS f n wdP s = Y at *
  go_wp2
  go_ret
  exact ⟨rfl, HX.out⟩
set_option maxHeartbeats 1000000 in
theorem l5Label_x (h : DrX w g b n c f s) : Calls Try.prog 54 #[.pointer (some ⟨g, 0, none⟩)] w (DRet g b n c f (.string (pkS f n wdG s)) (nS n 4 s) w) := by
  have HP : Hid (∀ W, Below w.heap.size w W → W.heap.size = w.heap.size + 1 → (∀ j (hj : j < wdG.length), W.cell? ⟨w.heap.size, j, none⟩ = some (.string wdG[j])) → Calls Try.prog 86 #[.pointer (some ⟨g, 0, none⟩), .slice (some ⟨w.heap.size, 0, none⟩) 4 4] W (DRet g b n c f (.string (pkS f n wdG s)) (nS n 4 s) W)) := fun W hW _ hc => l5Pick_x (h.below hW) wdG w.heap.size 4 4 rfl (by omega) (by omega) (by have := h.lt; omega) hc
  clear h
  go_enter Try.func54, Try.ntmps54
  go_wp2_with fail
  refine (HP.out _ (below_alloc _ _) (by simp) (lit_cells w wdG 9)).mono ?_
  rintro e w1 ⟨rfl, hd, ho⟩
  have HX : Hid (DrX w1 g b n c f (nS n 4 s) ∧ w.grownBy w1 (some g)) := ⟨hd, grownN_trans (grownN_below (below_alloc _ _) _) ho⟩
  clear hd ho
  generalize pkS f n wdG s = Y at *
  go_wp2
  go_ret
  exact ⟨rfl, HX.out⟩
set_option maxHeartbeats 1000000 in
theorem l5Word_x (h : DrX w g b n c f s) : Calls Try.prog 52 #[.pointer (some ⟨g, 0, none⟩)] w (DRet g b n c f (.string (wordF f n s)) (wordS n s) w) := by
  have HO : Hid (Calls Try.prog 23 #[.pointer (some ⟨g, 0, none⟩), .int .i64 30] w (DRet g b n c f (.bool (nBl f n 30 s == 0)) (nS n 30 s) w)) := l1Once_x h 30 (by omega) (by omega)
  have hlt := h.lt
  clear h
  go_enter Try.func52, Try.ntmps52
  go_wp2_with fail
  refine HO.out.mono ?_
  rintro e w1 ⟨rfl, hd, ho⟩
  have hz := ho.size
  have HX : Hid (DrX w1 g b n c f (nS n 30 s) ∧ w.grownBy w1 (some g)) := ⟨hd, ho⟩
  clear hd ho HO
  by_cases h0 : nBl f n 30 s = 0
  · have e0 : (nBl f n 30 s == 0) = true := by simp [h0]
    have HW : Hid (wordF f n s = pkS f n wdA (nS n 30 s) ∧ wordS n s = nS n 7 (nS n 30 s)) := ⟨by unfold wordF; rw [if_pos h0], rfl⟩
    rw [e0]
    clear e0 h0
    go_wp2_with fail
    refine (l5Pick_x (HX.out.1.below (below_alloc _ _)) wdA w1.heap.size 7 7 rfl (by omega) (by omega) (by omega) (lit_cells w1 wdA 9)).mono ?_
    rintro e w2 ⟨rfl, hd, ho⟩
    have HY : Hid (DrX w2 g b n c f (wordS n s) ∧ w.grownBy w2 (some g)) := ⟨by rw [HW.out.2]; exact hd, grownN_trans (fr_below HX.out.2 (below_alloc _ _)) ho⟩
    have HE : Hid (∀ Y, Y = pkS f n wdA (nS n 30 s) → wordF f n s = Y) := fun Y hY => by rw [hY]; exact HW.out.1
    generalize hYY : pkS f n wdA (nS n 30 s) = Y at *
    have HYE : Hid (wordF f n s = Y) := HE.out Y rfl
    clear hd ho hYY HE HW
    go_wp2
    go_ret
    exact ⟨by rw [HYE.out]; rfl, HY.out⟩
  · have e0 : (nBl f n 30 s == 0) = false := by simp [h0]
    have HW : Hid (wordF f n s = pkS f n wdB (nS n 30 s) ∧ wordS n s = nS n 7 (nS n 30 s)) := ⟨by unfold wordF; rw [if_neg h0], rfl⟩
    rw [e0]
    clear e0 h0
    go_wp2_with fail
    refine (l5Pick_x (HX.out.1.below (below_alloc _ _)) wdB w1.heap.size 7 7 rfl (by omega) (by omega) (by omega) (lit_cells w1 wdB 9)).mono ?_
    rintro e w2 ⟨rfl, hd, ho⟩
    have HY : Hid (DrX w2 g b n c f (wordS n s) ∧ w.grownBy w2 (some g)) := ⟨by rw [HW.out.2]; exact hd, grownN_trans (fr_below HX.out.2 (below_alloc _ _)) ho⟩
    have HE : Hid (∀ Y, Y = pkS f n wdB (nS n 30 s) → wordF f n s = Y) := fun Y hY => by rw [hY]; exact HW.out.1
    generalize hYY : pkS f n wdB (nS n 30 s) = Y at *
    have HYE : Hid (wordF f n s = Y) := HE.out Y rfl
    clear hd ho hYY HE HW
    go_wp2
    go_ret
    exact ⟨by rw [HYE.out]; rfl, HY.out⟩
end
end Go.Proofs.Ythcclkeeekppmaa
