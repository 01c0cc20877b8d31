import Derived.Test.YthcclkeeekppmaaNp23
import Derived.Test.YthcclkeeekppmaaNp19
namespace Go.Proofs.Ythcclkeeekppmaa
open Go.RowKit Go.Deep
set_option linter.unusedVariables false
set_option linter.unusedSimpArgs false
set_option maxRecDepth 100000

def kTree (f : Nat → Int) (n : Nat) (s : Nat × Int) : Int := nBl f n 12 s
def leafF (f : Nat → Int) (n : Nat) (s : Nat × Int) : List Nd × (Nat × Int) := if nBl f n 2 s = 0 then ([⟨1, [], []⟩], nS n 2 s) else ([⟨2, bl (wordF f n (nS n 2 s)), []⟩], wordS n (nS n 2 s))
/-- What stands behind a drawn operand. -/
def stepDF (f : Nat → Int) (n : Nat) (k : Int) (a : List Nd) (s : Nat × Int) (rec : List Nd × (Nat × Int)) : List Nd × (Nat × Int) :=
  if k < 5 then (a ++ [⟨if k = 4 then 4 else 3, bl (pkS f n wdP s), []⟩], nS n 5 s)
  else if k = 5 then (a ++ [⟨5, bl (pkS f n wdP s), bl (wordF f n (nS n 5 s))⟩], wordS n (nS n 5 s))
  else if k = 6 then (a ++ [⟨4, bl (pkS f n wdP s), []⟩], nS n 5 s)
  else if k = 7 then
    ((if nBl f n 4 (nS n 4 (nS n 4 s)) = 0 then a ++ [⟨9, bl (pkS f n wdG (nS n 4 (nS n 4 (nS n 4 s)))), []⟩] else a) ++ [⟨9, bl (if nBl f n 4 (nS n 4 s) = 0 then { data := #[110, 111, 110, 101] } else pkS f n wdG s), []⟩],
      if nBl f n 4 (nS n 4 (nS n 4 s)) = 0 then nS n 4 (nS n 4 (nS n 4 (nS n 4 s))) else nS n 4 (nS n 4 (nS n 4 s)))
  else (a ++ rec.1 ++ [⟨(6 + k % 3).toNat, [], []⟩], rec.2)
/-- The tree that is drawn. -/
def treeF (f : Nat → Int) (n : Nat) : Nat → Nat × Int → List Nd × (Nat × Int)
  | 0, s => leafF f n (nS n 12 s)
  | d + 1, s => if nBl f n 12 s < 2 then leafF f n (nS n 12 s) else stepDF f n (nBl f n 12 s) (treeF f n d (nS n 12 s)).1 (treeF f n d (nS n 12 s)).2 (treeF f n d (treeF f n d (nS n 12 s)).2)
theorem leafF_len (f : Nat → Int) (n : Nat) (s : Nat × Int) : (leafF f n s).1.length = 1 := by unfold leafF; split <;> rfl
theorem stepDF_len (f : Nat → Int) (n : Nat) (k : Int) (a : List Nd) (s : Nat × Int) (rec : List Nd × (Nat × Int)) : (stepDF f n k a s rec).1.length ≤ a.length + rec.1.length + 2 := by
  unfold stepDF
  split
  · simp <;> omega
  · split
    · simp <;> omega
    · split
      · simp <;> omega
      · split
        · simp only [List.length_append, List.length_singleton]
          split
          · simp <;> omega
          · omega
        · simp <;> omega
theorem treeF_len (f : Nat → Int) (n : Nat) : ∀ d s, (treeF f n d s).1.length + 2 ≤ 3 * 2 ^ d
  | 0, s => by
    show (leafF f n _).1.length + 2 ≤ _
    rw [leafF_len]
    decide
  | d + 1, s => by
    have h1 := treeF_len f n d (nS n 12 s)
    have h2 := treeF_len f n d (treeF f n d (nS n 12 s)).2
    have h3 : 3 * 2 ^ (d + 1) = 3 * 2 ^ d + 3 * 2 ^ d := by rw [Nat.pow_succ]; omega
    show (if nBl f n 12 s < 2 then leafF f n (nS n 12 s) else _).1.length + 2 ≤ _
    split
    · rw [leafF_len]; omega
    · have := stepDF_len f n (nBl f n 12 s) (treeF f n d (nS n 12 s)).1 (treeF f n d (nS n 12 s)).2 (treeF f n d (treeF f n d (nS n 12 s)).2)
      omega
theorem treeF_pos (f : Nat → Int) (n : Nat) : ∀ d s, 0 < (treeF f n d s).1.length
  | 0, s => by
    show 0 < (leafF f n _).1.length
    rw [leafF_len]
    exact Nat.one_pos
  | d + 1, s => by
    show 0 < (if nBl f n 12 s < 2 then leafF f n (nS n 12 s) else _).1.length
    split
    · rw [leafF_len]; exact Nat.one_pos
    · unfold stepDF
      split
      · simp
      · split
        · simp
        · split
          · simp
          · split
            · simp
            · simp <;> omega
theorem pow_le16 : ∀ d, d ≤ 8 → 3 * 2 ^ d ≤ 768 := by decide
/-- Nodes that are drawn. -/
def NRet (Z g : Nat) (b : Option Addr) (n c : Nat) (f : Nat → Int) (r : List Nd × (Nat × Int)) (w : World) (e : Ending) (w' : World) : Prop :=
  ∃ v, e = .returned v ∧ NdA w' w.heap.size v r.1 ∧ DrX w' g b n c f r.2 ∧ w.grownBy w' (some g)
theorem NdA.fr {w w' : World} {B g : Nat} {v : Value} {l : List Nd} (h : NdA w B v l) (hg : w.grownBy w' (some g)) (hB : g < B) : NdA w' B v l :=
  plS_keep h (fun x e => hg.block x (h.lt x e).2 (fun q => by injection q with q; have := (h.lt x e).1; omega))
theorem NdA.mono' {w : World} {B B' : Nat} {v : Value} {l : List Nd} (h : NdA w B v l) (hb : B' ≤ B) : NdA w B' v l := Go.Joins.ownsRow_le h hb
theorem ndLit (w : World) (y : Nd) : NdA (w.alloc (.cells (ndC y).toArray 35)) w.heap.size (.slice (some ⟨w.heap.size, 0, none⟩) 1 1) [y] := by
  refine ⟨by simp [ndR, ndC], .inr ⟨w.heap.size, 1, (ndC y).toArray, rfl, Nat.le_refl _, Array.getElem?_push_size, Nat.le_refl _, by unfold maxLen; omega, rfl, by simp [ndR, ndC]⟩⟩
theorem ndC_bl (k : Nat) (x y : ByteArray) : ndC ⟨k, bl x, bl y⟩ = [.int .i64 (k : Int), .string x, .string y] := by unfold ndC; rw [strT_bl, strT_bl]
theorem ndC_bl1 (k : Nat) (x : ByteArray) : ndC ⟨k, bl x, []⟩ = [.int .i64 (k : Int), .string x, .string { data := #[] }] := by unfold ndC; rw [strT_bl]; rfl
theorem new_cellsD (w : World) (cs : List Value) (t : TypeId) (b : Nat) (hb : w.heap.size = b) : ∀ j u, cs[j]? = some u → (w.alloc (.cells cs.toArray t)).cell? (Addr.add ⟨b, 0, none⟩ j) = some u := by
  subst hb
  exact new_cells w cs t
/-- A row appended to a row. -/
theorem app_ndl {w : World} {ops : Array Oper} {rest : List Oper} {o : Oper} {act : Act} {Q : Exit → Act → World → Prop} (hgd : o.guard = none) (s x : Operand)
    (ho : o.op = .call { callee := .builtin .append, args := #[s, x], argTypes := #[23, 23] })
    (B : Nat) (v : Value) (l : List Nd) (hs : act.eval s = v) (hown : NdA w B v l) (u : Value) (y : List Nd) (hx : act.eval x = u) {By : Nat} (hy : NdA w By u y) (hl : l.length + y.length ≤ 1048576) (hy0 : 0 < y.length) (hB : B ≤ w.heap.size)
    (h : ∀ v' w', NdA w' B v' (l ++ y) → w.grownBy w' v.ownBlock → SmB w.heap.size v v' → wpList Try.prog ops Q rest (act.put o.dst v') w') : wpList Try.prog ops Q (o :: rest) act w := by
  obtain ⟨i0, hi, hz0, hz1, hz2⟩ := info_parts infoPN
  have hyy := hy
  obtain ⟨_, ⟨_, e0⟩ | ⟨g, cap, cur, eu, hg, hh, q1, q2, q3, q4⟩⟩ := hyy
  · omega
  subst eu
  refine wpList_append_own_at w hgd s x 23 ho B 35 i0 _ 3 40 Try.underlying23 hi hz0 hz1 hz2 rfl (by decide) v l.length (ndR l) hs hown ⟨g, 0, none⟩ y.length cap (ndR y) hx (ndR_length y) (fun j q hq => ?_) (ndR_one y) (by unfold maxLen; omega) (by omega) hB (fun v' w' h1 h2 _ h4 => h v' w' ?_ h2 ?_)
  · rw [Addr.add_lit, Nat.zero_add]
    have hj : j < y.length * 3 := by
      have := (List.getElem?_eq_some_iff.1 hq).1
      rw [ndR_length] at this
      exact this
    rw [← hq, ← q4]
    unfold World.cell?
    rw [hh, List.getElem?_take, if_pos hj]
    simp
  · unfold NdA
    rw [ndR_app, List.length_append]
    exact h1
  · rcases h4 with e | e
    · exact .inl e
    · exact .inr ⟨_, Nat.le_refl _, e⟩

set_option maxHeartbeats 4000000 in
theorem tree_x {Z g : Nat} {b : Option Addr} {n c : Nat} {f : Nat → Int} (hz : DrB Z g b n) : ∀ (d : Nat), d ≤ 8 → ∀ (s : Nat × Int) (w : World), Z ≤ w.heap.size → DrX w g b n c f s →
    Calls Try.prog 97 #[.pointer (some ⟨g, 0, none⟩), .int .i64 (d : Int)] w (NRet Z g b n c f (treeF f n d s) w) := by
  intro d
  induction d with
  | zero =>
    intro _ s w hZ h
    have H : Hid (DrX w g b n c f s) := h
    have HT : Hid (treeF f n 0 s = leafF f n (nS n 12 s)) := rfl
    clear h
    have z0 : ((0 : Int) == 0) = true := rfl
    go_enter Try.func97, Try.ntmps97
    go_wp2_with fail
    refine (l1Below_x H.out 12 (by omega) (by omega)).mono ?_
    rintro e w1 ⟨rfl, hd1, ho1⟩
    have H1 : Hid (DrX w1 g b n c f (nS n 12 s) ∧ w.grownBy w1 (some g)) := ⟨hd1, ho1⟩
    clear hd1 ho1
    generalize nBl f n 12 s = k at *
    go_wp2_with fail
    refine (l1Once_x H1.out.1 2 (by omega) (by omega)).mono ?_
    rintro e w2 ⟨rfl, hd2, ho2⟩
    have H2 : Hid (DrX w2 g b n c f (nS n 2 (nS n 12 s)) ∧ w.grownBy w2 (some g)) := ⟨hd2, grownN_trans H1.out.2 ho2⟩
    have hz2 := H2.out.2.size
    clear hd2 ho2 H1
    by_cases h0 : nBl f n 2 (nS n 12 s) = 0
    · have e0 : (nBl f n 2 (nS n 12 s) == 0) = true := by simp [h0]
      have HL : Hid (leafF f n (nS n 12 s) = ([⟨1, [], []⟩], nS n 2 (nS n 12 s))) := by show _ = _; unfold leafF; rw [if_pos h0]
      have HF : Hid (NRet Z g b n c f (leafF f n (nS n 12 s)) w (.returned (.slice (some ⟨w2.heap.size, 0, none⟩) 1 1)) (w2.alloc (.cells #[.int .i64 1, .string { data := #[] }, .string { data := #[] }] 35))) := by
        show NRet _ _ _ _ _ _ _ _ _ _
        rw [HL.out]
        exact ⟨_, rfl, (ndLit w2 ⟨1, [], []⟩).mono' hz2, H2.out.1.below (below_alloc _ _), fr_below H2.out.2 (below_alloc _ _)⟩
      rw [e0]
      clear e0 h0 HL
      go_wp2
      go_ret
      rw [HT.out]
      exact HF.out
    · have e0 : (nBl f n 2 (nS n 12 s) == 0) = false := by simp [h0]
      have HL : Hid (leafF f n (nS n 12 s) = ([⟨2, bl (wordF f n (nS n 2 (nS n 12 s))), []⟩], wordS n (nS n 2 (nS n 12 s)))) := by show _ = _; unfold leafF; rw [if_neg h0]
      rw [e0]
      clear e0 h0
      go_wp2_with fail
      refine (l5Word_x H2.out.1).mono ?_
      rintro e w3 ⟨rfl, hd3, ho3⟩
      have hz3 := ho3.size
      have HF : Hid (NRet Z g b n c f (leafF f n (nS n 12 s)) w (.returned (.slice (some ⟨w3.heap.size, 0, none⟩) 1 1)) (w3.alloc (.cells #[.int .i64 2, .string (wordF f n (nS n 2 (nS n 12 s))), .string { data := #[] }] 35))) := by
        show NRet _ _ _ _ _ _ _ _ _ _
        rw [HL.out]
        have hr := ndLit w3 ⟨2, bl (wordF f n (nS n 2 (nS n 12 s))), []⟩
        rw [ndC_bl1] at hr
        exact ⟨_, rfl, hr.mono' (by omega), hd3.below (below_alloc _ _), fr_below (grownN_trans H2.out.2 ho3) (below_alloc _ _)⟩
      clear hd3 ho3 HL
      generalize wordF f n (nS n 2 (nS n 12 s)) = Y at *
      go_wp2
      go_ret
      rw [HT.out]
      exact HF.out
  | succ d ih =>
    intro hd s w hZ h
    have IH : Hid (∀ (s : Nat × Int) (w : World), Z ≤ w.heap.size → DrX w g b n c f s → Calls Try.prog 97 #[.pointer (some ⟨g, 0, none⟩), .int .i64 (d : Int)] w (NRet Z g b n c f (treeF f n d s) w)) := ih (by omega)
    have H : Hid (DrX w g b n c f s) := h
    have hp := pow_le16 d (by omega)
    have hzg := hz.1
    clear h ih
    have HTT : Hid (treeF f n (d + 1) s = if nBl f n 12 s < 2 then leafF f n (nS n 12 s) else stepDF f n (nBl f n 12 s) (treeF f n d (nS n 12 s)).1 (treeF f n d (nS n 12 s)).2 (treeF f n d (treeF f n d (nS n 12 s)).2)) := rfl
    obtain ⟨k0, k11⟩ := nBl_range f n (k := 12) (by omega) s
    obtain ⟨D, hD⟩ : ∃ D : Int, D = (d : Int) + 1 := ⟨_, rfl⟩
    have nD : (D == 0) = false := by simp; omega
    have nD' : ¬ D = 0 := by omega
    have eD : IntKind.i64.wrap (D - 1) = (d : Int) := by rw [IntKind.wrap_i64]; omega
    have eD' : D - 1 = (d : Int) := by omega
    rw [show ((d + 1 : Nat) : Int) = D by omega]
    clear hD
    go_enter Try.func97, Try.ntmps97
    go_wp2_with fail
    refine (l1Below_x H.out 12 (by omega) (by omega)).mono ?_
    rintro e w1 ⟨rfl, hd1, ho1⟩
    have H1 : Hid (DrX w1 g b n c f (nS n 12 s) ∧ w.grownBy w1 (some g)) := ⟨hd1, ho1⟩
    have hz1 := ho1.size
    clear hd1 ho1 H
    obtain ⟨k, hk⟩ : ∃ k, k = nBl f n 12 s := ⟨_, rfl⟩
    rw [← hk] at k0 k11 HTT ⊢
    clear hk
    by_cases hk2 : k < 2
    · have HT : Hid (treeF f n (d + 1) s = leafF f n (nS n 12 s)) := by show _ = _; rw [HTT.out, if_pos hk2]
      have dk : decide (k < 2) = true := decide_eq_true hk2
      clear HTT
      go_wp2_with fail
      refine (l1Once_x H1.out.1 2 (by omega) (by omega)).mono ?_
      rintro e w2 ⟨rfl, hd2, ho2⟩
      have H2 : Hid (DrX w2 g b n c f (nS n 2 (nS n 12 s)) ∧ w.grownBy w2 (some g)) := ⟨hd2, grownN_trans H1.out.2 ho2⟩
      have hz2 := H2.out.2.size
      clear hd2 ho2 H1
      by_cases h0 : nBl f n 2 (nS n 12 s) = 0
      · have e0 : (nBl f n 2 (nS n 12 s) == 0) = true := by simp [h0]
        have HL : Hid (leafF f n (nS n 12 s) = ([⟨1, [], []⟩], nS n 2 (nS n 12 s))) := by show _ = _; unfold leafF; rw [if_pos h0]
        have HF : Hid (NRet Z g b n c f (leafF f n (nS n 12 s)) w (.returned (.slice (some ⟨w2.heap.size, 0, none⟩) 1 1)) (w2.alloc (.cells #[.int .i64 1, .string { data := #[] }, .string { data := #[] }] 35))) := by
          show NRet _ _ _ _ _ _ _ _ _ _
          rw [HL.out]
          exact ⟨_, rfl, (ndLit w2 ⟨1, [], []⟩).mono' hz2, H2.out.1.below (below_alloc _ _), fr_below H2.out.2 (below_alloc _ _)⟩
        rw [e0]
        clear e0 h0 HL
        go_wp2
        go_ret
        rw [HT.out]
        exact HF.out
      · have e0 : (nBl f n 2 (nS n 12 s) == 0) = false := by simp [h0]
        have HL : Hid (leafF f n (nS n 12 s) = ([⟨2, bl (wordF f n (nS n 2 (nS n 12 s))), []⟩], wordS n (nS n 2 (nS n 12 s)))) := by show _ = _; unfold leafF; rw [if_neg h0]
        rw [e0]
        clear e0 h0
        go_wp2_with fail
        refine (l5Word_x H2.out.1).mono ?_
        rintro e w3 ⟨rfl, hd3, ho3⟩
        have hz3 := ho3.size
        have HF : Hid (NRet Z g b n c f (leafF f n (nS n 12 s)) w (.returned (.slice (some ⟨w3.heap.size, 0, none⟩) 1 1)) (w3.alloc (.cells #[.int .i64 2, .string (wordF f n (nS n 2 (nS n 12 s))), .string { data := #[] }] 35))) := by
          show NRet _ _ _ _ _ _ _ _ _ _
          rw [HL.out]
          have hr := ndLit w3 ⟨2, bl (wordF f n (nS n 2 (nS n 12 s))), []⟩
          rw [ndC_bl1] at hr
          exact ⟨_, rfl, hr.mono' (by omega), hd3.below (below_alloc _ _), fr_below (grownN_trans H2.out.2 ho3) (below_alloc _ _)⟩
        clear hd3 ho3 HL
        generalize wordF f n (nS n 2 (nS n 12 s)) = Y at *
        go_wp2
        go_ret
        rw [HT.out]
        exact HF.out
    have dk : decide (k < 2) = false := decide_eq_false hk2
    go_wp2_with fail
    refine (IH.out _ w1 (by omega) H1.out.1).mono ?_
    rintro e w2 ⟨va, rfl, hn2, hd2, ho2⟩
    obtain ⟨A, s2, hA⟩ : ∃ A s2, treeF f n d (nS n 12 s) = (A, s2) := ⟨_, _, rfl⟩
    have hlA := treeF_len f n d (nS n 12 s)
    rw [hA] at hn2 hd2 HTT hlA
    have HTS : Hid (treeF f n (d + 1) s = stepDF f n k A s2 (treeF f n d s2)) := by show _ = _; rw [HTT.out, if_neg (by omega)]
    have hA2 : A.length ≤ 800 := by have h' : A.length + 2 ≤ 3 * 2 ^ d := hlA; omega
    have H2 : Hid (NdA w2 w.heap.size va A ∧ DrX w2 g b n c f s2 ∧ w.grownBy w2 (some g)) := ⟨hn2.mono' hz1, hd2, grownN_trans H1.out.2 ho2⟩
    have hz2 := ho2.size
    obtain ⟨av, cv, rfl, hlc, hcm, -⟩ := hn2.rd
    clear hn2 hd2 ho2 hA hlA HTT H1
    by_cases h5 : k < 5
    · have d5 : decide (k < 5) = true := decide_eq_true h5
      go_wp2_with fail
      refine (l5Pred_x H2.out.2.1).mono ?_
      rintro e w3 ⟨rfl, hd3, ho3⟩
      have hz3 := ho3.size
      have HG : Hid (∀ kk : Nat, kk = (if k = 4 then 4 else 3) → treeF f n (d + 1) s = (A ++ [⟨kk, bl (pkS f n wdP s2), []⟩], nS n 5 s2)) := fun kk e => by
        rw [HTS.out, e]
        unfold stepDF
        rw [if_pos h5]
      have H3 : Hid (NdA w3 w.heap.size (.slice av A.length cv) A ∧ DrX w3 g b n c f (nS n 5 s2) ∧ w.grownBy w3 (some g)) := ⟨H2.out.1.fr ho3 (by omega), hd3, grownN_trans H2.out.2.2 ho3⟩
      clear hd3 ho3 H2
      generalize pkS f n wdP s2 = Y at *
      by_cases h4 : k = 4
      · have n4 : (k == 4) = true := by simp [h4]
        have HG4 : Hid (treeF f n (d + 1) s = (A ++ [⟨4, bl Y, []⟩], nS n 5 s2)) := HG.out 4 (by rw [if_pos h4])
        clear h4 HG
        go_wp2_with (at_builtin; refine app_nd rfl _ _ rfl w.heap.size _ A rfl ((H3.out.1.below (below_alloc _ _)).below (below_alloc _ _)) (w3.heap.size + 1) ⟨4, bl Y, []⟩ rfl (by rw [ndC_bl1]; exact new_cellsD _ [.int .i64 4, .string Y, .string { data := #[] }] _ _ (by simp)) (by omega) (by simp; omega) ?_)
        intro v' wq hown' hgrow _
        have HF : Hid (NRet Z g b n c f (treeF f n (d + 1) s) w (.returned v') wq) := by
          show NRet _ _ _ _ _ _ _ _ _ _
          rw [HG4.out]
          refine ⟨v', rfl, hown', ?_, ?_⟩
          · exact ((H3.out.2.1.below (below_alloc _ _)).below (below_alloc _ _)).grown hz hgrow (fun x e => Nat.le_trans hZ (H3.out.1.lt x e).1)
          · exact fr_new (fr_below (fr_below H3.out.2.2 (below_alloc _ _)) (below_alloc _ _)) hgrow (fun x e => (H3.out.1.lt x e).1)
        clear hown' hgrow
        go_wp2
        go_ret
        exact HF.out
      · have n4 : (k == 4) = false := by simp [h4]
        have HG4 : Hid (treeF f n (d + 1) s = (A ++ [⟨3, bl Y, []⟩], nS n 5 s2)) := HG.out 3 (by rw [if_neg h4])
        clear HG
        go_wp2_with (at_builtin; refine app_nd rfl _ _ rfl w.heap.size _ A rfl ((H3.out.1.below (below_alloc _ _)).below (below_alloc _ _)) (w3.heap.size + 1) ⟨3, bl Y, []⟩ rfl (by rw [ndC_bl1]; exact new_cellsD _ [.int .i64 3, .string Y, .string { data := #[] }] _ _ (by simp)) (by omega) (by simp; omega) ?_)
        intro v' wq hown' hgrow _
        have HF : Hid (NRet Z g b n c f (treeF f n (d + 1) s) w (.returned v') wq) := by
          show NRet _ _ _ _ _ _ _ _ _ _
          rw [HG4.out]
          refine ⟨v', rfl, hown', ?_, ?_⟩
          · exact ((H3.out.2.1.below (below_alloc _ _)).below (below_alloc _ _)).grown hz hgrow (fun x e => Nat.le_trans hZ (H3.out.1.lt x e).1)
          · exact fr_new (fr_below (fr_below H3.out.2.2 (below_alloc _ _)) (below_alloc _ _)) hgrow (fun x e => (H3.out.1.lt x e).1)
        clear hown' hgrow
        go_wp2
        go_ret
        exact HF.out
    have d5 : decide (k < 5) = false := decide_eq_false h5
    by_cases e5 : k = 5
    · subst e5
      have HG : Hid (treeF f n (d + 1) s = (A ++ [⟨5, bl (pkS f n wdP s2), bl (wordF f n (nS n 5 s2))⟩], wordS n (nS n 5 s2))) := by
        show _ = _
        rw [HTS.out]
        unfold stepDF
        rw [if_neg (by omega), if_pos rfl]
      go_wp2_with fail
      refine (l5Pred_x (H2.out.2.1.below (below_alloc _ _))).mono ?_
      rintro e w3 ⟨rfl, hd3, ho3⟩
      have hz3 := ho3.size
      have bg : w2.heap.size ≠ g := by omega
      have hk3 : w3.heap[w2.heap.size]? = some (.cells #[.int .i64 5, .string { data := #[] }, .string { data := #[] }] 35 (0, 0)) := (ho3.block w2.heap.size (by simp) (fun e => bg (by injection e with e))).trans Array.getElem?_push_size
      have q0 : w3.cell? ⟨w2.heap.size, 0, none⟩ = some (.int .i64 5) := by simp [World.cell?, hk3]
      have q1 : w3.cell? ⟨w2.heap.size, 1, none⟩ = some (.string { data := #[] }) := by simp [World.cell?, hk3]
      have q2 : w3.cell? ⟨w2.heap.size, 2, none⟩ = some (.string { data := #[] }) := by simp [World.cell?, hk3]
      have qf : ∀ o, w3.frozen? ⟨w2.heap.size, o, none⟩ = false := fun o => by simp [World.frozen?, hk3]
      have hz3' : w2.heap.size + 1 ≤ w3.heap.size := by simpa using hz3
      have H3 : Hid (NdA w3 w.heap.size (.slice av A.length cv) A ∧ DrX w3 g b n c f (nS n 5 s2) ∧ w.grownBy w3 (some g) ∧ (∀ x, (Value.slice av A.length cv).ownBlock = some x → x < w2.heap.size)) := ⟨(H2.out.1.below (below_alloc _ _)).fr ho3 (by omega), hd3, grownN_trans (fr_below H2.out.2.2 (below_alloc _ _)) ho3, fun x e => (H2.out.1.lt x e).2⟩
      have HB : Hid (w3.heap[w2.heap.size]? = some (.cells #[.int .i64 5, .string { data := #[] }, .string { data := #[] }] 35 (0, 0))) := hk3
      clear hd3 ho3 H2 hz3 hk3
      generalize pkS f n wdP s2 = Y at *
      go_upto_region 15 with fail
      obtain ⟨w4, hw4⟩ : ∃ w4, w4 = w3.setCell ⟨w2.heap.size, 1, none⟩ (.string Y) := ⟨_, rfl⟩
      rw [← hw4]
      have hk4 : w4.heap[w2.heap.size]? = some (.cells #[.int .i64 5, .string Y, .string { data := #[] }] 35 (0, 0)) := by rw [hw4, Go.Joins.block_setCell HB.out]; rfl
      have hz4 : w4.heap.size = w3.heap.size := by rw [hw4]; simp
      have H4 : Hid (NdA w4 w.heap.size (.slice av A.length cv) A ∧ DrX w4 g b n c f (nS n 5 s2) ∧ w.grownBy w4 (some g)) := by
        rw [hw4]
        refine ⟨plS_keep H3.out.1 (fun x e => Below.heap_setCell _ _ _ _ (by have := H3.out.2.2.2 x e; show x ≠ w2.heap.size; omega)), H3.out.2.1.grown hz grownN_set (fun x e => by injection e with e; omega), fr_new H3.out.2.2.1 grownN_set (fun x e => by injection e with e; omega)⟩
      have HLT : Hid (∀ x, (Value.slice av A.length cv).ownBlock = some x → x < w2.heap.size) := H3.out.2.2.2
      clear hw4 q0 q1 q2 qf H3 HB
      go_wp2_with fail
      refine (l5Word_x H4.out.2.1).mono ?_
      rintro e w5 ⟨rfl, hd5, ho5⟩
      have hk5 : w5.heap[w2.heap.size]? = some (.cells #[.int .i64 5, .string Y, .string { data := #[] }] 35 (0, 0)) := (ho5.block w2.heap.size (by omega) (fun e => bg (by injection e with e))).trans hk4
      have hz5 : w3.heap.size ≤ w5.heap.size := by have := ho5.size; omega
      have q0 : w5.cell? ⟨w2.heap.size, 0, none⟩ = some (.int .i64 5) := by simp [World.cell?, hk5]
      have q1 : w5.cell? ⟨w2.heap.size, 1, none⟩ = some (.string Y) := by simp [World.cell?, hk5]
      have q2 : w5.cell? ⟨w2.heap.size, 2, none⟩ = some (.string { data := #[] }) := by simp [World.cell?, hk5]
      have qf : ∀ o, w5.frozen? ⟨w2.heap.size, o, none⟩ = false := fun o => by simp [World.frozen?, hk5]
      have H5 : Hid (NdA w5 w.heap.size (.slice av A.length cv) A ∧ DrX w5 g b n c f (wordS n (nS n 5 s2)) ∧ w.grownBy w5 (some g)) := ⟨H4.out.1.fr ho5 (by omega), hd5, grownN_trans H4.out.2.2 ho5⟩
      have HB5 : Hid (w5.heap[w2.heap.size]? = some (.cells #[.int .i64 5, .string Y, .string { data := #[] }] 35 (0, 0))) := hk5
      clear hd5 ho5 H4 hk4 hk5 hz4
      generalize wordF f n (nS n 5 s2) = X at *
      go_upto_region 16 with fail
      obtain ⟨w6, hw6⟩ : ∃ w6, w6 = w5.setCell ⟨w2.heap.size, 2, none⟩ (.string X) := ⟨_, rfl⟩
      rw [← hw6]
      have hk6 : w6.heap[w2.heap.size]? = some (.cells #[.int .i64 5, .string Y, .string X] 35 (0, 0)) := by rw [hw6, Go.Joins.block_setCell HB5.out]; rfl
      have hz6 : w6.heap.size = w5.heap.size := by rw [hw6]; simp
      have H6 : Hid (NdA w6 w.heap.size (.slice av A.length cv) A ∧ DrX w6 g b n c f (wordS n (nS n 5 s2)) ∧ w.grownBy w6 (some g)) := by
        rw [hw6]
        refine ⟨plS_keep H5.out.1 (fun x e => Below.heap_setCell _ _ _ _ (by have := HLT.out x e; show x ≠ w2.heap.size; omega)), H5.out.2.1.grown hz grownN_set (fun x e => by injection e with e; omega), fr_new H5.out.2.2 grownN_set (fun x e => by injection e with e; omega)⟩
      clear hw6 q0 q1 q2 qf H5 HB5 HLT
      have r0 : w6.cell? ⟨w2.heap.size, 0, none⟩ = some (.int .i64 5) := by simp [World.cell?, hk6]
      have r1 : w6.cell? ⟨w2.heap.size, 1, none⟩ = some (.string Y) := by simp [World.cell?, hk6]
      have r2 : w6.cell? ⟨w2.heap.size, 2, none⟩ = some (.string X) := by simp [World.cell?, hk6]
      have hz6' : w.heap.size ≤ w6.heap.size := by omega
      have hzb : w2.heap.size < w6.heap.size := by omega
      clear hk6 hz6
      go_wp2_with (at_builtin; refine app_nd rfl _ _ rfl w.heap.size _ A rfl (H6.out.1.below (below_alloc _ _)) w6.heap.size ⟨5, bl Y, bl X⟩ rfl (by rw [ndC_bl]; exact new_cells _ [.int .i64 5, .string Y, .string X] _) (by omega) (by simp; omega) ?_)
      intro v' wq hown' hgrow _
      have HF : Hid (NRet Z g b n c f (treeF f n (d + 1) s) w (.returned v') wq) := by
        show NRet _ _ _ _ _ _ _ _ _ _
        rw [HG.out]
        refine ⟨v', rfl, hown', ?_, ?_⟩
        · exact (H6.out.2.1.below (below_alloc _ _)).grown hz hgrow (fun x e => Nat.le_trans hZ (H6.out.1.lt x e).1)
        · exact fr_new (fr_below H6.out.2.2 (below_alloc _ _)) hgrow (fun x e => (H6.out.1.lt x e).1)
      clear hown' hgrow
      go_wp2
      go_ret
      exact HF.out
    have n5 : (k == 5) = false := by simp [e5]
    by_cases e6 : k = 6
    · subst e6
      have HG : Hid (treeF f n (d + 1) s = (A ++ [⟨4, bl (pkS f n wdP s2), []⟩], nS n 5 s2)) := by
        show _ = _
        rw [HTS.out]
        unfold stepDF
        rw [if_neg (by omega), if_neg (by omega), if_pos rfl]
      go_wp2_with fail
      refine (l5Pred_x H2.out.2.1).mono ?_
      rintro e w3 ⟨rfl, hd3, ho3⟩
      have hz3 := ho3.size
      have H3 : Hid (NdA w3 w.heap.size (.slice av A.length cv) A ∧ DrX w3 g b n c f (nS n 5 s2) ∧ w.grownBy w3 (some g)) := ⟨H2.out.1.fr ho3 (by omega), hd3, grownN_trans H2.out.2.2 ho3⟩
      clear hd3 ho3 H2
      generalize pkS f n wdP s2 = Y at *
      go_wp2_with (at_builtin; refine app_nd rfl _ _ rfl w.heap.size _ A rfl (H3.out.1.below (below_alloc _ _)) w3.heap.size ⟨4, bl Y, []⟩ rfl (by rw [ndC_bl1]; exact new_cells _ [.int .i64 4, .string Y, .string { data := #[] }] _) (by omega) (by simp; omega) ?_)
      intro v' wq hown' hgrow _
      have HF : Hid (NRet Z g b n c f (treeF f n (d + 1) s) w (.returned v') wq) := by
        show NRet _ _ _ _ _ _ _ _ _ _
        rw [HG.out]
        refine ⟨v', rfl, hown', ?_, ?_⟩
        · exact (H3.out.2.1.below (below_alloc _ _)).grown hz hgrow (fun x e => Nat.le_trans hZ (H3.out.1.lt x e).1)
        · exact fr_new (fr_below H3.out.2.2 (below_alloc _ _)) hgrow (fun x e => (H3.out.1.lt x e).1)
      clear hown' hgrow
      go_wp2
      go_ret
      exact HF.out
    have n6 : (k == 6) = false := by simp [e6]
    by_cases e7 : k = 7
    · subst e7
      have HG : Hid (treeF f n (d + 1) s = ((if nBl f n 4 (nS n 4 (nS n 4 s2)) = 0 then A ++ [⟨9, bl (pkS f n wdG (nS n 4 (nS n 4 (nS n 4 s2)))), []⟩] else A) ++ [⟨9, bl (if nBl f n 4 (nS n 4 s2) = 0 then { data := #[110, 111, 110, 101] } else pkS f n wdG s2), []⟩],
      if nBl f n 4 (nS n 4 (nS n 4 s2)) = 0 then nS n 4 (nS n 4 (nS n 4 (nS n 4 s2))) else nS n 4 (nS n 4 (nS n 4 s2)))) := by
        show _ = _
        rw [HTS.out]
        unfold stepDF
        rw [if_neg (by omega), if_neg (by omega), if_neg (by omega), if_pos rfl]
      go_wp2_with fail
      refine (l5Label_x H2.out.2.1).mono ?_
      rintro e w3 ⟨rfl, hd3, ho3⟩
      have hz3 := ho3.size
      have H3 : Hid (NdA w3 w.heap.size (.slice av A.length cv) A ∧ DrX w3 g b n c f (nS n 4 s2) ∧ w.grownBy w3 (some g)) := ⟨H2.out.1.fr ho3 (by omega), hd3, grownN_trans H2.out.2.2 ho3⟩
      clear hd3 ho3 H2
      go_wp2_with fail
      refine (l1Once_x H3.out.2.1 4 (by omega) (by omega)).mono ?_
      rintro e w4 ⟨rfl, hd4, ho4⟩
      have hz4 := ho4.size
      have H4 : Hid (NdA w4 w.heap.size (.slice av A.length cv) A ∧ DrX w4 g b n c f (nS n 4 (nS n 4 s2)) ∧ w.grownBy w4 (some g)) := ⟨H3.out.1.fr ho4 (by omega), hd4, grownN_trans H3.out.2.2 ho4⟩
      clear hd4 ho4 H3
      by_cases o1 : nBl f n 4 (nS n 4 s2) = 0
      · have e1 : (nBl f n 4 (nS n 4 s2) == 0) = true := by simp [o1]
        rw [e1]
        rw [if_pos o1] at HG
        clear e1 o1
        go_wp2_with fail
        refine (l1Once_x H4.out.2.1 4 (by omega) (by omega)).mono ?_
        rintro e w5 ⟨rfl, hd5, ho5⟩
        have hz5 := ho5.size
        have H5 : Hid (NdA w5 w.heap.size (.slice av A.length cv) A ∧ DrX w5 g b n c f (nS n 4 (nS n 4 (nS n 4 s2))) ∧ w.grownBy w5 (some g)) := ⟨H4.out.1.fr ho5 (by omega), hd5, grownN_trans H4.out.2.2 ho5⟩
        clear hd5 ho5 H4
        by_cases o2 : nBl f n 4 (nS n 4 (nS n 4 s2)) = 0
        · have e2 : (nBl f n 4 (nS n 4 (nS n 4 s2)) == 0) = true := by simp [o2]
          rw [e2]
          rw [if_pos o2, if_pos o2] at HG
          clear e2 o2
          go_wp2_with fail
          refine (l5Label_x H5.out.2.1).mono ?_
          rintro e w6 ⟨rfl, hd6, ho6⟩
          have hz6 := ho6.size
          have H6 : Hid (NdA w6 w.heap.size (.slice av A.length cv) A ∧ DrX w6 g b n c f (nS n 4 (nS n 4 (nS n 4 (nS n 4 s2)))) ∧ w.grownBy w6 (some g)) := ⟨H5.out.1.fr ho6 (by omega), hd6, grownN_trans H5.out.2.2 ho6⟩
          clear hd6 ho6 H5
          generalize pkS f n wdG (nS n 4 (nS n 4 (nS n 4 s2))) = Y at *
          go_wp2_with (at_builtin; refine app_nd rfl _ _ rfl w.heap.size _ A rfl (H6.out.1.below (below_alloc _ _)) w6.heap.size ⟨9, bl Y, []⟩ rfl (by rw [ndC_bl1]; exact new_cells _ [.int .i64 9, .string Y, .string { data := #[] }] _) (by omega) (by simp; omega) ?_)
          intro v7 w7 hown7 hgrow7 _
          have hz7 : w6.heap.size ≤ w7.heap.size := by have := hgrow7.size; simp at this; omega
          have H7 : Hid (NdA w7 w.heap.size v7 (A ++ [⟨9, bl Y, []⟩]) ∧ DrX w7 g b n c f (nS n 4 (nS n 4 (nS n 4 (nS n 4 s2)))) ∧ w.grownBy w7 (some g)) := ⟨hown7, (H6.out.2.1.below (below_alloc _ _)).grown hz hgrow7 (fun x e => Nat.le_trans hZ (H6.out.1.lt x e).1), fr_new (fr_below H6.out.2.2 (below_alloc _ _)) hgrow7 (fun x e => (H6.out.1.lt x e).1)⟩
          obtain ⟨A7, hA7⟩ : ∃ A7, A7 = A ++ [(⟨9, bl Y, []⟩ : Nd)] := ⟨_, rfl⟩
          have hlen : A7.length ≤ 900 := by rw [hA7, List.length_append, List.length_singleton]; omega
          rw [← hA7] at HG H7
          obtain ⟨a7, c7, e7', -, -, -⟩ := H7.out.1.rd
          subst e7'
          clear hown7 hgrow7 H6 hA7
          go_wp2_with (at_builtin; refine app_nd rfl _ _ rfl w.heap.size _ A7 rfl (H7.out.1.below (below_alloc _ _)) w7.heap.size ⟨9, bl { data := #[110, 111, 110, 101] }, []⟩ rfl (by rw [ndC_bl1]; exact new_cells _ [.int .i64 9, .string { data := #[110, 111, 110, 101] }, .string { data := #[] }] _) (by omega) (by simp; omega) ?_)
          intro v' wq hown' hgrow _
          have HF : Hid (NRet Z g b n c f (treeF f n (d + 1) s) w (.returned v') wq) := by
            show NRet _ _ _ _ _ _ _ _ _ _
            rw [HG.out]
            refine ⟨v', rfl, hown', ?_, ?_⟩
            · exact (H7.out.2.1.below (below_alloc _ _)).grown hz hgrow (fun x e => Nat.le_trans hZ (H7.out.1.lt x e).1)
            · exact fr_new (fr_below H7.out.2.2 (below_alloc _ _)) hgrow (fun x e => (H7.out.1.lt x e).1)
          clear hown' hgrow
          go_wp2
          go_ret
          exact HF.out
        · have e2 : (nBl f n 4 (nS n 4 (nS n 4 s2)) == 0) = false := by simp [o2]
          rw [e2]
          rw [if_neg o2, if_neg o2] at HG
          clear e2 o2
          go_wp2_with (at_builtin; refine app_nd rfl _ _ rfl w.heap.size _ A rfl (H5.out.1.below (below_alloc _ _)) w5.heap.size ⟨9, bl { data := #[110, 111, 110, 101] }, []⟩ rfl (by rw [ndC_bl1]; exact new_cells _ [.int .i64 9, .string { data := #[110, 111, 110, 101] }, .string { data := #[] }] _) (by omega) (by simp; omega) ?_)
          intro v' wq hown' hgrow _
          have HF : Hid (NRet Z g b n c f (treeF f n (d + 1) s) w (.returned v') wq) := by
            show NRet _ _ _ _ _ _ _ _ _ _
            rw [HG.out]
            refine ⟨v', rfl, hown', ?_, ?_⟩
            · exact (H5.out.2.1.below (below_alloc _ _)).grown hz hgrow (fun x e => Nat.le_trans hZ (H5.out.1.lt x e).1)
            · exact fr_new (fr_below H5.out.2.2 (below_alloc _ _)) hgrow (fun x e => (H5.out.1.lt x e).1)
          clear hown' hgrow
          go_wp2
          go_ret
          exact HF.out
      · have e1 : (nBl f n 4 (nS n 4 s2) == 0) = false := by simp [o1]
        rw [e1]
        rw [if_neg o1] at HG
        clear e1 o1
        generalize pkS f n wdG s2 = LL at *
        go_wp2_with fail
        refine (l1Once_x H4.out.2.1 4 (by omega) (by omega)).mono ?_
        rintro e w5 ⟨rfl, hd5, ho5⟩
        have hz5 := ho5.size
        have H5 : Hid (NdA w5 w.heap.size (.slice av A.length cv) A ∧ DrX w5 g b n c f (nS n 4 (nS n 4 (nS n 4 s2))) ∧ w.grownBy w5 (some g)) := ⟨H4.out.1.fr ho5 (by omega), hd5, grownN_trans H4.out.2.2 ho5⟩
        clear hd5 ho5 H4
        by_cases o2 : nBl f n 4 (nS n 4 (nS n 4 s2)) = 0
        · have e2 : (nBl f n 4 (nS n 4 (nS n 4 s2)) == 0) = true := by simp [o2]
          rw [e2]
          rw [if_pos o2, if_pos o2] at HG
          clear e2 o2
          go_wp2_with fail
          refine (l5Label_x H5.out.2.1).mono ?_
          rintro e w6 ⟨rfl, hd6, ho6⟩
          have hz6 := ho6.size
          have H6 : Hid (NdA w6 w.heap.size (.slice av A.length cv) A ∧ DrX w6 g b n c f (nS n 4 (nS n 4 (nS n 4 (nS n 4 s2)))) ∧ w.grownBy w6 (some g)) := ⟨H5.out.1.fr ho6 (by omega), hd6, grownN_trans H5.out.2.2 ho6⟩
          clear hd6 ho6 H5
          generalize pkS f n wdG (nS n 4 (nS n 4 (nS n 4 s2))) = Y at *
          go_wp2_with (at_builtin; refine app_nd rfl _ _ rfl w.heap.size _ A rfl (H6.out.1.below (below_alloc _ _)) w6.heap.size ⟨9, bl Y, []⟩ rfl (by rw [ndC_bl1]; exact new_cells _ [.int .i64 9, .string Y, .string { data := #[] }] _) (by omega) (by simp; omega) ?_)
          intro v7 w7 hown7 hgrow7 _
          have hz7 : w6.heap.size ≤ w7.heap.size := by have := hgrow7.size; simp at this; omega
          have H7 : Hid (NdA w7 w.heap.size v7 (A ++ [⟨9, bl Y, []⟩]) ∧ DrX w7 g b n c f (nS n 4 (nS n 4 (nS n 4 (nS n 4 s2)))) ∧ w.grownBy w7 (some g)) := ⟨hown7, (H6.out.2.1.below (below_alloc _ _)).grown hz hgrow7 (fun x e => Nat.le_trans hZ (H6.out.1.lt x e).1), fr_new (fr_below H6.out.2.2 (below_alloc _ _)) hgrow7 (fun x e => (H6.out.1.lt x e).1)⟩
          obtain ⟨A7, hA7⟩ : ∃ A7, A7 = A ++ [(⟨9, bl Y, []⟩ : Nd)] := ⟨_, rfl⟩
          have hlen : A7.length ≤ 900 := by rw [hA7, List.length_append, List.length_singleton]; omega
          rw [← hA7] at HG H7
          obtain ⟨a7, c7, e7', -, -, -⟩ := H7.out.1.rd
          subst e7'
          clear hown7 hgrow7 H6 hA7
          go_wp2_with (at_builtin; refine app_nd rfl _ _ rfl w.heap.size _ A7 rfl (H7.out.1.below (below_alloc _ _)) w7.heap.size ⟨9, bl LL, []⟩ rfl (by rw [ndC_bl1]; exact new_cells _ [.int .i64 9, .string LL, .string { data := #[] }] _) (by omega) (by simp; omega) ?_)
          intro v' wq hown' hgrow _
          have HF : Hid (NRet Z g b n c f (treeF f n (d + 1) s) w (.returned v') wq) := by
            show NRet _ _ _ _ _ _ _ _ _ _
            rw [HG.out]
            refine ⟨v', rfl, hown', ?_, ?_⟩
            · exact (H7.out.2.1.below (below_alloc _ _)).grown hz hgrow (fun x e => Nat.le_trans hZ (H7.out.1.lt x e).1)
            · exact fr_new (fr_below H7.out.2.2 (below_alloc _ _)) hgrow (fun x e => (H7.out.1.lt x e).1)
          clear hown' hgrow
          go_wp2
          go_ret
          exact HF.out
        · have e2 : (nBl f n 4 (nS n 4 (nS n 4 s2)) == 0) = false := by simp [o2]
          rw [e2]
          rw [if_neg o2, if_neg o2] at HG
          clear e2 o2
          go_wp2_with (at_builtin; refine app_nd rfl _ _ rfl w.heap.size _ A rfl (H5.out.1.below (below_alloc _ _)) w5.heap.size ⟨9, bl LL, []⟩ rfl (by rw [ndC_bl1]; exact new_cells _ [.int .i64 9, .string LL, .string { data := #[] }] _) (by omega) (by simp; omega) ?_)
          intro v' wq hown' hgrow _
          have HF : Hid (NRet Z g b n c f (treeF f n (d + 1) s) w (.returned v') wq) := by
            show NRet _ _ _ _ _ _ _ _ _ _
            rw [HG.out]
            refine ⟨v', rfl, hown', ?_, ?_⟩
            · exact (H5.out.2.1.below (below_alloc _ _)).grown hz hgrow (fun x e => Nat.le_trans hZ (H5.out.1.lt x e).1)
            · exact fr_new (fr_below H5.out.2.2 (below_alloc _ _)) hgrow (fun x e => (H5.out.1.lt x e).1)
          clear hown' hgrow
          go_wp2
          go_ret
          exact HF.out
    have n7 : (k == 7) = false := by simp [e7]
    have HG : Hid (treeF f n (d + 1) s = (A ++ (treeF f n d s2).1 ++ [⟨(6 + k % 3).toNat, [], []⟩], (treeF f n d s2).2)) := by
      show _ = _
      rw [HTS.out]
      unfold stepDF
      rw [if_neg h5, if_neg e5, if_neg e6, if_neg e7]
    go_wp2_with fail
    refine (IH.out _ w2 (by omega) H2.out.2.1).mono ?_
    rintro e w3 ⟨vb, rfl, hn3, hd3, ho3⟩
    obtain ⟨C, s3, hC⟩ : ∃ C s3, treeF f n d s2 = (C, s3) := ⟨_, _, rfl⟩
    have hlC := treeF_len f n d s2
    rw [hC] at hn3 hd3 HG hlC
    have hC2 : C.length ≤ 800 := by have h' : C.length + 2 ≤ 3 * 2 ^ d := hlC; omega
    have hC0 : 0 < C.length := by
      have := treeF_pos f n d s2
      rw [hC] at this
      exact this
    have hz3 := ho3.size
    have H3 : Hid (NdA w3 w.heap.size (.slice av A.length cv) A ∧ NdA w3 w.heap.size vb C ∧ DrX w3 g b n c f s3 ∧ w.grownBy w3 (some g)) := ⟨H2.out.1.fr ho3 (by omega), hn3.mono' (by omega), hd3, grownN_trans H2.out.2.2 ho3⟩
    obtain ⟨bv', cb, rfl, hlcb, hcmb, -⟩ := hn3.rd
    clear hn3 hd3 ho3 hC hlC H2
    have hm3 : k.tmod 3 = k % 3 := Int.tmod_eq_emod_of_nonneg k0
    have hm0 : 0 ≤ k % 3 := Int.emod_nonneg k (by omega)
    have hm1 : k % 3 < 3 := Int.emod_lt_of_pos k (by omega)
    obtain ⟨kk, hkk⟩ : ∃ kk : Nat, (kk : Int) = 6 + k % 3 := ⟨(6 + k % 3).toNat, by omega⟩
    have HKK : Hid ((6 + k % 3).toNat = kk) := by show _ = _; omega
    have ek : IntKind.i64.wrap (6 + k % 3) = (kk : Int) := by rw [IntKind.wrap_i64]; omega
    have ek' : 6 + k % 3 = (kk : Int) := by omega
    rw [HKK.out] at HG
    clear hkk
    go_wp2_with (at_builtin; refine app_ndl rfl _ _ rfl w.heap.size _ A rfl H3.out.1 _ C rfl H3.out.2.1 (by omega) hC0 (by omega) ?_)
    intro v1 w4 hown4 hgrow4 _
    have hz4 := hgrow4.size
    have H4 : Hid (NdA w4 w.heap.size v1 (A ++ C) ∧ DrX w4 g b n c f s3 ∧ w.grownBy w4 (some g)) := ⟨hown4, H3.out.2.2.1.grown hz hgrow4 (fun x e => Nat.le_trans hZ (H3.out.1.lt x e).1), fr_new H3.out.2.2.2 hgrow4 (fun x e => (H3.out.1.lt x e).1)⟩
    have hlen : (A ++ C).length ≤ 1600 := by rw [List.length_append]; omega
    clear hown4 hgrow4 H3
    go_wp2_with (at_builtin; refine app_nd rfl _ _ rfl w.heap.size _ (A ++ C) rfl (H4.out.1.below (below_alloc _ _)) w4.heap.size ⟨kk, [], []⟩ rfl (new_cells _ [.int .i64 (kk : Int), .string { data := #[] }, .string { data := #[] }] _) (by omega) (by simp; omega) ?_)
    intro v' wq hown' hgrow _
    have HF : Hid (NRet Z g b n c f (treeF f n (d + 1) s) w (.returned v') wq) := by
      show NRet _ _ _ _ _ _ _ _ _ _
      rw [HG.out]
      refine ⟨v', rfl, by simpa only [List.append_assoc] using hown', ?_, ?_⟩
      · exact (H4.out.2.1.below (below_alloc _ _)).grown hz hgrow (fun x e => Nat.le_trans hZ (H4.out.1.lt x e).1)
      · exact fr_new (fr_below H4.out.2.2 (below_alloc _ _)) hgrow (fun x e => (H4.out.1.lt x e).1)
    clear hown' hgrow
    go_wp2
    go_ret
    exact HF.out
end Go.Proofs.Ythcclkeeekppmaa
