import Derived.Test.YtocmbnocdjnfpaaPpJ
import Derived.Test.YtocmbnocdjnfpaaPaL
import Derived.Deep.CutRange
import Derived.Maps.AppendAt
import Derived.Deep.DeepMust
namespace Go.Proofs.Ytocmbnocdjnfpaa
open Go.RowKit Go.Deep
set_option linter.unusedVariables false
set_option maxRecDepth 100000

theorem infoBs : (Try.prog.info? 33).map (fun i => (i.zero, i.size, i.bytes)) = some (some (.slice none 0 0), 1, 24) := by kernel_rfl
theorem below_undrew {w w' : World} (h : Below w.drew.heap.size w.drew w') : Below w.heap.size w w' := ((Below.refl _ _).drew).trans h
/-- The parts of a text, in a row of the call's own. -/
def PtA (W : World) (B : Nat) (v : Value) (k : Nat) (PL : List (List Int)) : Prop := k = PL.length ∧ ∃ xs : List Value, W.ownsRow B 33 1 v k xs ∧ ∀ (i : Nat) (p : List Int), PL[i]? = some p → ∃ (ad : Option Addr) (cp : Nat), xs[i]? = some (.slice ad p.length cp) ∧ RdL W ad p ∧ (0 < p.length → ∀ y, ad = some y → v.ownBlock ≠ some y.block)
theorem PtA.below {w w' : World} {B k : Nat} {v : Value} {PL : List (List Int)} (h : PtA w B v k PL) (hb : Below w.heap.size w w') : PtA w' B v k PL := by
  obtain ⟨h0, xs, h1, h2⟩ := h
  refine ⟨h0, xs, h1.kept (w' := w') (row := none) ⟨hb.os, hb.tape, hb.output, hb.size, fun k hk _ => hb.block k hk⟩ (by cases hv : v.ownBlock <;> simp), fun i p hi => ?_⟩
  obtain ⟨ad, cp, q1, q2, q3⟩ := h2 i p hi
  exact ⟨ad, cp, q1, q2.below hb, q3⟩
theorem RdL.lt {w : World} {a : Option Addr} {l : List Int} (h : RdL w a l) (h0 : 0 < l.length) : ∃ b o, a = some ⟨b, o, none⟩ ∧ b < w.heap.size := by
  rcases h with h | ⟨b, o, e, hc⟩
  · omega
  · exact ⟨b, o, e, World.block_lt_of_cell? _ _ (hc 0 h0)⟩
theorem RdL.grown {w w' : World} {a : Option Addr} {l : List Int} {row : Option Nat} (h : RdL w a l) (hg : w.grownBy w' row) (hr : 0 < l.length → ∀ y, a = some y → row ≠ some y.block) : RdL w' a l := by
  rcases h with h | ⟨b, o, e, hc⟩
  · exact .inl h
  · refine .inr ⟨b, o, e, fun i hi => ?_⟩
    have hlt := World.block_lt_of_cell? _ _ (hc i hi)
    have hb : w'.heap[b]? = w.heap[b]? := hg.block b hlt (fun q => hr (by omega) _ e q.symm)
    have := hc i hi
    unfold World.cell? at this ⊢
    rw [hb]
    exact this
/-- One part more. -/
theorem pt_app {w : World} {ops : Array Oper} {rest : List Oper} {o : Oper} {act : Act} {Q : Exit → Act → World → Prop} (hgd : o.guard = none) (s x : Operand)
    (ho : o.op = .call { callee := .builtin .append, args := #[s, x], argTypes := #[129, 129] })
    (B : Nat) (v : Value) (k : Nat) (PL : List (List Int)) (hs : act.eval s = v) (h : PtA w B v k PL) (hx : act.eval x = .slice (some ⟨w.heap.size, 0, none⟩) 1 1)
    (a3 : Option Addr) (ln c3 : Nat) (tx : List Int) (hln : ln = tx.length) (hr : RdL w a3 tx) (hap : 0 < tx.length → ∀ y, a3 = some y → v.ownBlock ≠ some y.block) (hk : k ≤ 1000) (hB : B ≤ w.heap.size)
    (hh : ∀ v' w', PtA w' B v' (k + 1) (PL ++ [tx]) → Below B w w' → wpList Try.prog ops Q rest (act.put o.dst v') w') : wpList Try.prog ops Q (o :: rest) act (w.alloc (.cells #[.slice a3 ln c3] 33)) := by
  obtain ⟨i0, hi, hz0, hz1, hz2⟩ := info_parts infoBs
  obtain ⟨h0, xs, h1, h2⟩ := h
  subst hln
  refine wpList_append_own_at _ hgd s x 129 ho B 33 i0 (.slice none 0 0) 1 24 (by kernel_rfl) hi hz0 hz1 hz2 rfl (by decide) v k xs hs (h1.alloc _) ⟨w.heap.size, 0, none⟩ 1 1 [.slice a3 tx.length c3] hx rfl (new_cells w [.slice a3 tx.length c3] _) (fun u hu => by simp at hu; subst hu; rfl) (by unfold maxLen; omega) (by omega) (by simp; omega) (fun v' w' e1 e2 _ e4 => ?_)
  refine hh v' w' ⟨by rw [List.length_append, h0]; rfl, xs ++ [.slice a3 tx.length c3], e1, fun i p hi => ?_⟩ (((below_alloc _ _).mono hB).grown e2 (by simp; omega) (fun b e => (h1.lt b e).1))
  have hxl : xs.length = k := by have := h1.1; omega
  have hne : ∀ (y : Addr) (z : List Int) (ad : Option Addr), RdL w ad z → 0 < z.length → ad = some y → v.ownBlock ≠ some y.block → v'.ownBlock ≠ some y.block := fun y z ad hz hz0 e hn => by
    obtain ⟨b, o, e', hlt⟩ := hz.lt hz0
    rw [e] at e'
    injection e' with e'
    rcases e4 with e4 | e4
    · rw [e4]; exact hn
    · rw [e4]
      intro q
      injection q with q
      rw [World.size_alloc] at q
      rw [e'] at q
      have : w.heap.size + 1 = b := q
      omega
  by_cases hik : i < k
  · rw [List.getElem?_append_left (by omega)] at hi
    obtain ⟨ad, cp, q1, q2, q3⟩ := h2 i p hi
    refine ⟨ad, cp, by rw [List.getElem?_append_left (by omega)]; exact q1, (q2.below (below_alloc _ _)).grown e2 q3, fun hp y hy => hne y p ad q2 hp hy (q3 hp y hy)⟩
  · have hik2 : i = k := by
      have := (List.getElem?_eq_some_iff.1 hi).1
      simp at this
      omega
    subst hik2
    rw [h0, List.getElem?_concat_length] at hi
    injection hi with hi
    subst hi
    exact ⟨a3, c3, by rw [← hxl, List.getElem?_concat_length], (hr.below (below_alloc _ _)).grown e2 hap, fun hp y hy => hne y tx a3 hr hp hy (hap hp y hy)⟩
theorem field_pn (a b c : Value) (W : World) : (Instr.field 61 (.agg #[a, b, c]) 0).run Try.prog W = .ok a W := by kernel_rfl
theorem conv_at (w : World) (C : Array Value) (n c g : Nat) (hg : g = w.heap.size) : (convert 33 33 (.slice (some ⟨g, 0, none⟩) n c)).run Try.prog (w.alloc (.cells C 5)) = .ok (.slice (some ⟨g, 0, none⟩) n c) (w.alloc (.cells C 5 (C.size, C.size + 1))) := by
  subst hg
  exact conv_bb w C n c
theorem lit_rd (w : World) (l : List Int) (C : Array Value) (hC : C = (bv l).toArray) (fr : Nat × Nat) : RdL (w.alloc (.cells C 5 fr)) (some ⟨w.heap.size, 0, none⟩) l := by
  obtain ⟨a, c, e, h, _⟩ := (TxA.lit w l C hC l.length rfl fr).rd
  injection e with e _ _
  rw [e]
  exact h
theorem lit_at (w : World) (l : List Int) (C : Array Value) (hC : C = (bv l).toArray) (fr : Nat × Nat) (g : Nat) (hg : g = w.heap.size) : RdL (w.alloc (.cells C 5 fr)) (some ⟨g, 0, none⟩) l := by
  subst hg
  exact lit_rd w l C hC fr
/-- l2Cat over a row newly built. -/
theorem cat_any (W0 W1 : World) (hb : Below W0.heap.size W0 W1) (PL : List (List Int)) (cs : List Value) (m g L : Nat) (hm : m = PL.length) (hm2 : m ≤ 1000) (hL : L = PL.flatten.length) (hl : L ≤ 1048576) (hg : g = W1.heap.size)
    (hcs : ∀ (i : Nat) (p : List Int), PL[i]? = some p → ∃ (ad : Option Addr) (cp : Nat), cs[i]? = some (.slice ad p.length cp) ∧ RdL W1 ad p) :
    Calls Try.prog 88 #[.slice (some ⟨g, 0, none⟩) m m] (W1.alloc (.cells cs.toArray 33)) (fun e w' => ∃ a' c', e = .returned (.slice a' L c') ∧ RdL w' a' PL.flatten ∧ Below W0.heap.size W0 w' ∧ (0 < PL.flatten.length → ∀ p, a' = some p → W0.heap.size ≤ p.block) ∧ L ≤ c' ∧ c' ≤ 9223372036854775807) := by
  subst hg hL
  refine (l2Cat_l W1.heap.size 0 m m PL _ (rdSL_new W1 PL cs hcs) hm hm2 hl).mono ?_
  rintro e w' ⟨a', c', h1, h2, h3, h4⟩
  have hb2 : Below W0.heap.size W0 (W1.alloc (.cells cs.toArray 33)) := hb.alloc hb.size _
  exact ⟨a', c', h1, h2, hb2.trans (h3.mono hb2.size), fun h0 p hp => Nat.le_trans hb2.size (h4.1 h0 p hp), h4.2⟩
/-- The parts that the operands make. -/
def ptF (I : Nat → Int) (X R : Nat → ByteArray) (k : Int) (i : Nat) (j : Nat) : List Int := wrT k (decide (j = 1)) (I (opf (arI I) i j)) (T I X R (opf (arI I) i j))
def ptL (I : Nat → Int) (X R : Nat → ByteArray) (k : Int) (i : Nat) (j : Nat) : List (List Int) := (List.range j).map (ptF I X R k i)
theorem PtA.get {W : World} {B k : Nat} {v : Value} {PL : List (List Int)} (h : PtA W B v k PL) (hk : 0 < k) : ∃ g cap, v = .slice (some ⟨g, 0, none⟩) k cap ∧ g < W.heap.size ∧ ∀ (i : Nat) (p : List Int), PL[i]? = some p → ∃ (ad : Option Addr) (cp : Nat), W.cell? ⟨g, i, none⟩ = some (.slice ad p.length cp) ∧ RdL W ad p := by
  obtain ⟨h0, xs, h1, h2⟩ := h
  obtain ⟨g, cap, e⟩ := Go.Joins.ownsRow_form h1 hk
  subst e
  refine ⟨g, cap, rfl, (h1.lt g rfl).2, fun i p hi => ?_⟩
  obtain ⟨ad, cp, q1, q2, _⟩ := h2 i p hi
  have q := h1.cells (g := g) rfl i _ q1
  rw [addN3, Nat.zero_add] at q
  exact ⟨ad, cp, q, q2⟩
theorem conv_drew (w : World) (C : Array Value) (n c g : Nat) (hg : g = w.heap.size) : (convert 33 33 (.slice (some ⟨g, 0, none⟩) n c)).run Try.prog (w.alloc (.cells C 5)).drew = .ok (.slice (some ⟨g, 0, none⟩) n c) (w.alloc (.cells C 5 (C.size, C.size + 1))).drew := conv_at w.drew C n c g hg
theorem retL_of {w w' : World} {a : Option Addr} {l : List Int} {n c : Nat} (hn : n = l.length) (hr : RdL w' a l) (hb : Below w.heap.size w w') (hf : 0 < l.length → ∀ p, a = some p → w.heap.size ≤ p.block) (hcc : n ≤ c ∧ c ≤ 9223372036854775807) : RetL w l (.returned (.slice a n c)) w' := by
  subst hn
  exact ⟨a, c, rfl, hr, hb, hf, hcc⟩
set_option maxHeartbeats 8000000 in
theorem l6Show_any {N : Nat} {I : Nat → Int} {X R : Nat → ByteArray} (hv : GdN N I X R) : ∀ (f b o base m c : Nat) (w : World), RdN w (some ⟨b, o, none⟩) (m + 1) (fun i => I (base + i)) (fun i => X (base + i)) (fun i => R (base + i)) → m + 1 ≤ f → f ≤ 1000 → m + 1 ≤ c → c ≤ 9223372036854775807 → base + m < N → Begins (fun i => arOf (I (base + i))) (m + 1) 0 →
    Calls Try.prog 46 #[.slice (some ⟨b, o, none⟩) (m + 1) c] w (RetL w (T I X R (base + m)))
  | 0, b, o, base, m, c, w, _, hf, _, _, _, _, _ => absurd hf (by omega)
  | f + 1, b, o, base, m, c, w, hR, hf, hf2, hc, hcm, hN, hb => by
    have IH : Hid (∀ (b o base m c : Nat) (w : World), RdN w (some ⟨b, o, none⟩) (m + 1) (fun i => I (base + i)) (fun i => X (base + i)) (fun i => R (base + i)) → m + 1 ≤ f → f ≤ 1000 → m + 1 ≤ c → c ≤ 9223372036854775807 → base + m < N → Begins (fun i => arOf (I (base + i))) (m + 1) 0 →
      Calls Try.prog 46 #[.slice (some ⟨b, o, none⟩) (m + 1) c] w (RetL w (T I X R (base + m)))) := l6Show_any hv f
    have HK : Hid (∀ W, Below w.heap.size w W → Calls Try.prog 77 #[.slice (some ⟨b, o, none⟩) (m + 1) c] W (KidsRet (fun i => arOf (I (base + i))) b o c m (arOf (I (base + m))) W)) := fun W hW => l6Kids_any b o m c (fun i => I (base + i)) (fun i => X (base + i)) (fun i => R (base + i)) W (hR.below hW) (by omega) hc hcm hb
    obtain ⟨k, hk⟩ : ∃ k, k = I (base + m) := ⟨_, rfl⟩
    obtain ⟨s, hs⟩ : ∃ s, s = X (base + m) := ⟨_, rfl⟩
    obtain ⟨t, ht⟩ : ∃ t, t = R (base + m) := ⟨_, rfl⟩
    have hg := hv (base + m) hN
    have HRo : Hid (Calls Try.prog 86 #[.slice (some ⟨b, o, none⟩) (m + 1) c] w fun e w' => e = .returned (.agg #[.int .i64 k, .string s, .string t]) ∧ Below w.heap.size w w') := by
      rw [hk, hs, ht]
      exact l6Root_any b o m c _ _ _ w hR (by omega)
    obtain ⟨q, hq⟩ : ∃ q, q = arOf k := ⟨_, rfl⟩
    have hq2 : q ≤ 2 := by rw [hq]; exact arOf_le _
    have HKk : Hid (k = I (base + m) ∧ s = X (base + m) ∧ t = R (base + m) ∧ q = arOf k ∧ (1 ≤ k ∧ k ≤ 9) ∧ s.size ≤ 31 ∧ t.size ≤ 31) := ⟨hk, hs, ht, hq, by rw [hk]; exact hg.1, by rw [hs]; exact hg.2.1, by rw [ht]; exact hg.2.2⟩
    rw [← hk, ← hq] at HK
    have HR : Hid (RdN w (some ⟨b, o, none⟩) (m + 1) (fun i => I (base + i)) (fun i => X (base + i)) (fun i => R (base + i)) ∧ Begins (fun i => arOf (I (base + i))) (m + 1) 0) := ⟨hR, hb⟩
    have hsz : s.size ≤ 31 := HKk.out.2.2.2.2.2.1
    have htz : t.size ≤ 31 := HKk.out.2.2.2.2.2.2
    have HL : Hid ((T I X R (base + m)).length ≤ 300 * (m + 1)) := T_len hv (f + 1) base m hf hN hb
    clear hR hb hk hs ht hg hq
    obtain ⟨i0, hi, hz0, hz1, hz2⟩ := info_parts infoBs
    have HI : Hid (Try.prog.info? 33 = some i0 ∧ i0.zero = some (.slice none 0 0) ∧ i0.size = 1 ∧ i0.bytes = 24) := ⟨hi, hz0, hz1, hz2⟩
    clear hi hz0 hz1 hz2
    go_enter Try.func46, Try.ntmps46
    go_wp2_with fail
    refine HRo.out.mono ?_
    rintro e w1 ⟨rfl, hb1⟩
    have HB1 : Hid (Below w.heap.size w (w1.alloc (.cells #[.int .i64 k, .string s, .string t] 61))) := hb1.trans ((below_alloc _ _).mono hb1.size)
    clear hb1 HRo
    go_wp2_with fail
    refine (HK.out _ HB1.out).mono ?_
    rintro e w2 ⟨v, r, ks, rfl, hko, hka, hb2⟩
    obtain ⟨go, cpo, rfl, hks⟩ := hka
    have hlen := hko.len
    have HKT : Hid (∀ i, i < q → ∃ o' n' c' base', ks[i]? = some (.slice (some ⟨b, o', none⟩) (n' + 1) c') ∧ RdN w (some ⟨b, o', none⟩) (n' + 1) (fun i => I (base' + i)) (fun i => X (base' + i)) (fun i => R (base' + i)) ∧ Begins (fun i => arOf (I (base' + i))) (n' + 1) 0 ∧ n' + 1 ≤ m ∧ n' + 1 ≤ c' ∧ c' ≤ c ∧ base' + n' = opf (arI I) (base + m) i ∧ base' + n' < base + m) := by
      have e : q = arOf (I (base + m)) := by rw [HKk.out.2.2.2.1, HKk.out.1]
      rw [e] at hko ⊢
      exact kids_text hko HR.out.1 hc HR.out.2
    have HKS : Hid (∀ i x, ks[i]? = some x → w2.cell? ⟨go, i, none⟩ = some x) := hks
    have HB2 : Hid (Below w.heap.size w w2) := HB1.out.trans (hb2.mono HB1.out.size)
    have hz1 : w1.heap.size < w2.heap.size := by have := hb2.size; simp at this; omega
    have HBx : Hid (w2.cell? ⟨w1.heap.size, 0, none⟩ = some (.int .i64 k) ∧ w2.cell? ⟨w1.heap.size, 1, none⟩ = some (.string s) ∧ w2.cell? ⟨w1.heap.size, 2, none⟩ = some (.string t)) := by
      have hc2 : ∀ j, w2.cell? ⟨w1.heap.size, j, none⟩ = (w1.alloc (.cells #[.int .i64 k, .string s, .string t] 61)).cell? ⟨w1.heap.size, j, none⟩ := fun j => hb2.cell (by simp)
      have hh : (w1.alloc (.cells #[.int .i64 k, .string s, .string t] 61)).heap[w1.heap.size]? = some (.cells #[.int .i64 k, .string s, .string t] 61) := Array.getElem?_push_size
      refine ⟨?_, ?_, ?_⟩ <;> (rw [hc2]; unfold World.cell?; rw [hh]; rfl)
    obtain ⟨b3, hb3⟩ : ∃ b3, b3 = w1.heap.size := ⟨_, rfl⟩
    rw [← hb3] at HBx hz1 ⊢
    rw [hlen]
    clear hko hks hb2 hlen HK HB1 hb3
    go_wp2
    go_loopw [5, 6, 7] (fun u i _ wr => ∃ j : Nat, j ≤ q ∧ i = .int .i64 j ∧ PtA wr w2.heap.size u j (ptL I X R k (base + m) j) ∧ Below w2.heap.size w2 wr) (fun _ i _ _ => q - (intOf i).toNat)
    case atStart => exact ⟨0, Nat.zero_le _, rfl, ⟨rfl, [], World.ownsRow_lit w2 #[] 0 (Nat.le_refl _) (Nat.zero_le _) rfl, fun i p h => by cases h⟩, below_alloc _ _⟩
    case round =>
      obtain ⟨j, hj, rfl, hpt, hbr⟩ := hrel
      have HPt : Hid (PtA wr w2.heap.size u5 j (ptL I X R k (base + m) j) ∧ Below w2.heap.size w2 wr) := ⟨hpt, hbr⟩
      have HW : Hid (Below w.heap.size w wr) := HB2.out.trans (hbr.mono HB2.out.size)
      have hzr := hbr.size
      clear hpt hbr
      by_cases hlt : j < q
      · obtain ⟨o', n', c', base', h1, h2, h3, h4, h5, h6, h7, h8⟩ := HKT.out j hlt
        have hc1 : wr.cell? ⟨go, j, none⟩ = some (.slice (some ⟨b, o', none⟩) (n' + 1) c') := (HPt.out.2.cell (p := ⟨go, j, none⟩) (World.block_lt_of_cell? _ _ (HKS.out j _ h1))).trans (HKS.out j _ h1)
        obtain ⟨tx, htx⟩ : ∃ tx, tx = T I X R (base' + n') := ⟨_, rfl⟩
        obtain ⟨ln, hln⟩ : ∃ ln, ln = tx.length := ⟨_, rfl⟩
        have HC : Hid (Calls Try.prog 46 #[.slice (some ⟨b, o', none⟩) (n' + 1) c'] wr (fun e w' => ∃ a' c', e = .returned (.slice a' ln c') ∧ RdL w' a' tx ∧ Below wr.heap.size wr w' ∧ (0 < tx.length → ∀ p, a' = some p → wr.heap.size ≤ p.block) ∧ ln ≤ c' ∧ c' ≤ 9223372036854775807)) := by
          rw [hln, htx]
          exact IH.out b o' base' n' c' wr (h2.below HW.out) (by omega) (by omega) h5 (by omega) (by omega) h3
        obtain ⟨kk, hkk⟩ : ∃ kk, kk = I (base' + n') := ⟨_, rfl⟩
        have HRt : Hid (∀ W, Below wr.heap.size wr W → Calls Try.prog 86 #[.slice (some ⟨b, o', none⟩) (n' + 1) c'] W fun e w' => ∃ x y, e = .returned (.agg #[.int .i64 kk, .string x, .string y]) ∧ Below W.heap.size W w') := fun W hW => by
          rw [hkk]
          exact (l6Root_any b o' n' c' _ _ _ W ((h2.below HW.out).below hW) (by omega)).mono fun e w' ⟨q1, q2⟩ => ⟨_, _, q1, q2⟩
        obtain ⟨jb, hjb⟩ : ∃ jb : Bool, jb = decide (j = 1) := ⟨_, rfl⟩
        have hjb1 : ((j : Int) == 1) = jb := by
          rw [hjb]
          by_cases e : j = 1
          · subst e; rfl
          · rw [decide_eq_false e]
            have : ¬ (j : Int) = 1 := by omega
            simp [this]
        have hk39 : 3 ≤ k ∧ k ≤ 9 := by
          have h1 := HKk.out.2.2.2.1
          have h2 := HKk.out.2.2.2.2.1
          unfold arOf at h1
          split at h1 <;> omega
        obtain ⟨wb, hwb⟩ : ∃ wb, wb = wrB k jb (sB kk) := ⟨_, rfl⟩
        have HWr : Hid (∀ W : World, Calls Try.prog 87 #[.int .i64 k, .bool jb, .int .i64 kk] W fun e w' => e = .returned (.bool wb) ∧ w' = W) := fun W => by
          rw [hwb]
          exact l6Wrapped_any k kk jb W hk39
        have HP : Hid (ptF I X R k (base + m) j = (if wb = true then [[40], tx, [41]].flatten else tx) ∧ ln = tx.length ∧ ln ≤ 300 * 1000) := by
          refine ⟨?_, hln, ?_⟩
          · unfold ptF wrT
            rw [← h7, ← hjb, ← htx, ← hkk, ← hwb]
          · have := T_len hv f base' n' (by omega) (by omega) h3
            rw [hln, htx]
            omega
        have ik : (j : Int) < (q : Int) := by omega
        have ik0 : (0 : Int) ≤ (j : Int) := by omega
        clear h1 h2 h3 h4 h5 h6 h7 h8 hln htx hkk hjb hk39 hwb
        go_wp2_with fail
        refine HC.out.mono ?_
        rintro e w3 ⟨a3, c3, rfl, hr3, hb3, hf3, hc3⟩
        have H3 : Hid (RdL w3 a3 tx ∧ Below wr.heap.size wr w3 ∧ (0 < tx.length → ∀ p, a3 = some p → wr.heap.size ≤ p.block)) := ⟨hr3, hb3, hf3⟩
        have hc2 : w3.cell? ⟨go, j, none⟩ = some (.slice (some ⟨b, o', none⟩) (n' + 1) c') := (hb3.cell (p := ⟨go, j, none⟩) (World.block_lt_of_cell? _ _ hc1)).trans hc1
        have hbx0 : w3.cell? ⟨b3, 0, none⟩ = some (.int .i64 k) := (hb3.cell (p := ⟨b3, 0, none⟩) (by show b3 < _; omega)).trans ((HPt.out.2.cell (p := ⟨b3, 0, none⟩) (by show b3 < _; omega)).trans HBx.out.1)
        clear hr3 hb3 hf3 hc3 hc1 HC
        have fpn := field_pn
        go_wp2
        go_cut [35] from 25 to 35 (fun s35 wx => s35 = .bool wb ∧ Below w3.heap.size w3 wx)
        case first =>
          go_region_with (first
            | (go_at_call 86; (with_reducible refine (HRt.out _ (H3.out.2.1.drew)).mono ?_); rintro e w4 ⟨x4, y4, rfl, hb4⟩; have H4 : Hid (Below w3.heap.size w3 w4) := below_undrew hb4; have hbx1 := (H4.out.cell (p := ⟨b3, 0, none⟩) (World.block_lt_of_cell? _ _ hbx0)).trans hbx0; clear hb4)
            | (go_at_call 87; (with_reducible refine (HWr.out _).mono ?_); rintro e w5 ⟨rfl, hw5⟩; subst hw5))
          all_goals
            go_wp2
            go_meet
            case rel => exact ⟨rfl, H4.out⟩
        case rest =>
        obtain ⟨w4, rfl⟩ : ∃ x, x = wc := ⟨_, rfl⟩
        obtain ⟨rfl, hb4⟩ := hcut
        have H4 : Hid (RdL w4 a3 tx ∧ Below w2.heap.size w2 w4 ∧ PtA w4 w2.heap.size u5 j (ptL I X R k (base + m) j) ∧ (0 < tx.length → ∀ y, a3 = some y → u5.ownBlock ≠ some y.block) ∧ ∀ (b' : Nat), u5.ownBlock = some b' → b' < w4.heap.size) := by
          have q1 : Below wr.heap.size wr w4 := H3.out.2.1.trans (hb4.mono H3.out.2.1.size)
          refine ⟨H3.out.1.below hb4, HPt.out.2.trans (q1.mono HPt.out.2.size), HPt.out.1.below q1, fun h0 y hy e => ?_, fun b' e => ?_⟩
          · obtain ⟨_, xs, h1, _⟩ := HPt.out.1
            have := (h1.lt _ e).2
            have := H3.out.2.2 h0 y hy
            omega
          · obtain ⟨_, xs, h1, _⟩ := HPt.out.1
            have := (h1.lt _ e).2
            have := q1.size
            omega
        have hz4 : w2.heap.size ≤ w4.heap.size := H4.out.2.1.size
        have hj2 : j ≤ 1000 := by omega
        have HN1 : Hid (ptL I X R k (base + m) (j + 1) = ptL I X R k (base + m) j ++ [ptF I X R k (base + m) j]) := by show _ = _; unfold ptL; rw [List.range_succ, List.map_append]; rfl
        clear hb4 H3 HPt hc2 hbx0 HRt HWr
        cases wb with
        | false =>
          go_wp2_with (at_builtin; refine pt_app rfl _ _ rfl w2.heap.size u5 j _ rfl H4.out.2.2.1 rfl a3 ln c3 tx HP.out.2.1 H4.out.1 H4.out.2.2.2.1 hj2 hz4 ?_)
          intro v' w6 hp6 hb6
          have HX : Hid (PtA w6 w2.heap.size v' (j + 1) (ptL I X R k (base + m) (j + 1)) ∧ Below w2.heap.size w2 w6) := by
            rw [HN1.out, HP.out.1]
            exact ⟨hp6, H4.out.2.1.trans hb6⟩
          clear hp6 hb6 H4
          go_wp2
          go_roundw
          case rel => exact ⟨j + 1, by omega, by go_num, HX.out⟩
          case measure => simp [intOf]; omega
        | true =>
          have cv := conv_at
          obtain ⟨L2, hL2⟩ : ∃ L2, L2 = ([[40], tx, [41]].flatten).length := ⟨_, rfl⟩
          have HCt : Hid (Calls Try.prog 88 #[.slice (some ⟨w4.heap.size + 1 + 1, 0, none⟩) 3 3] (((w4.alloc (.cells #[.int .u8 40] 5 (1, 2))).alloc (.cells #[.int .u8 41] 5 (1, 2))).alloc (.cells #[.slice (some ⟨w4.heap.size, 0, none⟩) 1 1, .slice a3 ln c3, .slice (some ⟨w4.heap.size + 1, 0, none⟩) 1 1] 33)) (fun e w' => ∃ a' c', e = .returned (.slice a' L2 c') ∧ RdL w' a' [[40], tx, [41]].flatten ∧ Below w4.heap.size w4 w' ∧ (0 < [[40], tx, [41]].flatten.length → ∀ p, a' = some p → w4.heap.size ≤ p.block) ∧ L2 ≤ c' ∧ c' ≤ 9223372036854775807)) := by
            have b1 : Below w4.heap.size w4 (w4.alloc (.cells #[.int .u8 40] 5 (1, 2))) := below_alloc _ _
            have b2 : Below (w4.alloc (.cells #[.int .u8 40] 5 (1, 2))).heap.size (w4.alloc (.cells #[.int .u8 40] 5 (1, 2))) ((w4.alloc (.cells #[.int .u8 40] 5 (1, 2))).alloc (.cells #[.int .u8 41] 5 (1, 2))) := below_alloc _ _
            refine cat_any w4 _ (b1.trans (b2.mono b1.size)) [[40], tx, [41]] [.slice (some ⟨w4.heap.size, 0, none⟩) 1 1, .slice a3 ln c3, .slice (some ⟨w4.heap.size + 1, 0, none⟩) 1 1] 3 _ L2 rfl (by omega) hL2 ?_ (by simp) (fun i p hi => ?_)
            · rw [hL2]
              have := HP.out.2.1
              have := HP.out.2.2
              simp
              omega
            · match i, hi with
              | 0, hi =>
                injection hi with hi
                subst hi
                exact ⟨_, _, rfl, (lit_rd w4 [40] _ rfl (1, 2)).below b2⟩
              | 1, hi =>
                injection hi with hi
                subst hi
                exact ⟨_, c3, by rw [← HP.out.2.1]; rfl, (H4.out.1.below b1).below b2⟩
              | 2, hi =>
                injection hi with hi
                subst hi
                exact ⟨_, _, rfl, lit_at _ [41] _ rfl (1, 2) _ (by simp)⟩
              | n + 3, hi => cases hi
          go_wp2_with fail
          refine HCt.out.mono ?_
          rintro e w6 ⟨a6, c6, rfl, hr6, hb6, hf6, hc6⟩
          have H6 : Hid (RdL w6 a6 [[40], tx, [41]].flatten ∧ Below w2.heap.size w2 w6 ∧ PtA w6 w2.heap.size u5 j (ptL I X R k (base + m) j) ∧ (0 < [[40], tx, [41]].flatten.length → ∀ y, a6 = some y → u5.ownBlock ≠ some y.block)) := by
            refine ⟨hr6, H4.out.2.1.trans (hb6.mono H4.out.2.1.size), H4.out.2.2.1.below hb6, fun h0 y hy e => ?_⟩
            have := hf6 h0 y hy
            have := H4.out.2.2.2.2 _ e
            omega
          have hz6 : w2.heap.size ≤ w6.heap.size := H6.out.2.1.size
          have HPw : Hid (ptF I X R k (base + m) j = [[40], tx, [41]].flatten) := by
            have := HP.out.1
            show _ = _
            simpa using this
          have HL2 : Hid (L2 = [[40], tx, [41]].flatten.length) := hL2
          clear hr6 hb6 hf6 hc6 HCt H4 HP hL2
          go_wp2_with (at_builtin; refine pt_app rfl _ _ rfl w2.heap.size u5 j _ rfl H6.out.2.2.1 rfl a6 L2 c6 [[40], tx, [41]].flatten HL2.out H6.out.1 H6.out.2.2.2 hj2 hz6 ?_)
          intro v' w7 hp7 hb7
          have HX : Hid (PtA w7 w2.heap.size v' (j + 1) (ptL I X R k (base + m) (j + 1)) ∧ Below w2.heap.size w2 w7) := by
            rw [HN1.out, HPw.out]
            exact ⟨hp7, H6.out.2.1.trans hb7⟩
          clear hp7 hb7 H6
          go_wp2
          go_roundw
          case rel => exact ⟨j + 1, by omega, by go_num, HX.out⟩
          case measure => simp [intOf]; omega
      · have e : j = q := by omega
        subst e
        have hnlt : ¬ (j : Int) < (j : Int) := by omega
        have HQs : Hid (Calls Try.prog 89 #[.string s] wr (RetL wr (qL (bl s)))) := l6Quote_any s wr (by omega)
        obtain ⟨qs, hqs⟩ : ∃ qs, qs = qL (bl s) := ⟨_, rfl⟩
        obtain ⟨lq, hlq⟩ : ∃ lq, lq = qs.length := ⟨_, rfl⟩
        have HQl : Hid (lq = qs.length ∧ qs = qL (bl s) ∧ lq ≤ 126) := ⟨hlq, hqs, by rw [hlq, hqs]; exact qL_length1 s hsz⟩
        have HT : Hid (T I X R (base + m) = (nodeP k s t (T I X R (opf (arI I) (base + m) 0)) (I (opf (arI I) (base + m) 0)) (T I X R (opf (arI I) (base + m) 1)) (I (opf (arI I) (base + m) 1))).flatten) := by
          show _ = _
          rw [T_eq, ← HKk.out.1, ← HKk.out.2.1, ← HKk.out.2.2.1]
          unfold nodeT
          refine congrArg List.flatten (nodeT_arity s t HKk.out.2.2.2.2.1 (fun h => ⟨?_, rfl⟩) (fun h => ⟨?_, rfl⟩))
          · obtain ⟨_, _, _, _, _, _, _, _, _, _, h7, h8⟩ := HKT.out 0 (by rw [HKk.out.2.2.2.1]; omega)
            rw [dif_pos (by omega)]
          · obtain ⟨_, _, _, _, _, _, _, _, _, _, h7, h8⟩ := HKT.out 1 (by rw [HKk.out.2.2.2.1]; omega)
            rw [dif_pos (by omega)]
        have hbx0 : wr.cell? ⟨b3, 0, none⟩ = some (.int .i64 k) := (HPt.out.2.cell (p := ⟨b3, 0, none⟩) (by show b3 < _; omega)).trans HBx.out.1
        have hbx1 : wr.cell? ⟨b3, 1, none⟩ = some (.string s) := (HPt.out.2.cell (p := ⟨b3, 1, none⟩) (by show b3 < _; omega)).trans HBx.out.2.1
        have hbx2 : wr.cell? ⟨b3, 2, none⟩ = some (.string t) := (HPt.out.2.cell (p := ⟨b3, 2, none⟩) (by show b3 < _; omega)).trans HBx.out.2.2
        rw [← hqs] at HQs
        clear HKT HKS HB2 hqs hlq IH
        go_wp2_with fail
        refine HQs.out.mono ?_
        rintro e w5 ⟨a5, c5, rfl, hr5, hb5, hf5, hc5⟩
        rw [← HQl.out.1]
        have H5 : Hid (RdL w5 a5 qs ∧ PtA w5 w2.heap.size u5 j (ptL I X R k (base + m) j) ∧ Below w.heap.size w w5) := ⟨hr5, HPt.out.1.below hb5, HW.out.trans (hb5.mono HW.out.size)⟩
        have hby0 : w5.cell? ⟨b3, 0, none⟩ = some (.int .i64 k) := (hb5.cell (p := ⟨b3, 0, none⟩) (by show b3 < _; omega)).trans hbx0
        have hby2 : w5.cell? ⟨b3, 2, none⟩ = some (.string t) := (hb5.cell (p := ⟨b3, 2, none⟩) (by show b3 < _; omega)).trans hbx2
        have hz5 : b3 < w5.heap.size := by have := hb5.size; omega
        clear hr5 hb5 hf5 hc5 HQs hbx0 hbx1 hbx2 HPt HW HBx
        have cv := conv_at
        have h9 := HKk.out.2.2.2.2.1
        have hjk : j = arOf k := HKk.out.2.2.2.1
        have HLt : Hid ((T I X R (base + m)).length ≤ 300000) := by have := HL.out; show _ ≤ _; omega
        have h9' : k = 1 ∨ k = 2 ∨ k = 3 ∨ k = 4 ∨ k = 5 ∨ k = 6 ∨ k = 7 ∨ k = 8 ∨ k = 9 := by omega
        clear HKk h9 HL
        rcases h9' with rfl | rfl | rfl | rfl | rfl | rfl | rfl | rfl | rfl
        · have HE : Hid (T I X R (base + m) = [97, 108, 108]) := by
            show _ = _
            rw [HT.out]
            rfl
          have HF : Hid (RetL w (T I X R (base + m)) (.returned (.slice (some ⟨w5.heap.size, 0, none⟩) 3 3)) (w5.alloc (.cells #[.int .u8 97, .int .u8 108, .int .u8 108] 5 (3, 4)))) := by
            rw [HE.out]
            refine retL_of rfl (lit_rd w5 [97, 108, 108] _ rfl (3, 4)) (H5.out.2.2.alloc H5.out.2.2.size _) (fun _ p hp => ?_) ⟨Nat.le_refl _, by omega⟩
            injection hp with hp
            rw [← hp]
            exact H5.out.2.2.size
          go_wp2
          go_ret
          exact HF.out
        · have HE : Hid (T I X R (base + m) = [[118, 40], qs, [41]].flatten) := by
            show _ = _
            rw [HT.out, HQl.out.2.1]
            rfl
          obtain ⟨L6, hL6⟩ : ∃ L6, L6 = [[118, 40], qs, [41]].flatten.length := ⟨_, rfl⟩
          have HL6 : Hid (L6 = [[118, 40], qs, [41]].flatten.length ∧ L6 ≤ 300000) := ⟨hL6, by rw [hL6, ← HE.out]; exact HLt.out⟩
          clear hL6
          have HCt : Hid (Calls Try.prog 88 #[.slice (some ⟨w5.heap.size + 1 + 1, 0, none⟩) 3 3] (((w5.alloc (.cells #[.int .u8 118, .int .u8 40] 5 (2, 3))).alloc (.cells #[.int .u8 41] 5 (1, 2))).alloc (.cells #[.slice (some ⟨w5.heap.size, 0, none⟩) 2 2, .slice a5 lq c5, .slice (some ⟨w5.heap.size + 1, 0, none⟩) 1 1] 33)) (fun e w' => ∃ a' c', e = .returned (.slice a' L6 c') ∧ RdL w' a' [[118, 40], qs, [41]].flatten ∧ Below w5.heap.size w5 w' ∧ (0 < [[118, 40], qs, [41]].flatten.length → ∀ p, a' = some p → w5.heap.size ≤ p.block) ∧ L6 ≤ c' ∧ c' ≤ 9223372036854775807)) := by
            have hW1 : Below w5.heap.size w5 ((w5.alloc (.cells #[.int .u8 118, .int .u8 40] 5 (2, 3))).alloc (.cells #[.int .u8 41] 5 (1, 2))) := (((Below.refl _ _).alloc (by simp; try omega) _).alloc (by simp; try omega) _)
            refine cat_any w5 ((w5.alloc (.cells #[.int .u8 118, .int .u8 40] 5 (2, 3))).alloc (.cells #[.int .u8 41] 5 (1, 2))) hW1 [[118, 40], qs, [41]] [.slice (some ⟨w5.heap.size, 0, none⟩) 2 2, .slice a5 lq c5, .slice (some ⟨w5.heap.size + 1, 0, none⟩) 1 1] 3 _ L6 rfl (by omega) HL6.out.1 (by have := HL6.out.2; omega) (by simp) (fun i p hi => ?_)
            match i, hi with
            | 0, hi =>
              injection hi with hi
              subst hi
              exact ⟨_, _, rfl, (lit_at w5 [118, 40] _ rfl _ _ (by simp)).below (below_alloc _ _)⟩
            | 1, hi =>
              injection hi with hi
              subst hi
              exact ⟨_, c5, by rw [← HQl.out.1]; rfl, H5.out.1.below hW1⟩
            | 2, hi =>
              injection hi with hi
              subst hi
              exact ⟨_, _, rfl, lit_at (w5.alloc (.cells #[.int .u8 118, .int .u8 40] 5 (2, 3))) [41] _ rfl _ _ (by simp)⟩
            | n + 3, hi => cases hi
          go_wp2_with fail
          refine HCt.out.mono ?_
          rintro e w6 ⟨a6, c6, rfl, hr6, hb6, hf6, hc6⟩
          have HF : Hid (RetL w (T I X R (base + m)) (.returned (.slice a6 L6 c6)) w6) := by
            rw [HE.out]
            exact retL_of HL6.out.1 hr6 (H5.out.2.2.trans (hb6.mono H5.out.2.2.size)) (fun h0 p hp => Nat.le_trans H5.out.2.2.size (hf6 h0 p hp)) hc6
          clear hr6 hb6 hf6 hc6
          go_wp2
          go_ret
          exact HF.out
        · have hj1 : j = 1 := hjk
          subst hj1
          clear hjk
          obtain ⟨g5, cap5, hu5, hg5, hcell5⟩ := H5.out.2.1.get (by omega)
          subst hu5
          obtain ⟨p0, hp0⟩ : ∃ p0, p0 = ptF I X R 3 (base + m) 0 := ⟨_, rfl⟩
          obtain ⟨ad0, cp0, hc0, hr0⟩ := hcell5 0 p0 (by rw [hp0]; rfl)
          obtain ⟨l0, hl0⟩ : ∃ l0, l0 = p0.length := ⟨_, rfl⟩
          rw [← hl0] at hc0
          have HP0 : Hid (RdL w5 ad0 p0 ∧ l0 = p0.length ∧ p0 = ptF I X R 3 (base + m) 0) := ⟨hr0, hl0, hp0⟩
          clear hcell5 hr0 hl0 hp0
          have HE : Hid (T I X R (base + m) = [p0, [46, 111, 117, 116, 40], qs, [41]].flatten) := by
            show _ = _
            rw [HT.out, HQl.out.2.1, HP0.out.2.2]
            rfl
          obtain ⟨L6, hL6⟩ : ∃ L6, L6 = [p0, [46, 111, 117, 116, 40], qs, [41]].flatten.length := ⟨_, rfl⟩
          have HL6 : Hid (L6 = [p0, [46, 111, 117, 116, 40], qs, [41]].flatten.length ∧ L6 ≤ 300000) := ⟨hL6, by rw [hL6, ← HE.out]; exact HLt.out⟩
          clear hL6
          have HCt : Hid (Calls Try.prog 88 #[.slice (some ⟨w5.heap.size + 1 + 1, 0, none⟩) 4 4] (((w5.alloc (.cells #[.int .u8 46, .int .u8 111, .int .u8 117, .int .u8 116, .int .u8 40] 5 (5, 6))).alloc (.cells #[.int .u8 41] 5 (1, 2))).alloc (.cells #[.slice ad0 l0 cp0, .slice (some ⟨w5.heap.size, 0, none⟩) 5 5, .slice a5 lq c5, .slice (some ⟨w5.heap.size + 1, 0, none⟩) 1 1] 33)) (fun e w' => ∃ a' c', e = .returned (.slice a' L6 c') ∧ RdL w' a' [p0, [46, 111, 117, 116, 40], qs, [41]].flatten ∧ Below w5.heap.size w5 w' ∧ (0 < [p0, [46, 111, 117, 116, 40], qs, [41]].flatten.length → ∀ p, a' = some p → w5.heap.size ≤ p.block) ∧ L6 ≤ c' ∧ c' ≤ 9223372036854775807)) := by
            have hW1 : Below w5.heap.size w5 ((w5.alloc (.cells #[.int .u8 46, .int .u8 111, .int .u8 117, .int .u8 116, .int .u8 40] 5 (5, 6))).alloc (.cells #[.int .u8 41] 5 (1, 2))) := (((Below.refl _ _).alloc (by simp; try omega) _).alloc (by simp; try omega) _)
            refine cat_any w5 ((w5.alloc (.cells #[.int .u8 46, .int .u8 111, .int .u8 117, .int .u8 116, .int .u8 40] 5 (5, 6))).alloc (.cells #[.int .u8 41] 5 (1, 2))) hW1 [p0, [46, 111, 117, 116, 40], qs, [41]] [.slice ad0 l0 cp0, .slice (some ⟨w5.heap.size, 0, none⟩) 5 5, .slice a5 lq c5, .slice (some ⟨w5.heap.size + 1, 0, none⟩) 1 1] 4 _ L6 rfl (by omega) HL6.out.1 (by have := HL6.out.2; omega) (by simp) (fun i p hi => ?_)
            match i, hi with
            | 0, hi =>
              injection hi with hi
              subst hi
              exact ⟨_, cp0, by rw [← HP0.out.2.1]; rfl, HP0.out.1.below hW1⟩
            | 1, hi =>
              injection hi with hi
              subst hi
              exact ⟨_, _, rfl, (lit_at w5 [46, 111, 117, 116, 40] _ rfl _ _ (by simp)).below (below_alloc _ _)⟩
            | 2, hi =>
              injection hi with hi
              subst hi
              exact ⟨_, c5, by rw [← HQl.out.1]; rfl, H5.out.1.below hW1⟩
            | 3, hi =>
              injection hi with hi
              subst hi
              exact ⟨_, _, rfl, lit_at (w5.alloc (.cells #[.int .u8 46, .int .u8 111, .int .u8 117, .int .u8 116, .int .u8 40] 5 (5, 6))) [41] _ rfl _ _ (by simp)⟩
            | n + 4, hi => cases hi
          go_wp2_with fail
          refine HCt.out.mono ?_
          rintro e w6 ⟨a6, c6, rfl, hr6, hb6, hf6, hc6⟩
          have HF : Hid (RetL w (T I X R (base + m)) (.returned (.slice a6 L6 c6)) w6) := by
            rw [HE.out]
            exact retL_of HL6.out.1 hr6 (H5.out.2.2.trans (hb6.mono H5.out.2.2.size)) (fun h0 p hp => Nat.le_trans H5.out.2.2.size (hf6 h0 p hp)) hc6
          clear hr6 hb6 hf6 hc6
          go_wp2
          go_ret
          exact HF.out
        · have hj1 : j = 1 := hjk
          subst hj1
          clear hjk
          obtain ⟨g5, cap5, hu5, hg5, hcell5⟩ := H5.out.2.1.get (by omega)
          subst hu5
          obtain ⟨p0, hp0⟩ : ∃ p0, p0 = ptF I X R 4 (base + m) 0 := ⟨_, rfl⟩
          obtain ⟨ad0, cp0, hc0, hr0⟩ := hcell5 0 p0 (by rw [hp0]; rfl)
          obtain ⟨l0, hl0⟩ : ∃ l0, l0 = p0.length := ⟨_, rfl⟩
          rw [← hl0] at hc0
          have HP0 : Hid (RdL w5 ad0 p0 ∧ l0 = p0.length ∧ p0 = ptF I X R 4 (base + m) 0) := ⟨hr0, hl0, hp0⟩
          clear hcell5 hr0 hl0 hp0
          have HE : Hid (T I X R (base + m) = [p0, [46, 105, 110, 40], qs, [41]].flatten) := by
            show _ = _
            rw [HT.out, HQl.out.2.1, HP0.out.2.2]
            rfl
          obtain ⟨L6, hL6⟩ : ∃ L6, L6 = [p0, [46, 105, 110, 40], qs, [41]].flatten.length := ⟨_, rfl⟩
          have HL6 : Hid (L6 = [p0, [46, 105, 110, 40], qs, [41]].flatten.length ∧ L6 ≤ 300000) := ⟨hL6, by rw [hL6, ← HE.out]; exact HLt.out⟩
          clear hL6
          have HCt : Hid (Calls Try.prog 88 #[.slice (some ⟨w5.heap.size + 1 + 1, 0, none⟩) 4 4] (((w5.alloc (.cells #[.int .u8 46, .int .u8 105, .int .u8 110, .int .u8 40] 5 (4, 5))).alloc (.cells #[.int .u8 41] 5 (1, 2))).alloc (.cells #[.slice ad0 l0 cp0, .slice (some ⟨w5.heap.size, 0, none⟩) 4 4, .slice a5 lq c5, .slice (some ⟨w5.heap.size + 1, 0, none⟩) 1 1] 33)) (fun e w' => ∃ a' c', e = .returned (.slice a' L6 c') ∧ RdL w' a' [p0, [46, 105, 110, 40], qs, [41]].flatten ∧ Below w5.heap.size w5 w' ∧ (0 < [p0, [46, 105, 110, 40], qs, [41]].flatten.length → ∀ p, a' = some p → w5.heap.size ≤ p.block) ∧ L6 ≤ c' ∧ c' ≤ 9223372036854775807)) := by
            have hW1 : Below w5.heap.size w5 ((w5.alloc (.cells #[.int .u8 46, .int .u8 105, .int .u8 110, .int .u8 40] 5 (4, 5))).alloc (.cells #[.int .u8 41] 5 (1, 2))) := (((Below.refl _ _).alloc (by simp; try omega) _).alloc (by simp; try omega) _)
            refine cat_any w5 ((w5.alloc (.cells #[.int .u8 46, .int .u8 105, .int .u8 110, .int .u8 40] 5 (4, 5))).alloc (.cells #[.int .u8 41] 5 (1, 2))) hW1 [p0, [46, 105, 110, 40], qs, [41]] [.slice ad0 l0 cp0, .slice (some ⟨w5.heap.size, 0, none⟩) 4 4, .slice a5 lq c5, .slice (some ⟨w5.heap.size + 1, 0, none⟩) 1 1] 4 _ L6 rfl (by omega) HL6.out.1 (by have := HL6.out.2; omega) (by simp) (fun i p hi => ?_)
            match i, hi with
            | 0, hi =>
              injection hi with hi
              subst hi
              exact ⟨_, cp0, by rw [← HP0.out.2.1]; rfl, HP0.out.1.below hW1⟩
            | 1, hi =>
              injection hi with hi
              subst hi
              exact ⟨_, _, rfl, (lit_at w5 [46, 105, 110, 40] _ rfl _ _ (by simp)).below (below_alloc _ _)⟩
            | 2, hi =>
              injection hi with hi
              subst hi
              exact ⟨_, c5, by rw [← HQl.out.1]; rfl, H5.out.1.below hW1⟩
            | 3, hi =>
              injection hi with hi
              subst hi
              exact ⟨_, _, rfl, lit_at (w5.alloc (.cells #[.int .u8 46, .int .u8 105, .int .u8 110, .int .u8 40] 5 (4, 5))) [41] _ rfl _ _ (by simp)⟩
            | n + 4, hi => cases hi
          go_wp2_with fail
          refine HCt.out.mono ?_
          rintro e w6 ⟨a6, c6, rfl, hr6, hb6, hf6, hc6⟩
          have HF : Hid (RetL w (T I X R (base + m)) (.returned (.slice a6 L6 c6)) w6) := by
            rw [HE.out]
            exact retL_of HL6.out.1 hr6 (H5.out.2.2.trans (hb6.mono H5.out.2.2.size)) (fun h0 p hp => Nat.le_trans H5.out.2.2.size (hf6 h0 p hp)) hc6
          clear hr6 hb6 hf6 hc6
          go_wp2
          go_ret
          exact HF.out
        · have hj1 : j = 1 := hjk
          subst hj1
          clear hjk
          obtain ⟨g5, cap5, hu5, hg5, hcell5⟩ := H5.out.2.1.get (by omega)
          subst hu5
          obtain ⟨p0, hp0⟩ : ∃ p0, p0 = ptF I X R 5 (base + m) 0 := ⟨_, rfl⟩
          obtain ⟨ad0, cp0, hc0, hr0⟩ := hcell5 0 p0 (by rw [hp0]; rfl)
          obtain ⟨l0, hl0⟩ : ∃ l0, l0 = p0.length := ⟨_, rfl⟩
          rw [← hl0] at hc0
          have HE : Hid (T I X R (base + m) = [p0, [46, 104, 97, 115, 40], qs, [44, 32], qL (bl t), [41]].flatten) := by
            show _ = _
            rw [HT.out, HQl.out.2.1, hp0]
            rfl
          have HOk : Hid (R22.Ok ⟨w5, g5, cap5, b3, ad0, l0, cp0, p0, a5, lq, c5, qs, t⟩) := ⟨hc0, hl0, hr0, hby2, HQl.out.1, H5.out.1, htz, by show ([p0, [46, 104, 97, 115, 40], qs, [44, 32], qL (bl t), [41]].flatten).length ≤ _; rw [← HE.out]; exact HLt.out⟩
          clear hcell5 hr0 hl0 hp0 hc0
          go_wp2
          refine reg22 ⟨w5, g5, cap5, b3, ad0, l0, cp0, p0, a5, lq, c5, qs, t⟩ HOk.out _ rfl rfl rfl rfl rfl (fun a' W' hd htx hb => ?_)
          obtain ⟨ad, cc, e1, e2, e3, e4⟩ := htx
          have HF : Hid (RetL w (T I X R (base + m)) (.returned (.slice ad (R22.PL ⟨w5, g5, cap5, b3, ad0, l0, cp0, p0, a5, lq, c5, qs, t⟩).flatten.length cc)) W') := by
            rw [HE.out]
            exact retL_of rfl e2 (H5.out.2.2.trans (hb.mono H5.out.2.2.size)) (fun h0 p hp => Nat.le_trans H5.out.2.2.size (e3 h0 p hp)) e4
          clear e2 e3 e4 hb
          obtain ⟨LL, hLL⟩ : ∃ LL, LL = (R22.PL ⟨w5, g5, cap5, b3, ad0, l0, cp0, p0, a5, lq, c5, qs, t⟩).flatten.length := ⟨_, rfl⟩
          rw [← hLL] at e1 HF
          rw [Array.getD_eq_getD_getElem?] at e1
          clear hLL
          go_wp2
          exact bodyPost_ret (v := .slice ad LL cc) (by simp [results, Try.results46, go_sem, e1]) hd HF.out
        · have hj1 : j = 2 := hjk
          subst hj1
          clear hjk
          obtain ⟨g5, cap5, hu5, hg5, hcell5⟩ := H5.out.2.1.get (by omega)
          subst hu5
          obtain ⟨p0, hp0⟩ : ∃ p0, p0 = ptF I X R 6 (base + m) 0 := ⟨_, rfl⟩
          obtain ⟨ad0, cp0, hc0, hr0⟩ := hcell5 0 p0 (by rw [hp0]; rfl)
          obtain ⟨l0, hl0⟩ : ∃ l0, l0 = p0.length := ⟨_, rfl⟩
          rw [← hl0] at hc0
          have HP0 : Hid (RdL w5 ad0 p0 ∧ l0 = p0.length ∧ p0 = ptF I X R 6 (base + m) 0) := ⟨hr0, hl0, hp0⟩
          obtain ⟨p1, hp1⟩ : ∃ p1, p1 = ptF I X R 6 (base + m) 1 := ⟨_, rfl⟩
          obtain ⟨ad1, cp1, hc1, hr1⟩ := hcell5 1 p1 (by rw [hp1]; rfl)
          obtain ⟨l1, hl1⟩ : ∃ l1, l1 = p1.length := ⟨_, rfl⟩
          rw [← hl1] at hc1
          have HP1 : Hid (RdL w5 ad1 p1 ∧ l1 = p1.length ∧ p1 = ptF I X R 6 (base + m) 1) := ⟨hr1, hl1, hp1⟩
          clear hcell5 hr0 hl0 hp0 hr1 hl1 hp1
          have HE : Hid (T I X R (base + m) = [p0, [32, 38, 32], p1].flatten) := by
            show _ = _
            rw [HT.out, HP0.out.2.2, HP1.out.2.2]
            rfl
          obtain ⟨L6, hL6⟩ : ∃ L6, L6 = [p0, [32, 38, 32], p1].flatten.length := ⟨_, rfl⟩
          have HL6 : Hid (L6 = [p0, [32, 38, 32], p1].flatten.length ∧ L6 ≤ 300000) := ⟨hL6, by rw [hL6, ← HE.out]; exact HLt.out⟩
          clear hL6
          have HCt : Hid (Calls Try.prog 88 #[.slice (some ⟨w5.heap.size + 1, 0, none⟩) 3 3] (((w5.alloc (.cells #[.int .u8 32, .int .u8 38, .int .u8 32] 5 (3, 4))).alloc (.cells #[.slice ad0 l0 cp0, .slice (some ⟨w5.heap.size, 0, none⟩) 3 3, .slice ad1 l1 cp1] 33)).drew) (fun e w' => ∃ a' c', e = .returned (.slice a' L6 c') ∧ RdL w' a' [p0, [32, 38, 32], p1].flatten ∧ Below w5.heap.size w5 w' ∧ (0 < [p0, [32, 38, 32], p1].flatten.length → ∀ p, a' = some p → w5.heap.size ≤ p.block) ∧ L6 ≤ c' ∧ c' ≤ 9223372036854775807)) := by
            have hW1 : Below w5.heap.size w5 (w5.drew.alloc (.cells #[.int .u8 32, .int .u8 38, .int .u8 32] 5 (3, 4))) := ((Below.refl _ _).drew.alloc (by simp; try omega) _)
            refine cat_any w5 (w5.drew.alloc (.cells #[.int .u8 32, .int .u8 38, .int .u8 32] 5 (3, 4))) hW1 [p0, [32, 38, 32], p1] [.slice ad0 l0 cp0, .slice (some ⟨w5.heap.size, 0, none⟩) 3 3, .slice ad1 l1 cp1] 3 _ L6 rfl (by omega) HL6.out.1 (by have := HL6.out.2; omega) (by simp) (fun i p hi => ?_)
            match i, hi with
            | 0, hi =>
              injection hi with hi
              subst hi
              exact ⟨_, cp0, by rw [← HP0.out.2.1]; rfl, HP0.out.1.below hW1⟩
            | 1, hi =>
              injection hi with hi
              subst hi
              exact ⟨_, _, rfl, lit_at w5.drew [32, 38, 32] _ rfl _ _ (by simp)⟩
            | 2, hi =>
              injection hi with hi
              subst hi
              exact ⟨_, cp1, by rw [← HP1.out.2.1]; rfl, HP1.out.1.below hW1⟩
            | n + 3, hi => cases hi
          have cvd := conv_drew
          go_wp2
          go_region_with (first | (go_at_call 88; (with_reducible refine HCt.out.mono ?_); rintro e w6 ⟨a6, c6, rfl, hr6, hb6, hf6, hc6⟩) | fail)
          all_goals
            have HF : Hid (RetL w (T I X R (base + m)) (.returned (.slice a6 L6 c6)) w6) := by
              rw [HE.out]
              exact retL_of HL6.out.1 hr6 (H5.out.2.2.trans (hb6.mono H5.out.2.2.size)) (fun h0 p hp => Nat.le_trans H5.out.2.2.size (hf6 h0 p hp)) hc6
            clear hr6 hb6 hf6 hc6
            go_wp2
            go_ret
            exact HF.out
        · have hj1 : j = 2 := hjk
          subst hj1
          clear hjk
          obtain ⟨g5, cap5, hu5, hg5, hcell5⟩ := H5.out.2.1.get (by omega)
          subst hu5
          obtain ⟨p0, hp0⟩ : ∃ p0, p0 = ptF I X R 7 (base + m) 0 := ⟨_, rfl⟩
          obtain ⟨ad0, cp0, hc0, hr0⟩ := hcell5 0 p0 (by rw [hp0]; rfl)
          obtain ⟨l0, hl0⟩ : ∃ l0, l0 = p0.length := ⟨_, rfl⟩
          rw [← hl0] at hc0
          have HP0 : Hid (RdL w5 ad0 p0 ∧ l0 = p0.length ∧ p0 = ptF I X R 7 (base + m) 0) := ⟨hr0, hl0, hp0⟩
          obtain ⟨p1, hp1⟩ : ∃ p1, p1 = ptF I X R 7 (base + m) 1 := ⟨_, rfl⟩
          obtain ⟨ad1, cp1, hc1, hr1⟩ := hcell5 1 p1 (by rw [hp1]; rfl)
          obtain ⟨l1, hl1⟩ : ∃ l1, l1 = p1.length := ⟨_, rfl⟩
          rw [← hl1] at hc1
          have HP1 : Hid (RdL w5 ad1 p1 ∧ l1 = p1.length ∧ p1 = ptF I X R 7 (base + m) 1) := ⟨hr1, hl1, hp1⟩
          clear hcell5 hr0 hl0 hp0 hr1 hl1 hp1
          have HE : Hid (T I X R (base + m) = [p0, [32, 124, 32], p1].flatten) := by
            show _ = _
            rw [HT.out, HP0.out.2.2, HP1.out.2.2]
            rfl
          obtain ⟨L6, hL6⟩ : ∃ L6, L6 = [p0, [32, 124, 32], p1].flatten.length := ⟨_, rfl⟩
          have HL6 : Hid (L6 = [p0, [32, 124, 32], p1].flatten.length ∧ L6 ≤ 300000) := ⟨hL6, by rw [hL6, ← HE.out]; exact HLt.out⟩
          clear hL6
          have HCt : Hid (Calls Try.prog 88 #[.slice (some ⟨w5.heap.size + 1, 0, none⟩) 3 3] (((w5.alloc (.cells #[.int .u8 32, .int .u8 124, .int .u8 32] 5 (3, 4))).alloc (.cells #[.slice ad0 l0 cp0, .slice (some ⟨w5.heap.size, 0, none⟩) 3 3, .slice ad1 l1 cp1] 33)).drew) (fun e w' => ∃ a' c', e = .returned (.slice a' L6 c') ∧ RdL w' a' [p0, [32, 124, 32], p1].flatten ∧ Below w5.heap.size w5 w' ∧ (0 < [p0, [32, 124, 32], p1].flatten.length → ∀ p, a' = some p → w5.heap.size ≤ p.block) ∧ L6 ≤ c' ∧ c' ≤ 9223372036854775807)) := by
            have hW1 : Below w5.heap.size w5 (w5.drew.alloc (.cells #[.int .u8 32, .int .u8 124, .int .u8 32] 5 (3, 4))) := ((Below.refl _ _).drew.alloc (by simp; try omega) _)
            refine cat_any w5 (w5.drew.alloc (.cells #[.int .u8 32, .int .u8 124, .int .u8 32] 5 (3, 4))) hW1 [p0, [32, 124, 32], p1] [.slice ad0 l0 cp0, .slice (some ⟨w5.heap.size, 0, none⟩) 3 3, .slice ad1 l1 cp1] 3 _ L6 rfl (by omega) HL6.out.1 (by have := HL6.out.2; omega) (by simp) (fun i p hi => ?_)
            match i, hi with
            | 0, hi =>
              injection hi with hi
              subst hi
              exact ⟨_, cp0, by rw [← HP0.out.2.1]; rfl, HP0.out.1.below hW1⟩
            | 1, hi =>
              injection hi with hi
              subst hi
              exact ⟨_, _, rfl, lit_at w5.drew [32, 124, 32] _ rfl _ _ (by simp)⟩
            | 2, hi =>
              injection hi with hi
              subst hi
              exact ⟨_, cp1, by rw [← HP1.out.2.1]; rfl, HP1.out.1.below hW1⟩
            | n + 3, hi => cases hi
          have cvd := conv_drew
          go_wp2
          go_region_with (first | (go_at_call 88; (with_reducible refine HCt.out.mono ?_); rintro e w6 ⟨a6, c6, rfl, hr6, hb6, hf6, hc6⟩) | fail)
          all_goals
            have HF : Hid (RetL w (T I X R (base + m)) (.returned (.slice a6 L6 c6)) w6) := by
              rw [HE.out]
              exact retL_of HL6.out.1 hr6 (H5.out.2.2.trans (hb6.mono H5.out.2.2.size)) (fun h0 p hp => Nat.le_trans H5.out.2.2.size (hf6 h0 p hp)) hc6
            clear hr6 hb6 hf6 hc6
            go_wp2
            go_ret
            exact HF.out
        · have hj1 : j = 2 := hjk
          subst hj1
          clear hjk
          obtain ⟨g5, cap5, hu5, hg5, hcell5⟩ := H5.out.2.1.get (by omega)
          subst hu5
          obtain ⟨p0, hp0⟩ : ∃ p0, p0 = ptF I X R 8 (base + m) 0 := ⟨_, rfl⟩
          obtain ⟨ad0, cp0, hc0, hr0⟩ := hcell5 0 p0 (by rw [hp0]; rfl)
          obtain ⟨l0, hl0⟩ : ∃ l0, l0 = p0.length := ⟨_, rfl⟩
          rw [← hl0] at hc0
          have HP0 : Hid (RdL w5 ad0 p0 ∧ l0 = p0.length ∧ p0 = ptF I X R 8 (base + m) 0) := ⟨hr0, hl0, hp0⟩
          obtain ⟨p1, hp1⟩ : ∃ p1, p1 = ptF I X R 8 (base + m) 1 := ⟨_, rfl⟩
          obtain ⟨ad1, cp1, hc1, hr1⟩ := hcell5 1 p1 (by rw [hp1]; rfl)
          obtain ⟨l1, hl1⟩ : ∃ l1, l1 = p1.length := ⟨_, rfl⟩
          rw [← hl1] at hc1
          have HP1 : Hid (RdL w5 ad1 p1 ∧ l1 = p1.length ∧ p1 = ptF I X R 8 (base + m) 1) := ⟨hr1, hl1, hp1⟩
          clear hcell5 hr0 hl0 hp0 hr1 hl1 hp1
          have HE : Hid (T I X R (base + m) = [p0, [32, 45, 32], p1].flatten) := by
            show _ = _
            rw [HT.out, HP0.out.2.2, HP1.out.2.2]
            rfl
          obtain ⟨L6, hL6⟩ : ∃ L6, L6 = [p0, [32, 45, 32], p1].flatten.length := ⟨_, rfl⟩
          have HL6 : Hid (L6 = [p0, [32, 45, 32], p1].flatten.length ∧ L6 ≤ 300000) := ⟨hL6, by rw [hL6, ← HE.out]; exact HLt.out⟩
          clear hL6
          have HCt : Hid (Calls Try.prog 88 #[.slice (some ⟨w5.heap.size + 1, 0, none⟩) 3 3] (((w5.alloc (.cells #[.int .u8 32, .int .u8 45, .int .u8 32] 5 (3, 4))).alloc (.cells #[.slice ad0 l0 cp0, .slice (some ⟨w5.heap.size, 0, none⟩) 3 3, .slice ad1 l1 cp1] 33)).drew) (fun e w' => ∃ a' c', e = .returned (.slice a' L6 c') ∧ RdL w' a' [p0, [32, 45, 32], p1].flatten ∧ Below w5.heap.size w5 w' ∧ (0 < [p0, [32, 45, 32], p1].flatten.length → ∀ p, a' = some p → w5.heap.size ≤ p.block) ∧ L6 ≤ c' ∧ c' ≤ 9223372036854775807)) := by
            have hW1 : Below w5.heap.size w5 (w5.drew.alloc (.cells #[.int .u8 32, .int .u8 45, .int .u8 32] 5 (3, 4))) := ((Below.refl _ _).drew.alloc (by simp; try omega) _)
            refine cat_any w5 (w5.drew.alloc (.cells #[.int .u8 32, .int .u8 45, .int .u8 32] 5 (3, 4))) hW1 [p0, [32, 45, 32], p1] [.slice ad0 l0 cp0, .slice (some ⟨w5.heap.size, 0, none⟩) 3 3, .slice ad1 l1 cp1] 3 _ L6 rfl (by omega) HL6.out.1 (by have := HL6.out.2; omega) (by simp) (fun i p hi => ?_)
            match i, hi with
            | 0, hi =>
              injection hi with hi
              subst hi
              exact ⟨_, cp0, by rw [← HP0.out.2.1]; rfl, HP0.out.1.below hW1⟩
            | 1, hi =>
              injection hi with hi
              subst hi
              exact ⟨_, _, rfl, lit_at w5.drew [32, 45, 32] _ rfl _ _ (by simp)⟩
            | 2, hi =>
              injection hi with hi
              subst hi
              exact ⟨_, cp1, by rw [← HP1.out.2.1]; rfl, HP1.out.1.below hW1⟩
            | n + 3, hi => cases hi
          have cvd := conv_drew
          go_wp2
          go_region_with (first | (go_at_call 88; (with_reducible refine HCt.out.mono ?_); rintro e w6 ⟨a6, c6, rfl, hr6, hb6, hf6, hc6⟩) | fail)
          all_goals
            have HF : Hid (RetL w (T I X R (base + m)) (.returned (.slice a6 L6 c6)) w6) := by
              rw [HE.out]
              exact retL_of HL6.out.1 hr6 (H5.out.2.2.trans (hb6.mono H5.out.2.2.size)) (fun h0 p hp => Nat.le_trans H5.out.2.2.size (hf6 h0 p hp)) hc6
            clear hr6 hb6 hf6 hc6
            go_wp2
            go_ret
            exact HF.out
        · have hj1 : j = 1 := hjk
          subst hj1
          clear hjk
          obtain ⟨g5, cap5, hu5, hg5, hcell5⟩ := H5.out.2.1.get (by omega)
          subst hu5
          obtain ⟨p0, hp0⟩ : ∃ p0, p0 = ptF I X R 9 (base + m) 0 := ⟨_, rfl⟩
          obtain ⟨ad0, cp0, hc0, hr0⟩ := hcell5 0 p0 (by rw [hp0]; rfl)
          obtain ⟨l0, hl0⟩ : ∃ l0, l0 = p0.length := ⟨_, rfl⟩
          rw [← hl0] at hc0
          have HP0 : Hid (RdL w5 ad0 p0 ∧ l0 = p0.length ∧ p0 = ptF I X R 9 (base + m) 0) := ⟨hr0, hl0, hp0⟩
          clear hcell5 hr0 hl0 hp0
          have HE : Hid (T I X R (base + m) = [[103, 114, 97, 112, 104, 32], qs, [32, 40], p0, [41]].flatten) := by
            show _ = _
            rw [HT.out, HQl.out.2.1, HP0.out.2.2]
            rfl
          obtain ⟨L6, hL6⟩ : ∃ L6, L6 = [[103, 114, 97, 112, 104, 32], qs, [32, 40], p0, [41]].flatten.length := ⟨_, rfl⟩
          have HL6 : Hid (L6 = [[103, 114, 97, 112, 104, 32], qs, [32, 40], p0, [41]].flatten.length ∧ L6 ≤ 300000) := ⟨hL6, by rw [hL6, ← HE.out]; exact HLt.out⟩
          clear hL6
          have HCt : Hid (Calls Try.prog 88 #[.slice (some ⟨w5.heap.size + 1 + 1 + 1, 0, none⟩) 5 5] ((((w5.alloc (.cells #[.int .u8 103, .int .u8 114, .int .u8 97, .int .u8 112, .int .u8 104, .int .u8 32] 5 (6, 7))).alloc (.cells #[.int .u8 32, .int .u8 40] 5 (2, 3))).alloc (.cells #[.int .u8 41] 5 (1, 2))).alloc (.cells #[.slice (some ⟨w5.heap.size, 0, none⟩) 6 6, .slice a5 lq c5, .slice (some ⟨w5.heap.size + 1, 0, none⟩) 2 2, .slice ad0 l0 cp0, .slice (some ⟨w5.heap.size + 1 + 1, 0, none⟩) 1 1] 33)) (fun e w' => ∃ a' c', e = .returned (.slice a' L6 c') ∧ RdL w' a' [[103, 114, 97, 112, 104, 32], qs, [32, 40], p0, [41]].flatten ∧ Below w5.heap.size w5 w' ∧ (0 < [[103, 114, 97, 112, 104, 32], qs, [32, 40], p0, [41]].flatten.length → ∀ p, a' = some p → w5.heap.size ≤ p.block) ∧ L6 ≤ c' ∧ c' ≤ 9223372036854775807)) := by
            have hW1 : Below w5.heap.size w5 (((w5.alloc (.cells #[.int .u8 103, .int .u8 114, .int .u8 97, .int .u8 112, .int .u8 104, .int .u8 32] 5 (6, 7))).alloc (.cells #[.int .u8 32, .int .u8 40] 5 (2, 3))).alloc (.cells #[.int .u8 41] 5 (1, 2))) := ((((Below.refl _ _).alloc (by simp; try omega) _).alloc (by simp; try omega) _).alloc (by simp; try omega) _)
            refine cat_any w5 (((w5.alloc (.cells #[.int .u8 103, .int .u8 114, .int .u8 97, .int .u8 112, .int .u8 104, .int .u8 32] 5 (6, 7))).alloc (.cells #[.int .u8 32, .int .u8 40] 5 (2, 3))).alloc (.cells #[.int .u8 41] 5 (1, 2))) hW1 [[103, 114, 97, 112, 104, 32], qs, [32, 40], p0, [41]] [.slice (some ⟨w5.heap.size, 0, none⟩) 6 6, .slice a5 lq c5, .slice (some ⟨w5.heap.size + 1, 0, none⟩) 2 2, .slice ad0 l0 cp0, .slice (some ⟨w5.heap.size + 1 + 1, 0, none⟩) 1 1] 5 _ L6 rfl (by omega) HL6.out.1 (by have := HL6.out.2; omega) (by simp) (fun i p hi => ?_)
            match i, hi with
            | 0, hi =>
              injection hi with hi
              subst hi
              exact ⟨_, _, rfl, ((lit_at w5 [103, 114, 97, 112, 104, 32] _ rfl _ _ (by simp)).below (below_alloc _ _)).below (below_alloc _ _)⟩
            | 1, hi =>
              injection hi with hi
              subst hi
              exact ⟨_, c5, by rw [← HQl.out.1]; rfl, H5.out.1.below hW1⟩
            | 2, hi =>
              injection hi with hi
              subst hi
              exact ⟨_, _, rfl, (lit_at (w5.alloc (.cells #[.int .u8 103, .int .u8 114, .int .u8 97, .int .u8 112, .int .u8 104, .int .u8 32] 5 (6, 7))) [32, 40] _ rfl _ _ (by simp)).below (below_alloc _ _)⟩
            | 3, hi =>
              injection hi with hi
              subst hi
              exact ⟨_, cp0, by rw [← HP0.out.2.1]; rfl, HP0.out.1.below hW1⟩
            | 4, hi =>
              injection hi with hi
              subst hi
              exact ⟨_, _, rfl, lit_at ((w5.alloc (.cells #[.int .u8 103, .int .u8 114, .int .u8 97, .int .u8 112, .int .u8 104, .int .u8 32] 5 (6, 7))).alloc (.cells #[.int .u8 32, .int .u8 40] 5 (2, 3))) [41] _ rfl _ _ (by simp)⟩
            | n + 5, hi => cases hi
          go_wp2_with fail
          refine HCt.out.mono ?_
          rintro e w6 ⟨a6, c6, rfl, hr6, hb6, hf6, hc6⟩
          have HF : Hid (RetL w (T I X R (base + m)) (.returned (.slice a6 L6 c6)) w6) := by
            rw [HE.out]
            exact retL_of HL6.out.1 hr6 (H5.out.2.2.trans (hb6.mono H5.out.2.2.size)) (fun h0 p hp => Nat.le_trans H5.out.2.2.size (hf6 h0 p hp)) hc6
          clear hr6 hb6 hf6 hc6
          go_wp2
          go_ret
          exact HF.out
end Go.Proofs.Ytocmbnocdjnfpaa
