import Derived.Test.YthcclkeeekppmaaNp27
import Derived.Test.YthcclkeeekppmaaNp14
import Derived.Test.YthcclkeeekppmaaNp7
import Derived.Test.YthcclkeeekppmaaNp28
import Derived.Deep.CutRange
import Derived.Deep.CutBlock
namespace Go.Proofs.Ythcclkeeekppmaa
open Go.RowKit Go.Deep
set_option linter.unusedVariables false
set_option linter.unusedSimpArgs false
set_option maxRecDepth 100000

/-- What DrawMeaning hands out: a path and facts. -/
def DmRet (w : World) (e : Ending) (w' : World) : Prop := ∃ q o NN cc I X R fa fc fs, e = .returned (.tuple #[.agg #[.slice (some ⟨q, o, none⟩) NN cc], .slice fa fs.length fc]) ∧ RdN w' (some ⟨q, o, none⟩) NN I X R ∧ NN ≤ 2000 ∧ NN ≤ cc ∧ cc ≤ 9223372036854775807 ∧ RdF w' fa fs ∧ FcOk fs ∧ fs.length ≤ 400 ∧ fs.length ≤ fc ∧ fc ≤ 9223372036854775807 ∧ Below w.heap.size w w'
def DmOk : Prop := ∀ (a : Option Addr) (n c : Nat) (f : Nat → Int) (w : World), Rd .u8 w a n f → n ≤ 1048576 → (∀ i, i < n → 0 ≤ f i ∧ f i < 256) → Calls Try.prog 5 #[.slice a n c] w (DmRet w)
/-- A box of one cell. -/
def Bx1 (W : World) (b : Nat) (x : Value) : Prop := W.cell? ⟨b, 0, none⟩ = some x
theorem Bx1.below {W W' : World} {b : Nat} {x : Value} (h : Bx1 W b x) (hb : Below W.heap.size W W') : Bx1 W' b x := (hb.cell (p := ⟨b, 0, none⟩) (World.block_lt_of_cell? _ _ h)).trans h
theorem Bx1.new (w : World) (x : Value) (t : TypeId) : Bx1 (w.alloc (.cells #[x] t)) w.heap.size x := by
  unfold Bx1 World.cell?
  rw [show (w.alloc (.cells #[x] t)).heap[w.heap.size]? = _ from Array.getElem?_push_size]
  rfl
/-- What impl.Meaning hands back, once more. -/
theorem RetMe.rd {w w' : World} {P : ByteArray → Prop} {e : Ending} (h : RetMe w P e w') : ∃ a c L, e = .returned (.slice a L.length c) ∧ RdG w' a L ∧ Asc L ∧ (∀ x, x ∈ L ↔ P x) ∧ Below w.heap.size w w' := by
  obtain ⟨hb, v, L, rfl, hA, hm, ho⟩ := h
  obtain ⟨a, c, rfl, h1, _, _⟩ := ownS_strL ho rfl
  exact ⟨a, c, L, rfl, h1.rd, hA, hm, hb⟩
theorem lwPut_v (v : Value) (N : Nat) (P : ByteArray → Prop) (t : ByteArray) (w : World) (h : LstA w v N P) (hN : N ≤ 1048576) :
    Calls Try.prog 10 #[v, .string t] w fun e w' => ∃ v', e = .returned v' ∧ LstA w' v' (N + 1) (fun x => P x ∨ x = t) ∧ Below w.heap.size w w' := by
  obtain ⟨a, c, L, rfl, h2, h3, h4, h5, h6, h7⟩ := h
  refine (lwPut_any a c L t w h2 h3 (by omega) h6 h7).mono ?_
  intro e w' hr
  obtain ⟨v', e1, e2, e3⟩ := hr.lst
  exact ⟨v', e1, e2.congr (fun x => by rw [h4]) (by omega), e3⟩
theorem wp_region_lateT {P : Program} {ops : Array Oper} {Q : Exit → Act → World → Prop} {S : World → Prop} {id : Nat} {a : Act} {w : World} (late : Nat) (hm : P.follows .mixedOrders = true) (hS : S w.drew)
    (h : ∀ W, S W → wpLate P .any ops Q S late ops.size (Array.replicate ops.size false) a W) : (Code.region id ops true).wp P Q a w := wp_region_late late hm hS (fun h' => h _ h')
theorem catF_zero {α : Type} (F G : Nat → α) : catF 0 F G = G := funext fun j => by unfold catF; rw [if_neg (by omega), Nat.sub_zero]
theorem step_g1 {ops : Array Oper} {o : Oper} {a : Act} {w : World} {K : Act → World → Prop} {Q : Exit → Act → World → Prop} {E : Prop} (hw : Region.wanted o (yielded ops a.tmps) = true) (k : Nat) (i : Nat) (tys : Array TypeId)
    (ho : o.op = .call { callee := .value (.func k), args := #[.tmp i], argTypes := tys }) (u : Value) (hx : a.tmps[i]?.getD undef = u) (heg : ∀ args w, (callFunc k args).run Try.prog w = .ok (.enter k args) w)
    (h : Calls Try.prog k #[u] w fun e w' => ∃ r, e = .returned r ∧ K (a.put o.dst r) w') :
    if Region.wanted o (yielded ops a.tmps) = true then Oper.wp Try.prog o a w K Q else E := by
  rw [if_pos hw]
  unfold Oper.wp
  simp [execOp, ho, resolve, invoke, hx, go_sem, heg]
  refine h.mono ?_
  rintro e w' ⟨u, rfl, hk⟩
  exact hk
theorem step_g2 {ops : Array Oper} {o : Oper} {a : Act} {w : World} {K : Act → World → Prop} {Q : Exit → Act → World → Prop} {E : Prop} (hw : Region.wanted o (yielded ops a.tmps) = true) (k : Nat) (i j : Nat) (tys : Array TypeId)
    (ho : o.op = .call { callee := .value (.func k), args := #[.tmp i, .tmp j], argTypes := tys }) (u v : Value) (hx : a.tmps[i]?.getD undef = u) (hy : a.tmps[j]?.getD undef = v) (heg : ∀ args w, (callFunc k args).run Try.prog w = .ok (.enter k args) w)
    (h : Calls Try.prog k #[u, v] w fun e w' => ∃ r, e = .returned r ∧ K (a.put o.dst r) w') :
    if Region.wanted o (yielded ops a.tmps) = true then Oper.wp Try.prog o a w K Q else E := by
  rw [if_pos hw]
  unfold Oper.wp
  simp [execOp, ho, resolve, invoke, hx, hy, go_sem, heg]
  refine h.mono ?_
  rintro e w' ⟨u, rfl, hk⟩
  exact hk
theorem sk {l : List Oper} {P : Program} {Q : Exit → Act → World → Prop} {S : World → Prop} {late : Nat} (i : Nat) {oi : Oper} (hp : Pick i l oi) {fuel : Nat} {listed : Array Bool} {a : Act} {w : World}
    (h : wpLate P .any l.toArray Q S late fuel (listed.setIfInBounds i true) (a.put oi.dst undef) w) (hs : Region.noSelect l.toArray = true := by kernel_rfl) (hf : Region.free .any l.toArray listed i = true := by kernel_rfl) (hr : (Region.ready .any l.toArray listed).contains i = true := by kernel_rfl) (hwt : waitsB l.toArray listed i late (behind l.toArray i 8) = true := by kernel_rfl)
    (hQ : ∀ c a w, Q (.panic c) (a.put oi.dst undef) w → Q (.panic c) a w := by exact fun _ _ _ h => h) (hw : Region.wanted oi (yielded l.toArray a.tmps) = false := by rfl) (hS : S w := by assumption) : wpLate P .any l.toArray Q S late (fuel + 1) listed a w := late_skip i hp hs hf hr hwt hQ hw hS h
def gB : ByteArray := { data := #[103] }
theorem gB_list : gB.toList = [103] := by unfold gB; rw [ByteArray.toList_eq]
/-- Whether a string is in a list. -/
def inB (L : List ByteArray) (z : ByteArray) : Bool := L.any (fun y => y.toList == z.toList)
theorem inB_iff {L : List ByteArray} {z : ByteArray} : inB L z = true ↔ z ∈ L := by
  unfold inB
  rw [List.any_eq_true]
  constructor
  · rintro ⟨y, hy, e⟩
    rw [← str_eq.1 e]
    exact hy
  · exact fun h => ⟨z, h, str_eq.2 rfl⟩
/-- Three rows of strings of the call's own, apart from each other. -/
structure R3 (W : World) (B : Nat) (v1 v2 v3 : Value) (L1 L2 L3 : List ByteArray) : Prop where
  o1 : W.ownsRow B 9 1 v1 L1.length (strL L1)
  o2 : W.ownsRow B 9 1 v2 L2.length (strL L2)
  o3 : W.ownsRow B 9 1 v3 L3.length (strL L3)
  d12 : v1.ownBlock ≠ v2.ownBlock
  d13 : v1.ownBlock ≠ v3.ownBlock
  d23 : v2.ownBlock ≠ v3.ownBlock
theorem R3.below {W W' : World} {B : Nat} {v1 v2 v3 : Value} {L1 L2 L3 : List ByteArray} (h : R3 W B v1 v2 v3 L1 L2 L3) (hb : Below W.heap.size W W') : R3 W' B v1 v2 v3 L1 L2 L3 := ⟨own_below h.o1 hb, own_below h.o2 hb, own_below h.o3 hb, h.d12, h.d13, h.d23⟩
theorem R3.app1 {W W' : World} {B : Nat} {v1 v2 v3 v' : Value} {L1 L2 L3 : List ByteArray} {t : ByteArray} {n : Nat} (hn : n = L1.length) (h : R3 W B v1 v2 v3 L1 L2 L3) (ho : W'.ownsRow B 9 1 v' (n + 1) (strL L1 ++ [.string t])) (hg : W.grownBy W' v1.ownBlock) (hv : v'.ownBlock = v1.ownBlock ∨ v'.ownBlock = some W.heap.size) : R3 W' B v' v2 v3 (L1 ++ [t]) L2 L3 := by
  subst hn
  refine ⟨by rw [strL_app, List.length_append]; exact ho, plS_keep h.o2 (fun g e => hg.block g (own_lt h.o2 g e).2 (fun q => h.d12 (by rw [e, q]))), plS_keep h.o3 (fun g e => hg.block g (own_lt h.o3 g e).2 (fun q => h.d13 (by rw [e, q]))), ?_, ?_, h.d23⟩
  · rcases hv with q | q
    · rw [q]; exact h.d12
    · rw [q]; intro e; have := (own_lt h.o2 _ e.symm).2; omega
  · rcases hv with q | q
    · rw [q]; exact h.d13
    · rw [q]; intro e; have := (own_lt h.o3 _ e.symm).2; omega
theorem R3.swap {W : World} {B : Nat} {v1 v2 v3 : Value} {L1 L2 L3 : List ByteArray} (h : R3 W B v1 v2 v3 L1 L2 L3) : R3 W B v2 v1 v3 L2 L1 L3 := ⟨h.o2, h.o1, h.o3, fun e => h.d12 e.symm, h.d23, h.d13⟩
set_option maxHeartbeats 16000000 in
theorem faLaw0 (HD : DmOk) (a a' : Option Addr) (n n' c c' : Nat) (f f' : Nat → Int) (w : World) (ha : Rd .u8 w a n f) (hf : ∀ i, i < n → 0 ≤ f i ∧ f i < 256) (hn : n ≤ maxLen) (ha' : Rd .u8 w a' n' f') (hf' : ∀ i, i < n' → 0 ≤ f' i ∧ f' i < 256) (hn' : n' ≤ maxLen) :
    Calls Try.prog 3 #[.slice a n c, .slice a' n' c'] w fun e w' => e = .returned (.bool true) ∧ Below w.heap.size w w' := by
  unfold maxLen at hn hn'
  by_cases hbig : 1048576 < n
  · have hb' : (1048576 : Int) < (n : Int) := by omega
    go_enter Try.func3, Try.ntmps3
    go_wp2
    go_ret
    exact ⟨rfl, Below.refl _ _⟩
  have hb' : ¬ (1048576 : Int) < (n : Int) := by omega
  by_cases hbig' : 1048576 < n'
  · have hb'' : (1048576 : Int) < (n' : Int) := by omega
    go_enter Try.func3, Try.ntmps3
    go_wp2
    go_ret
    exact ⟨rfl, Below.refl _ _⟩
  have hb'' : ¬ (1048576 : Int) < (n' : Int) := by omega
  have HD1 : Hid (Calls Try.prog 5 #[.slice a n c] w (DmRet w)) := HD a n c f w ha (by omega) hf
  have HD2 : Hid (∀ W, Below w.heap.size w W → Calls Try.prog 5 #[.slice a' n' c'] W (DmRet W)) := fun W hW => HD a' n' c' f' W (ha'.below hW) (by omega) hf'
  clear HD ha hf ha' hf'
  go_enter Try.func3, Try.ntmps3
  go_wp2_with fail
  refine HD1.out.mono ?_
  rintro e w1 ⟨qa, oa, na, ca, Ia, Xa, Ra, fa, fc, fs, rfl, hra, hna, hca, hcma, hrf, hfo, hfl, hfc, hfcm, hb1⟩
  obtain ⟨fl, hfl'⟩ : ∃ fl, fl = fs.length := ⟨_, rfl⟩
  have HFL : Hid (fl = fs.length ∧ FcOk fs) := ⟨hfl', hfo⟩
  rw [← hfl'] at hfl hfc ⊢
  obtain ⟨W1, hW1⟩ : ∃ W1, W1 = w1.alloc (.cells #[.slice (some ⟨qa, oa, none⟩) na ca] 25) := ⟨_, rfl⟩
  have hbb : Below w1.heap.size w1 W1 := by rw [hW1]; exact below_alloc _ _
  have hbx : Bx1 W1 w1.heap.size (.slice (some ⟨qa, oa, none⟩) na ca) := by rw [hW1]; exact Bx1.new _ _ _
  have H1 : Hid (RdN W1 (some ⟨qa, oa, none⟩) na Ia Xa Ra ∧ RdF W1 fa fs ∧ Bx1 W1 w1.heap.size (.slice (some ⟨qa, oa, none⟩) na ca) ∧ Below w.heap.size w W1) := ⟨hra.below hbb, hrf.below hbb, hbx, hb1.trans (hbb.mono hb1.size)⟩
  clear hra hrf hfo hfl' hb1 hbb hbx HD1
  go_upto_region 4 with fail
  rw [← hW1]
  clear hW1
  generalize w1.heap.size = b5 at *
  go_wp2_with fail
  refine (HD2.out W1 H1.out.2.2.2).mono ?_
  rintro e w2 ⟨qb, ob, nb, cb, Ib, Xb, Rb, fa2, fc2, fs2, rfl, hrb, hnb, hcb, hcmb, -, -, -, -, -, hb2⟩
  obtain ⟨fl2, hfl2⟩ : ∃ fl2, fl2 = fs2.length := ⟨_, rfl⟩
  rw [← hfl2]
  obtain ⟨W2, hW2⟩ : ∃ W2, W2 = w2.alloc (.cells #[.slice (some ⟨qb, ob, none⟩) nb cb] 25) := ⟨_, rfl⟩
  have hbb : Below w2.heap.size w2 W2 := by rw [hW2]; exact below_alloc _ _
  have hbx : Bx1 W2 w2.heap.size (.slice (some ⟨qb, ob, none⟩) nb cb) := by rw [hW2]; exact Bx1.new _ _ _
  have hb12 : Below W1.heap.size W1 W2 := hb2.trans (hbb.mono hb2.size)
  have hbw : Below w.heap.size w W2 := H1.out.2.2.2.trans (hb12.mono H1.out.2.2.2.size)
  have HK : Hid (∀ W, Below W2.heap.size W2 W → Bx1 W b5 (.slice (some ⟨qa, oa, none⟩) na ca) ∧ Bx1 W w2.heap.size (.slice (some ⟨qb, ob, none⟩) nb cb) ∧ RdN W (some ⟨qa, oa, none⟩) na Ia Xa Ra ∧ RdN W (some ⟨qb, ob, none⟩) nb Ib Xb Rb ∧ RdF W fa fs ∧ Below w.heap.size w W) := fun W hW => ⟨(H1.out.2.2.1.below hb12).below hW, hbx.below hW, (H1.out.1.below hb12).below hW, (hrb.below hbb).below hW, (H1.out.2.1.below hb12).below hW, hbw.trans (hW.mono hbw.size)⟩
  clear hrb hb2 hbb hb12 hbw H1 HD2 hfl2
  go_upto_region 5 with fail
  rw [← hW2]
  clear hW2 hbx
  generalize w2.heap.size = b7 at *
  -- the end where a path is not valid, or the facts are too many
  have HME : Hid (∀ W, Below W2.heap.size W2 W → Calls Try.prog 7 #[.agg #[.slice (some ⟨qa, oa, none⟩) na ca], .slice fa fl fc] W (RetMe W (MnP na Ia Xa Ra fs))) := fun W hW => by
    rw [HFL.out.1]
    exact implMe srt_ok _ na ca Ia Xa Ra fa fc fs W (HK.out W hW).2.2.1 (HK.out W hW).2.2.2.2.1 HFL.out.2 (by omega) hca hcma (by rw [← HFL.out.1]; omega)
  obtain ⟨p0, p7, -⟩ := HK.out W2 (Below.refl _ _)
  have p0 : W2.cell? ⟨b5, 0, none⟩ = some (.slice (some ⟨qa, oa, none⟩) na ca) := p0
  go_wp2_with fail
  refine (specVP _ na ca Ia Xa Ra W2 (HK.out _ (Below.refl _ _)).2.2.1 (by omega) hca hcma).mono ?_
  rintro e w3 ⟨va, rfl, hva, hb3⟩
  have H3 : Hid (Below W2.heap.size W2 w3) := hb3
  obtain ⟨c0, c7, -⟩ := HK.out w3 hb3
  have c0 : w3.cell? ⟨b5, 0, none⟩ = some (.slice (some ⟨qa, oa, none⟩) na ca) := c0
  have c7 : w3.cell? ⟨b7, 0, none⟩ = some (.slice (some ⟨qb, ob, none⟩) nb cb) := c7
  clear p0 p7 hb3
  cases va with
  | false =>
    have HNV : Hid (¬ VPth na Ia Xa Ra) := fun h => by have := hva.2 h; cases this
    clear hva
    go_wp2_with fail
    refine (HME.out w3 H3.out).mono ?_
    intro e w4 hr
    obtain ⟨a4, c4, L, rfl, -, -, hm, hb4⟩ := hr.rd
    obtain rfl : L = [] := by
      cases L with
      | nil => rfl
      | cons x L => exact absurd ((hm x).1 List.mem_cons_self).1 HNV.out
    have HB4 : Hid (Below w.heap.size w w4) := (HK.out w4 (H3.out.trans (hb4.mono H3.out.size))).2.2.2.2.2
    clear hm hb4
    rw [List.length_nil]
    go_wp2
    go_ret
    exact ⟨rfl, HB4.out⟩
  | true =>
    have HVA : Hid (VPth na Ia Xa Ra) := hva.1 rfl
    clear hva
    have HEND : Hid (∀ W, Below W2.heap.size W2 W → Calls Try.prog 6 #[.agg #[.slice (some ⟨qa, oa, none⟩) na ca]] W fun e w' => e = .returned (.bool true) ∧ Below W.heap.size W w') := fun W hW => (specVP _ na ca Ia Xa Ra W (HK.out W hW).2.2.1 (by omega) hca hcma).mono fun e w' ⟨b, h1, h2, h3⟩ => ⟨by rw [h1, h2.2 HVA.out], h3⟩
    go_wp2_with fail
    refine (specVP _ nb cb Ib Xb Rb w3 (HK.out _ H3.out).2.2.2.1 (by omega) hcb hcmb).mono ?_
    rintro e w4 ⟨vb, rfl, hvb, hb4⟩
    have H4 : Hid (Below W2.heap.size W2 w4) := H3.out.trans (hb4.mono H3.out.size)
    obtain ⟨d0, d7, -⟩ := HK.out w4 H4.out
    have d0 : w4.cell? ⟨b5, 0, none⟩ = some (.slice (some ⟨qa, oa, none⟩) na ca) := d0
    have d7 : w4.cell? ⟨b7, 0, none⟩ = some (.slice (some ⟨qb, ob, none⟩) nb cb) := d7
    clear c0 c7 hb4 H3
    by_cases hgo : vb = true ∧ fl ≤ 300
    case neg =>
      cases vb with
      | false =>
        clear hgo hvb
        go_wp2_with fail
        refine (HME.out w4 H4.out).mono ?_
        intro e w5 hr
        obtain ⟨a5, c5, L, rfl, -, -, hm, hb5⟩ := hr.rd
        have hb5' : Below W2.heap.size W2 w5 := H4.out.trans (hb5.mono H4.out.size)
        have H5 : Hid (Below W2.heap.size W2 w5) := hb5'
        obtain ⟨e0, -⟩ := HK.out w5 hb5'
        have e0 : w5.cell? ⟨b5, 0, none⟩ = some (.slice (some ⟨qa, oa, none⟩) na ca) := e0
        have HB5 : Hid (Below w.heap.size w w5) := (HK.out w5 hb5').2.2.2.2.2
        generalize L.length = LL at *
        clear hm hb5 hb5' d0 d7
        by_cases hL : LL = 0
        · subst hL
          go_wp2
          go_ret
          exact ⟨rfl, HB5.out⟩
        · have hL' : ((LL : Int) == 0) = false := by simp; omega
          go_wp2_with fail
          refine (HEND.out w5 H5.out).mono ?_
          rintro e w6 ⟨rfl, hb6⟩
          have HB6 : Hid (Below w.heap.size w w6) := HB5.out.trans (hb6.mono HB5.out.size)
          clear hb6
          go_wp2
          go_ret
          exact ⟨rfl, HB6.out⟩
      | true =>
        have hf3 : (300 : Int) < (fl : Int) := by have : ¬ fl ≤ 300 := fun h => hgo ⟨rfl, h⟩; omega
        clear hgo hvb
        go_wp2_with fail
        refine (HME.out w4 H4.out).mono ?_
        intro e w5 hr
        obtain ⟨a5, c5, L, rfl, -, -, hm, hb5⟩ := hr.rd
        have hb5' : Below W2.heap.size W2 w5 := H4.out.trans (hb5.mono H4.out.size)
        have H5 : Hid (Below W2.heap.size W2 w5) := hb5'
        obtain ⟨e0, -⟩ := HK.out w5 hb5'
        have e0 : w5.cell? ⟨b5, 0, none⟩ = some (.slice (some ⟨qa, oa, none⟩) na ca) := e0
        have HB5 : Hid (Below w.heap.size w w5) := (HK.out w5 hb5').2.2.2.2.2
        generalize L.length = LL at *
        clear hm hb5 hb5' d0 d7
        by_cases hL : LL = 0
        · subst hL
          go_wp2
          go_ret
          exact ⟨rfl, HB5.out⟩
        · have hL' : ((LL : Int) == 0) = false := by simp; omega
          go_wp2_with fail
          refine (HEND.out w5 H5.out).mono ?_
          rintro e w6 ⟨rfl, hb6⟩
          have HB6 : Hid (Below w.heap.size w w6) := HB5.out.trans (hb6.mono HB5.out.size)
          clear hb6
          go_wp2
          go_ret
          exact ⟨rfl, HB6.out⟩
    case pos =>
      obtain ⟨rfl, hf300⟩ := hgo
      have hf3 : ¬ (300 : Int) < (fl : Int) := by omega
      have HVB : Hid (VPth nb Ib Xb Rb) := hvb.1 rfl
      clear hvb
      have HSA : Hid (∀ W, Below W2.heap.size W2 W → Calls Try.prog 8 #[.agg #[.slice (some ⟨qa, oa, none⟩) na ca], .slice fa fl fc] W (RetM W 60000 (MnP na Ia Xa Ra fs))) := fun W hW => by
        rw [HFL.out.1]
        exact specMe _ na ca Ia Xa Ra fa fc fs W (HK.out W hW).2.2.1 (HK.out W hW).2.2.2.2.1 (by omega) hca hcma (by rw [← HFL.out.1]; omega)
      have HSB : Hid (∀ W, Below W2.heap.size W2 W → Calls Try.prog 8 #[.agg #[.slice (some ⟨qb, ob, none⟩) nb cb], .slice fa fl fc] W (RetM W 60000 (MnP nb Ib Xb Rb fs))) := fun W hW => by
        rw [HFL.out.1]
        exact specMe _ nb cb Ib Xb Rb fa fc fs W (HK.out W hW).2.2.2.1 (HK.out W hW).2.2.2.2.1 (by omega) hcb hcmb (by rw [← HFL.out.1]; omega)
      go_wp2_with fail
      refine (HSA.out w4 H4.out).mono ?_
      rintro e w5 ⟨ax, cx, LX, rfl, hrx, hAx, hmx, hlx, hcx, hcmx, hb5⟩
      obtain ⟨lx, hlx'⟩ : ∃ lx, lx = LX.length := ⟨_, rfl⟩
      have HX : Hid (lx = LX.length ∧ Asc LX ∧ (∀ x, x ∈ LX ↔ MnP na Ia Xa Ra fs x)) := ⟨hlx', hAx, hmx⟩
      rw [← hlx'] at hlx hcx ⊢
      have H5 : Hid (RdG w5 ax LX ∧ Below W2.heap.size W2 w5) := ⟨hrx, H4.out.trans (hb5.mono H4.out.size)⟩
      obtain ⟨e0, e7, -⟩ := HK.out w5 H5.out.2
      have e0 : w5.cell? ⟨b5, 0, none⟩ = some (.slice (some ⟨qa, oa, none⟩) na ca) := e0
      have e7 : w5.cell? ⟨b7, 0, none⟩ = some (.slice (some ⟨qb, ob, none⟩) nb cb) := e7
      clear hrx hAx hmx hlx' hb5 d0 d7 H4
      go_wp2_with fail
      refine (HSB.out w5 H5.out.2).mono ?_
      rintro e w6 ⟨ay, cy, LY, rfl, hry, hAy, hmy, hly, hcy, hcmy, hb6⟩
      obtain ⟨ly, hly'⟩ : ∃ ly, ly = LY.length := ⟨_, rfl⟩
      have HY : Hid (ly = LY.length ∧ Asc LY ∧ (∀ x, x ∈ LY ↔ MnP nb Ib Xb Rb fs x)) := ⟨hly', hAy, hmy⟩
      rw [← hly'] at hly hcy ⊢
      have H6 : Hid (∀ W, Below w6.heap.size w6 W → RdG W ax LX ∧ RdG W ay LY ∧ Below W2.heap.size W2 W) := fun W hW => ⟨(H5.out.1.below hb6).below hW, hry.below hW, (H5.out.2.trans (hb6.mono H5.out.2.size)).trans (hW.mono (Nat.le_trans H5.out.2.size hb6.size))⟩
      clear hry hAy hmy hly' hb6 e0 e7 H5
      obtain ⟨Wb, hWb⟩ : ∃ Wb, Wb = (w6.alloc (.cells #[] 9)).alloc (.cells #[] 9) := ⟨_, rfl⟩
      obtain ⟨v11, hv11⟩ : ∃ v, v = Value.slice (some ⟨w6.heap.size, 0, none⟩) 0 0 := ⟨_, rfl⟩
      obtain ⟨v12, hv12⟩ : ∃ v, v = Value.slice (some ⟨w6.heap.size + 1, 0, none⟩) 0 0 := ⟨_, rfl⟩
      have HO0 : Hid (Wb.ownsRow w6.heap.size 9 1 v11 0 (strL []) ∧ Wb.ownsRow w6.heap.size 9 1 v12 0 (strL []) ∧ v11.ownBlock ≠ v12.ownBlock ∧ Below w6.heap.size w6 Wb ∧ (∃ q, v11.ownBlock = some q) ∧ (∃ q, v12.ownBlock = some q)) := by
        have e1 := own_empty w6 9 w6.heap.size 1 (Nat.le_refl _)
        have e2 := own_empty (w6.alloc (.cells #[] 9)) 9 w6.heap.size 1 (by simp)
        rw [show (w6.alloc (.cells #[] 9)).heap.size = w6.heap.size + 1 by simp] at e2
        rw [hWb, hv11, hv12]
        refine ⟨own_below e1 (below_alloc _ _), e2, by simp [Value.ownBlock], (below_alloc _ _).trans ((below_alloc _ _).mono (by simp)), ⟨_, rfl⟩, ⟨_, rfl⟩⟩
      go_upto_region 11 with fail
      rw [← hWb, ← hv11, ← hv12]
      clear hWb hv11 hv12
      have hzb : w6.heap.size ≤ Wb.heap.size := HO0.out.2.2.2.1.size
      go_wp2_with (at_builtin; refine wpList_append_strs rfl _ _ rfl w6.heap.size (.slice (some ⟨Wb.heap.size, 0, none⟩) 0 0) 0 [] rfl (own_empty Wb 9 w6.heap.size 1 hzb) ax lx cx LX rfl HX.out.1 (by rw [HX.out.1]; exact (H6.out _ (HO0.out.2.2.2.1.trans ((below_alloc _ _).mono hzb))).1) (by omega) (by simp; omega) ?_)
      intro v13 w7 ho13 hg13 hat13
      have hz7 : w6.heap.size ≤ w7.heap.size := by have := hg13.size; simp at this; omega
      have HR0 : Hid (R3 w7 w6.heap.size v11 v12 v13 [] [] LX ∧ Below w6.heap.size w6 w7) := by
        obtain ⟨q1, q2, q3, q4, ⟨g1, q5⟩, ⟨g2, q6⟩⟩ := HO0.out
        have l1 := own_lt q1 g1 q5
        have l2 := own_lt q2 g2 q6
        have k : ∀ g, g < Wb.heap.size → w7.heap[g]? = Wb.heap[g]? := fun g hg => (hg13.block g (by simp; omega) (fun e => by simp [Value.ownBlock] at e; omega)).trans ((below_alloc Wb _).block g hg)
        have hn : ∀ g, g < Wb.heap.size → some g ≠ v13.ownBlock := fun g hg e => by
          rcases hat13 with h | h
          · rw [h] at e; simp [Value.ownBlock] at e; omega
          · rw [h] at e; simp at e; omega
        refine ⟨⟨plS_keep q1 (fun g e => k g (own_lt q1 g e).2), plS_keep q2 (fun g e => k g (own_lt q2 g e).2), by simpa [HX.out.1] using ho13, q3, by rw [q5]; exact hn g1 l1.2, by rw [q6]; exact hn g2 l2.2⟩, ?_⟩
        exact (q4.trans ((below_alloc Wb _).mono hzb)).grown hg13 (by simp; omega) (fun g e => by simp [Value.ownBlock] at e; omega)
      clear ho13 hg13 hat13 HO0
      obtain ⟨a13, c13, hv13⟩ : ∃ a c, v13 = .slice a lx c := by rw [HX.out.1]; exact own_shape HR0.out.1.o3
      subst hv13
      go_wp2
      go_loopw [11, 12, 14] (fun u v i wr => ∃ j : Nat, j ≤ lx ∧ i = .int .i64 (j : Int) ∧ R3 wr w6.heap.size u v (.slice a13 lx c13) ((LX.take j).filter (inB LY)) ((LX.take j).filter (fun z => !inB LY z)) LX ∧ Below w6.heap.size w6 wr) (fun _ _ i _ => lx - (intOf i).toNat)
      case atStart => exact ⟨0, Nat.zero_le _, rfl, HR0.out⟩
      case round =>
        obtain ⟨j, hj, rfl, hR, hbel⟩ := hrel
        have HRr : Hid (R3 wr w6.heap.size u11 u12 (.slice a13 lx c13) ((LX.take j).filter (inB LY)) ((LX.take j).filter (fun z => !inB LY z)) LX ∧ Below w6.heap.size w6 wr) := ⟨hR, hbel⟩
        have hzr := hbel.size
        clear hR hbel
        by_cases hlt : j < lx
        · have ij : (j : Int) < (lx : Int) := by omega
          have ij0 : (0 : Int) ≤ (j : Int) := by omega
          obtain ⟨qx, ox, hax, hcx2⟩ := (H6.out wr HRr.out.2).1.cell (i := j) (by rw [← HX.out.1]; exact hlt)
          subst hax
          obtain ⟨z, hz⟩ : ∃ z, z = gt LX j := ⟨_, rfl⟩
          rw [← hz] at hcx2
          have HT : Hid ((LX.take (j + 1)).filter (inB LY) = (LX.take j).filter (inB LY) ++ (if inB LY z = true then [z] else []) ∧ (LX.take (j + 1)).filter (fun z => !inB LY z) = (LX.take j).filter (fun z => !inB LY z) ++ (if inB LY z = true then [] else [z])) := by
            have e := List.take_add_one (l := LX) (i := j)
            rw [gt_get (by rw [← HX.out.1]; exact hlt), ← hz] at e
            rw [e]
            constructor
            · rw [List.filter_append]
              congr 1
              cases h : inB LY z <;> simp [h]
            · rw [List.filter_append]
              congr 1
              cases h : inB LY z <;> simp [h]
          clear hz
          obtain ⟨av, cv, hu11⟩ := own_shape HRr.out.1.o1
          obtain ⟨aw, cw, hu12⟩ := own_shape HRr.out.1.o2
          obtain ⟨l11, hl11⟩ : ∃ l, l = ((LX.take j).filter (inB LY)).length := ⟨_, rfl⟩
          obtain ⟨l12, hl12⟩ : ∃ l, l = ((LX.take j).filter (fun z => !inB LY z)).length := ⟨_, rfl⟩
          rw [← hl11] at hu11
          rw [← hl12] at hu12
          subst hu11 hu12
          have hb11 : l11 ≤ 60000 := by rw [hl11]; exact Nat.le_trans (List.length_filter_le _ _) (by rw [List.length_take]; have := HX.out.1; omega)
          have hb12 : l12 ≤ 60000 := by rw [hl12]; exact Nat.le_trans (List.length_filter_le _ _) (by rw [List.length_take]; have := HX.out.1; omega)
          have HLn : Hid (l11 = ((LX.take j).filter (inB LY)).length ∧ l12 = ((LX.take j).filter (fun z => !inB LY z)).length) := ⟨hl11, hl12⟩
          clear hl11 hl12
          obtain ⟨i0, hi, hz0, hz1, hz2⟩ := info_parts infoStr
          have HI : Hid (Try.prog.info? 9 = some i0 ∧ i0.zero = some (.string { data := #[] }) ∧ i0.size = 1 ∧ i0.bytes = 16) := ⟨hi, hz0, hz1, hz2⟩
          clear hi hz0 hz1 hz2
          have HHas : Hid (Calls Try.prog 9 #[.slice ay ly cy, .string z] wr fun e w' => ∃ b : Bool, e = .returned (.bool b) ∧ (b = true ↔ z ∈ LY) ∧ w' = wr) := by
            rw [HY.out.1]
            exact lwHas_any ay cy LY z wr (H6.out wr HRr.out.2).2.1 (by rw [← HY.out.1]; omega)
          go_wp2_with fail
          with_reducible refine HHas.out.mono ?_
          rintro e w8 ⟨bb, rfl, hbb, rfl⟩
          rw [← inB_iff] at hbb
          cases bb with
          | true =>
            have hin : inB LY z = true := hbb.1 rfl
            have HT2 : Hid ((LX.take (j + 1)).filter (inB LY) = (LX.take j).filter (inB LY) ++ [z] ∧ (LX.take (j + 1)).filter (fun z => !inB LY z) = (LX.take j).filter (fun z => !inB LY z)) := by
              have := HT.out
              rw [if_pos hin, if_pos hin, List.append_nil] at this
              exact this
            clear hbb hin HT
            have HRa : Hid (R3 (w8.alloc (.cells #[.string z] 9)) w6.heap.size (.slice av l11 cv) (.slice aw l12 cw) (.slice a13 lx c13) ((LX.take j).filter (inB LY)) ((LX.take j).filter (fun z => !inB LY z)) LX) := HRr.out.1.below (below_alloc _ _)
            have HRo1 : Hid ((w8.alloc (.cells #[.string z] 9)).ownsRow w6.heap.size 9 1 (.slice av l11 cv) l11 (strL ((LX.take j).filter (inB LY)))) := by
              have q := HRa.out.o1
              rw [← HLn.out.1] at q
              exact q
            go_wp2_with (at_builtin; refine wpList_append_own_at _ rfl _ _ 30 rfl w6.heap.size 9 i0 (.string { data := #[] }) 1 16 Try.underlying30 HI.out.1 HI.out.2.1 HI.out.2.2.1 HI.out.2.2.2 rfl (by decide) (.slice av l11 cv) l11 _ rfl HRo1.out ⟨w8.heap.size, 0, none⟩ 1 1 [.string z] rfl rfl (cell_one_new _ _ _) (by intro u hu; simp at hu; subst hu; rfl) (by unfold maxLen; omega) (by omega) (by simp; omega) ?_)
            intro v' w9 ho9 hg9 _ hat9
            have HX9 : Hid (R3 w9 w6.heap.size v' (.slice aw l12 cw) (.slice a13 lx c13) ((LX.take (j + 1)).filter (inB LY)) ((LX.take (j + 1)).filter (fun z => !inB LY z)) LX ∧ Below w6.heap.size w6 w9) := by
              rw [HT2.out.1, HT2.out.2]
              exact ⟨HRa.out.app1 HLn.out.1 ho9 hg9 (by rw [show (w8.alloc (.cells #[.string z] 9)).heap.size = w8.heap.size + 1 by simp]; exact hat9), (HRr.out.2.alloc hzr _).grown hg9 (by simp; omega) (fun g e => (own_lt HRr.out.1.o1 g e).1)⟩
            clear ho9 hg9 hat9
            go_wp2
            go_roundw
            case rel => exact ⟨j + 1, by omega, by go_num, HX9.out⟩
            case measure => simp [intOf]; omega
          | false =>
            have hin : ¬ inB LY z = true := fun h => by have := hbb.2 h; cases this
            have HT2 : Hid ((LX.take (j + 1)).filter (inB LY) = (LX.take j).filter (inB LY) ∧ (LX.take (j + 1)).filter (fun z => !inB LY z) = (LX.take j).filter (fun z => !inB LY z) ++ [z]) := by
              have := HT.out
              rw [if_neg hin, if_neg hin, List.append_nil] at this
              exact this
            clear hbb hin HT
            have HRa : Hid (R3 (w8.alloc (.cells #[.string z] 9)) w6.heap.size (.slice av l11 cv) (.slice aw l12 cw) (.slice a13 lx c13) ((LX.take j).filter (inB LY)) ((LX.take j).filter (fun z => !inB LY z)) LX) := HRr.out.1.below (below_alloc _ _)
            have HRo2 : Hid ((w8.alloc (.cells #[.string z] 9)).ownsRow w6.heap.size 9 1 (.slice aw l12 cw) l12 (strL ((LX.take j).filter (fun z => !inB LY z)))) := by
              have q := HRa.out.o2
              rw [← HLn.out.2] at q
              exact q
            go_wp2_with (at_builtin; refine wpList_append_own_at _ rfl _ _ 30 rfl w6.heap.size 9 i0 (.string { data := #[] }) 1 16 Try.underlying30 HI.out.1 HI.out.2.1 HI.out.2.2.1 HI.out.2.2.2 rfl (by decide) (.slice aw l12 cw) l12 _ rfl HRo2.out ⟨w8.heap.size, 0, none⟩ 1 1 [.string z] rfl rfl (cell_one_new _ _ _) (by intro u hu; simp at hu; subst hu; rfl) (by unfold maxLen; omega) (by omega) (by simp; omega) ?_)
            intro v' w9 ho9 hg9 _ hat9
            have HX9 : Hid (R3 w9 w6.heap.size (.slice av l11 cv) v' (.slice a13 lx c13) ((LX.take (j + 1)).filter (inB LY)) ((LX.take (j + 1)).filter (fun z => !inB LY z)) LX ∧ Below w6.heap.size w6 w9) := by
              rw [HT2.out.1, HT2.out.2]
              exact ⟨(HRa.out.swap.app1 HLn.out.2 ho9 hg9 (by rw [show (w8.alloc (.cells #[.string z] 9)).heap.size = w8.heap.size + 1 by simp]; exact hat9)).swap, (HRr.out.2.alloc hzr _).grown hg9 (by simp; omega) (fun g e => (own_lt HRr.out.1.o2 g e).1)⟩
            clear ho9 hg9 hat9
            go_wp2
            go_roundw
            case rel => exact ⟨j + 1, by omega, by go_num, HX9.out⟩
            case measure => simp [intOf]; omega
        · obtain rfl : j = lx := by omega
          have ij : ¬ (j : Int) < (j : Int) := by omega
          have ht : LX.take j = LX := by rw [HX.out.1]; exact List.take_length
          obtain ⟨Lb, hLb⟩ : ∃ L, L = LX.filter (inB LY) := ⟨_, rfl⟩
          obtain ⟨Ld, hLd⟩ : ∃ L, L = LX.filter (fun z => !inB LY z) := ⟨_, rfl⟩
          rw [ht, ← hLb, ← hLd] at HRr
          obtain ⟨a11, c11, hu11, hr11, hc11, hcm11⟩ := ownS_strL HRr.out.1.o1 rfl
          obtain ⟨a12, c12, hu12, hr12, hc12, hcm12⟩ := ownS_strL HRr.out.1.o2 rfl
          obtain ⟨a13', c13', hu13, hr13, hc13, hcm13⟩ := ownS_strL HRr.out.1.o3 rfl
          rw [← HX.out.1] at hu13 hc13
          injection hu13 with q1 _ q2
          subst q1 q2
          obtain ⟨lb, hlb⟩ : ∃ l, l = Lb.length := ⟨_, rfl⟩
          obtain ⟨ld, hld⟩ : ∃ l, l = Ld.length := ⟨_, rfl⟩
          rw [← hlb] at hu11
          rw [← hld] at hu12
          subst hu11 hu12
          have HBD : Hid (lb = Lb.length ∧ ld = Ld.length ∧ Asc Lb ∧ Asc Ld ∧ (∀ x, x ∈ Lb ↔ MnP na Ia Xa Ra fs x ∧ MnP nb Ib Xb Rb fs x) ∧ (∀ x, x ∈ Ld ↔ MnP na Ia Xa Ra fs x ∧ ¬ MnP nb Ib Xb Rb fs x) ∧ lb ≤ 60000 ∧ ld ≤ 60000) := by
            refine ⟨hlb, hld, by rw [hLb]; exact List.Pairwise.filter _ HX.out.2.1, by rw [hLd]; exact List.Pairwise.filter _ HX.out.2.1, fun x => ?_, fun x => ?_, ?_, ?_⟩
            · rw [hLb, List.mem_filter, inB_iff, HX.out.2.2, HY.out.2.2]
            · rw [hLd, List.mem_filter, HX.out.2.2, ← HY.out.2.2, ← inB_iff (L := LY)]
              cases inB LY x <;> simp
            · rw [hlb, hLb]; exact Nat.le_trans (List.length_filter_le _ _) (by rw [← HX.out.1]; omega)
            · rw [hld, hLd]; exact Nat.le_trans (List.length_filter_le _ _) (by rw [← HX.out.1]; omega)
          have H8 : Hid (∀ W, Below wr.heap.size wr W → RdG W a11 Lb ∧ RdG W a12 Ld ∧ RdG W ax LX ∧ RdG W ay LY ∧ Below W2.heap.size W2 W) := fun W hW => by
            have q := H6.out W (HRr.out.2.trans (hW.mono HRr.out.2.size))
            exact ⟨RdG.below hr11.rd hW, RdG.below hr12.rd hW, q⟩
          have HL0 : Hid (LstA wr (.slice a13 j c13) j (fun z => z ∈ LX ∨ z ∈ LY.take 0)) := ⟨a13, c13, LX, by rw [HX.out.1], hr13.rd, HX.out.2.1, fun x => by simp, by rw [HX.out.1]; exact Nat.le_refl _, by rw [← HX.out.1]; exact hc13, hcm13⟩
          clear hr11 hr12 hr13 hLb hLd hlb hld ht HRr
          generalize wr = w8 at *
          go_wp2
          go_loopw [13, 15] (fun u i wq => ∃ k : Nat, k ≤ ly ∧ i = .int .i64 (k : Int) ∧ LstA wq u (j + k) (fun z => z ∈ LX ∨ z ∈ LY.take k) ∧ Below w8.heap.size w8 wq) (fun _ i _ => ly - (intOf i).toNat)
          case atStart => exact ⟨0, Nat.zero_le _, rfl, HL0.out, Below.refl _ _⟩
          case round =>
            obtain ⟨k, hk, rfl, hL, hbel⟩ := hrel
            have hzr := hbel.size
            have HLk : Hid (LstA wr u13 (j + k) (fun z => z ∈ LX ∨ z ∈ LY.take k) ∧ Below w8.heap.size w8 wr) := ⟨hL, hbel⟩
            clear hL hbel HL0
            by_cases hlt : k < ly
            · have ik : (k : Int) < (ly : Int) := by omega
              have ik0 : (0 : Int) ≤ (k : Int) := by omega
              obtain ⟨qy, oy, hay, hcy2⟩ := (H8.out wr HLk.out.2).2.2.2.1.cell (i := k) (by rw [← HY.out.1]; exact hlt)
              subst hay
              obtain ⟨z, hz⟩ : ∃ z, z = gt LY k := ⟨_, rfl⟩
              rw [← hz] at hcy2
              have HTk : Hid (LY.take (k + 1) = LY.take k ++ [z]) := by
                have e := List.take_add_one (l := LY) (i := k)
                rw [gt_get (by rw [← HY.out.1]; exact hlt), ← hz] at e
                exact e
              clear hz
              have HPut : Hid (Calls Try.prog 10 #[u13, .string z] wr fun e w' => ∃ v', e = .returned v' ∧ LstA w' v' (j + k + 1) (fun x => (x ∈ LX ∨ x ∈ LY.take k) ∨ x = z) ∧ Below wr.heap.size wr w') := lwPut_v _ _ _ z wr HLk.out.1 (by omega)
              go_wp2_with fail
              with_reducible refine HPut.out.mono ?_
              rintro e w9 ⟨v', rfl, hl9, hb9⟩
              have HX9 : Hid (LstA w9 v' (j + (k + 1)) (fun x => x ∈ LX ∨ x ∈ LY.take (k + 1)) ∧ Below w8.heap.size w8 w9) := ⟨hl9.congr (fun x => by rw [HTk.out, List.mem_append, List.mem_singleton, or_assoc]) (by omega), HLk.out.2.trans (hb9.mono HLk.out.2.size)⟩
              clear hl9 hb9 HPut
              go_wp2
              go_roundw
              case rel => exact ⟨k + 1, by omega, by go_num, HX9.out⟩
              case measure => simp [intOf]; omega
            · obtain rfl : k = ly := by omega
              have ik : ¬ (k : Int) < (k : Int) := by omega
              have hty : LY.take k = LY := by rw [HY.out.1]; exact List.take_length
              rw [hty] at HLk
              obtain ⟨a13', c13', Le, hu13, hre, hAe, hme, hle, hce, hcme⟩ := HLk.out.1
              obtain ⟨le, hle'⟩ : ∃ le, le = Le.length := ⟨_, rfl⟩
              rw [← hle'] at hu13 hle hce
              subst hu13
              have HE : Hid (le = Le.length ∧ Asc Le ∧ (∀ x, x ∈ Le ↔ MnP na Ia Xa Ra fs x ∨ MnP nb Ib Xb Rb fs x)) := ⟨hle', hAe, fun x => by rw [hme]; show (_ ∨ _) ↔ _; rw [HX.out.2.2, HY.out.2.2]⟩
              have H9 : Hid (∀ W, Below wr.heap.size wr W → RdG W a11 Lb ∧ RdG W a12 Ld ∧ RdG W a13' Le ∧ RdG W ax LX ∧ Below W2.heap.size W2 W) := fun W hW => by
                have q := H8.out W (HLk.out.2.trans (hW.mono HLk.out.2.size))
                exact ⟨q.1, q.2.1, hre.below hW, q.2.2.1, q.2.2.2.2⟩
              clear hre hAe hme hle' hty HLk
              generalize wr = w9 at *
              obtain ⟨f0, f7, fra, frb, -, -⟩ := HK.out w9 (H9.out w9 (Below.refl _ _)).2.2.2.2
              have f0 : w9.cell? ⟨b5, 0, none⟩ = some (.slice (some ⟨qa, oa, none⟩) na ca) := f0
              have f7 : w9.cell? ⟨b7, 0, none⟩ = some (.slice (some ⟨qb, ob, none⟩) nb cb) := f7
              have hna1 := HVA.out.1.1
              have hnb1 := HVB.out.1.1
              have HRab : Hid (RdN w9 (some ⟨qa, oa, none⟩) na Ia Xa Ra ∧ RdN w9 (some ⟨qb, ob, none⟩) nb Ib Xb Rb) := ⟨fra, frb⟩
              clear fra frb
              go_upto_region 22 with fail
              refine wp_region_lateT (S := fun W => Below w9.heap.size w9 W) 7 (by kernel_rfl) (Below.refl _ _).drew (fun W hHeld => ?_)
              refine tk 1 (.succ .zero) (v := .pointer (some ⟨b5, 0, none⟩)) ?_ ?_
              · intro w' h
                clear h
                go_simp
              simp only [tkp]
              refine tk 2 (.succ (.succ .zero)) (v := .slice (some ⟨qa, oa, none⟩) na ca) ?_ ?_
              · intro w' h
                have q : w'.cell? ⟨b5, 0, none⟩ = some (.slice (some ⟨qa, oa, none⟩) na ca) := (h.cell (p := ⟨b5, 0, none⟩) (World.block_lt_of_cell? _ _ f0)).trans f0
                clear h
                go_simp
              simp only [tkp]
              refine tk 4 (.succ (.succ (.succ (.succ .zero)))) (v := .pointer (some ⟨b7, 0, none⟩)) ?_ ?_
              · intro w' h
                clear h
                go_simp
              simp only [tkp]
              refine tk 5 (.succ (.succ (.succ (.succ (.succ .zero))))) (v := .slice (some ⟨qb, ob, none⟩) nb cb) ?_ ?_
              · intro w' h
                have q : w'.cell? ⟨b7, 0, none⟩ = some (.slice (some ⟨qb, ob, none⟩) nb cb) := (h.cell (p := ⟨b7, 0, none⟩) (World.block_lt_of_cell? _ _ f7)).trans f7
                clear h
                go_simp
              simp only [tkp]
              refine tk1 0 .zero (fun K hK => ?_)
              skip
              go_simp
              refine hK.out _ _ (fun _ => hHeld.alloc hHeld.size _) (fun hG => ?_)
              clear hK K hG
              try simp only [tkp]
              refine tk1 3 (.succ (.succ (.succ .zero))) (fun K hK => ?_)
              refine step_pn rfl (.tmp 113) (.tmp 115) rfl w9.heap.size (.slice (some ⟨W.heap.size, 0, none⟩) 0 0) 0 Ia Xa Ra rfl (PnO.nil W _ hHeld.size Ia Xa Ra) qa oa na ca Ia Xa Ra rfl (HRab.out.1.below (hHeld.alloc hHeld.size _)) hna1 (by omega) (by have := hHeld.size; simp; omega) ?_
              intro v3 w10 hp10 hg10
              have hb10 : Below w9.heap.size w9 w10 := (hHeld.alloc hHeld.size _).grown hg10 (by have := hHeld.size; simp; omega) (fun g e => by have := hHeld.size; simp [Value.ownBlock] at e; omega)
              rw [catF_zero, catF_zero, catF_zero, Nat.zero_add] at hp10
              refine hK.out _ _ (fun _ => hb10) (fun hG => ?_)
              clear hK K hG hg10 hHeld
              simp only [tkp]
              refine tk1 6 (.succ (.succ (.succ (.succ (.succ (.succ .zero)))))) (fun K hK => ?_)
              refine step_pn rfl (.tmp 116) (.tmp 118) rfl w9.heap.size v3 na Ia Xa Ra rfl hp10 qb ob nb cb Ib Xb Rb rfl (HRab.out.2.below hb10) hnb1 (by omega) hb10.size ?_
              intro v4 w11 hp11 hg11
              have hb11 : Below w9.heap.size w9 w11 := hb10.grown hg11 hb10.size (fun g e => (own_lt hp10 g e).1)
              refine hK.out _ _ (fun _ => hb11) (fun hG => ?_)
              clear hK K hG hg11 hp10 hb10
              simp only [tkp]
              refine tk1 7 (.succ (.succ (.succ (.succ (.succ (.succ (.succ .zero))))))) (fun K hK => ?_)
              go_simp
              refine hK.out _ _ (fun hne => absurd rfl hne) (fun hG => ?_)
              clear hK K hG
              refine wpLate_done (by kernel_rfl) ?_ _
              obtain ⟨g4, c4, rfl, hg4, hr4, hc4, hcm4⟩ := hp11.rd (by omega)
              obtain ⟨nn, hnn⟩ : ∃ nn, nn = na + nb := ⟨_, rfl⟩
              have HN : Hid (nn = na + nb) := hnn
              rw [← hnn] at hr4 hc4 ⊢
              have hnn1 : 0 < nn ∧ nn ≤ 200 := by have := HVA.out.1.2; have := HVB.out.1.2; omega
              have HT0 : Hid (RdN w11 (some ⟨g4, 0, none⟩) nn (catF na Ia Ib) (catF na Xa Xb) (catF na Ra Rb) ∧ Below w9.heap.size w9 w11) := ⟨hr4, hb11⟩
              clear hp11 hr4 hb11 hg4 hnn f0 f7 HRab
              go_upto_region 23 with fail
              generalize W.heap.size = wz at *
              go_wp2_with (at_builtin; refine app_pn rfl _ _ rfl w11.heap.size (.slice (some ⟨w11.heap.size, 0, none⟩) 0 0) 0 Ia Xa Ra rfl (PnO.nil w11 _ (Nat.le_refl _) Ia Xa Ra) g4 0 nn c4 (catF na Ia Ib) (catF na Xa Xb) (catF na Ra Rb) rfl (RdN.below HT0.out.1 (below_alloc _ _)) hnn1.1 (by omega) (by simp) ?_)
              intro v6a w6a hp6a hg6a
              rw [catF_zero, catF_zero, catF_zero] at hp6a
              have hb6a : Below w11.heap.size w11 w6a := (below_alloc _ _).grown hg6a (by simp) (fun g e => by simp [Value.ownBlock] at e; omega)
              have HP6a : Hid (PnO w6a w11.heap.size v6a nn (catF na Ia Ib) (catF na Xa Xb) (catF na Ra Rb) ∧ Below w11.heap.size w11 w6a) := ⟨hp6a, hb6a⟩
              have hz6a := hb6a.size
              obtain ⟨s6a, t6a, hs6a⟩ := own_shape hp6a
              subst hs6a
              clear hp6a hg6a hb6a
              go_wp2_with (at_builtin; refine app_pn rfl _ _ rfl w11.heap.size (.slice s6a nn t6a) nn (catF na Ia Ib) (catF na Xa Xb) (catF na Ra Rb) rfl (HP6a.out.1.below (below_alloc _ _)) w6a.heap.size 0 1 1 (fun _ => 6) (fun _ => eB) (fun _ => eB) rfl (rdN_lit w6a 6 eB eB) (by omega) (by omega) (by simp; omega) ?_)
              intro v6b w6b hp6b hg6b
              have hb6b : Below w11.heap.size w11 w6b := (HP6a.out.2.alloc hz6a _).grown hg6b (by simp; omega) (fun g e => (own_lt HP6a.out.1 g e).1)
              obtain ⟨g6, c6, rfl, -, hr6, hc6, hcm6⟩ := hp6b.rd (by omega)
              obtain ⟨W12, hW12⟩ : ∃ W, W = w6b.alloc (.cells #[.slice (some ⟨g6, 0, none⟩) (nn + 1) c6] 25) := ⟨_, rfl⟩
              have hbb6 : Below w6b.heap.size w6b W12 := by rw [hW12]; exact below_alloc _ _
              have hbx6 : Bx1 W12 w6b.heap.size (.slice (some ⟨g6, 0, none⟩) (nn + 1) c6) := by rw [hW12]; exact Bx1.new _ _ _
              have hbt6 : Below w11.heap.size w11 W12 := hb6b.trans (hbb6.mono hb6b.size)
              have HT1 : Hid (RdN W12 (some ⟨g4, 0, none⟩) nn (catF na Ia Ib) (catF na Xa Xb) (catF na Ra Rb) ∧ Below w9.heap.size w9 W12) := ⟨RdN.below HT0.out.1 hbt6, Below.trans HT0.out.2 (hbt6.mono (Below.size HT0.out.2))⟩
              have HQ6 : Hid (∀ W, Below W12.heap.size W12 W → Bx1 W w6b.heap.size (.slice (some ⟨g6, 0, none⟩) (nn + 1) c6) ∧ RdN W (some ⟨g6, 0, none⟩) (nn + 1) (catE na nb Ia Ib 6) (catE na nb Xa Xb eB) (catE na nb Ra Rb eB)) := fun W hW => ⟨hbx6.below hW, by
                have q := RdN.below (RdN.below hr6 hbb6) hW
                rw [HN.out] at q ⊢
                exact q⟩
              have HS6 : Hid (Below w11.heap.size w11 W12) := hbt6
              clear hp6b hg6b hb6b hr6 hbb6 hbx6 hbt6 HP6a
              go_upto_region 24 with fail
              rw [← hW12]
              clear hW12 hz6a
              generalize w6b.heap.size = b17 at *
              go_wp2_with (at_builtin; refine app_pn rfl _ _ rfl W12.heap.size (.slice (some ⟨W12.heap.size, 0, none⟩) 0 0) 0 Ia Xa Ra rfl (PnO.nil W12 _ (Nat.le_refl _) Ia Xa Ra) g4 0 nn c4 (catF na Ia Ib) (catF na Xa Xb) (catF na Ra Rb) rfl (RdN.below HT1.out.1 (below_alloc _ _)) hnn1.1 (by omega) (by simp) ?_)
              intro v7a w7a hp7a hg7a
              rw [catF_zero, catF_zero, catF_zero] at hp7a
              have hb7a : Below W12.heap.size W12 w7a := (below_alloc _ _).grown hg7a (by simp) (fun g e => by simp [Value.ownBlock] at e; omega)
              have HP7a : Hid (PnO w7a W12.heap.size v7a nn (catF na Ia Ib) (catF na Xa Xb) (catF na Ra Rb) ∧ Below W12.heap.size W12 w7a) := ⟨hp7a, hb7a⟩
              have hz7a := hb7a.size
              obtain ⟨s7a, t7a, hs7a⟩ := own_shape hp7a
              subst hs7a
              clear hp7a hg7a hb7a
              go_wp2_with (at_builtin; refine app_pn rfl _ _ rfl W12.heap.size (.slice s7a nn t7a) nn (catF na Ia Ib) (catF na Xa Xb) (catF na Ra Rb) rfl (HP7a.out.1.below (below_alloc _ _)) w7a.heap.size 0 1 1 (fun _ => 7) (fun _ => eB) (fun _ => eB) rfl (rdN_lit w7a 7 eB eB) (by omega) (by omega) (by simp; omega) ?_)
              intro v7b w7b hp7b hg7b
              have hb7b : Below W12.heap.size W12 w7b := (HP7a.out.2.alloc hz7a _).grown hg7b (by simp; omega) (fun g e => (own_lt HP7a.out.1 g e).1)
              obtain ⟨g7, c7, rfl, -, hr7, hc7, hcm7⟩ := hp7b.rd (by omega)
              obtain ⟨W13, hW13⟩ : ∃ W, W = w7b.alloc (.cells #[.slice (some ⟨g7, 0, none⟩) (nn + 1) c7] 25) := ⟨_, rfl⟩
              have hbb7 : Below w7b.heap.size w7b W13 := by rw [hW13]; exact below_alloc _ _
              have hbx7 : Bx1 W13 w7b.heap.size (.slice (some ⟨g7, 0, none⟩) (nn + 1) c7) := by rw [hW13]; exact Bx1.new _ _ _
              have hbt7 : Below W12.heap.size W12 W13 := hb7b.trans (hbb7.mono hb7b.size)
              have HT2 : Hid (RdN W13 (some ⟨g4, 0, none⟩) nn (catF na Ia Ib) (catF na Xa Xb) (catF na Ra Rb) ∧ Below w9.heap.size w9 W13) := ⟨RdN.below HT1.out.1 hbt7, Below.trans HT1.out.2 (hbt7.mono (Below.size HT1.out.2))⟩
              have HQ7 : Hid (∀ W, Below W13.heap.size W13 W → Bx1 W w7b.heap.size (.slice (some ⟨g7, 0, none⟩) (nn + 1) c7) ∧ RdN W (some ⟨g7, 0, none⟩) (nn + 1) (catE na nb Ia Ib 7) (catE na nb Xa Xb eB) (catE na nb Ra Rb eB)) := fun W hW => ⟨hbx7.below hW, by
                have q := RdN.below (RdN.below hr7 hbb7) hW
                rw [HN.out] at q ⊢
                exact q⟩
              have HS7 : Hid (Below W12.heap.size W12 W13) := hbt7
              clear hp7b hg7b hb7b hr7 hbb7 hbx7 hbt7 HP7a
              go_upto_region 25 with fail
              rw [← hW13]
              clear hW13 hz7a
              generalize w7b.heap.size = b18 at *
              go_wp2_with (at_builtin; refine app_pn rfl _ _ rfl W13.heap.size (.slice (some ⟨W13.heap.size, 0, none⟩) 0 0) 0 Ia Xa Ra rfl (PnO.nil W13 _ (Nat.le_refl _) Ia Xa Ra) g4 0 nn c4 (catF na Ia Ib) (catF na Xa Xb) (catF na Ra Rb) rfl (RdN.below HT2.out.1 (below_alloc _ _)) hnn1.1 (by omega) (by simp) ?_)
              intro v8a w8a hp8a hg8a
              rw [catF_zero, catF_zero, catF_zero] at hp8a
              have hb8a : Below W13.heap.size W13 w8a := (below_alloc _ _).grown hg8a (by simp) (fun g e => by simp [Value.ownBlock] at e; omega)
              have HP8a : Hid (PnO w8a W13.heap.size v8a nn (catF na Ia Ib) (catF na Xa Xb) (catF na Ra Rb) ∧ Below W13.heap.size W13 w8a) := ⟨hp8a, hb8a⟩
              have hz8a := hb8a.size
              obtain ⟨s8a, t8a, hs8a⟩ := own_shape hp8a
              subst hs8a
              clear hp8a hg8a hb8a
              go_wp2_with (at_builtin; refine app_pn rfl _ _ rfl W13.heap.size (.slice s8a nn t8a) nn (catF na Ia Ib) (catF na Xa Xb) (catF na Ra Rb) rfl (HP8a.out.1.below (below_alloc _ _)) w8a.heap.size 0 1 1 (fun _ => 8) (fun _ => eB) (fun _ => eB) rfl (rdN_lit w8a 8 eB eB) (by omega) (by omega) (by simp; omega) ?_)
              intro v8b w8b hp8b hg8b
              have hb8b : Below W13.heap.size W13 w8b := (HP8a.out.2.alloc hz8a _).grown hg8b (by simp; omega) (fun g e => (own_lt HP8a.out.1 g e).1)
              obtain ⟨g8, c8, rfl, -, hr8, hc8, hcm8⟩ := hp8b.rd (by omega)
              obtain ⟨W14, hW14⟩ : ∃ W, W = w8b.alloc (.cells #[.slice (some ⟨g8, 0, none⟩) (nn + 1) c8] 25) := ⟨_, rfl⟩
              have hbb8 : Below w8b.heap.size w8b W14 := by rw [hW14]; exact below_alloc _ _
              have hbx8 : Bx1 W14 w8b.heap.size (.slice (some ⟨g8, 0, none⟩) (nn + 1) c8) := by rw [hW14]; exact Bx1.new _ _ _
              have hbt8 : Below W13.heap.size W13 W14 := hb8b.trans (hbb8.mono hb8b.size)
              have HT3 : Hid (RdN W14 (some ⟨g4, 0, none⟩) nn (catF na Ia Ib) (catF na Xa Xb) (catF na Ra Rb) ∧ Below w9.heap.size w9 W14) := ⟨RdN.below HT2.out.1 hbt8, Below.trans HT2.out.2 (hbt8.mono (Below.size HT2.out.2))⟩
              have HQ8 : Hid (∀ W, Below W14.heap.size W14 W → Bx1 W w8b.heap.size (.slice (some ⟨g8, 0, none⟩) (nn + 1) c8) ∧ RdN W (some ⟨g8, 0, none⟩) (nn + 1) (catE na nb Ia Ib 8) (catE na nb Xa Xb eB) (catE na nb Ra Rb eB)) := fun W hW => ⟨hbx8.below hW, by
                have q := RdN.below (RdN.below hr8 hbb8) hW
                rw [HN.out] at q ⊢
                exact q⟩
              have HS8 : Hid (Below W13.heap.size W13 W14) := hbt8
              clear hp8b hg8b hb8b hr8 hbb8 hbx8 hbt8 HP8a
              go_upto_region 26 with fail
              rw [← hW14]
              clear hW14 hz8a
              generalize w8b.heap.size = b19 at *
              have HALL : Hid (∀ W, Below W14.heap.size W14 W → (Bx1 W b17 (.slice (some ⟨g6, 0, none⟩) (nn + 1) c6) ∧ RdN W (some ⟨g6, 0, none⟩) (nn + 1) (catE na nb Ia Ib 6) (catE na nb Xa Xb eB) (catE na nb Ra Rb eB)) ∧ (Bx1 W b18 (.slice (some ⟨g7, 0, none⟩) (nn + 1) c7) ∧ RdN W (some ⟨g7, 0, none⟩) (nn + 1) (catE na nb Ia Ib 7) (catE na nb Xa Xb eB) (catE na nb Ra Rb eB)) ∧ (Bx1 W b19 (.slice (some ⟨g8, 0, none⟩) (nn + 1) c8) ∧ RdN W (some ⟨g8, 0, none⟩) (nn + 1) (catE na nb Ia Ib 8) (catE na nb Xa Xb eB) (catE na nb Ra Rb eB)) ∧ Below w9.heap.size w9 W) := fun W hW => by
                have h34 : Below W13.heap.size W13 W := HS8.out.trans (hW.mono HS8.out.size)
                have h24 : Below W12.heap.size W12 W := HS7.out.trans (h34.mono HS7.out.size)
                exact ⟨HQ6.out W h24, HQ7.out W h34, HQ8.out W hW, HT3.out.2.trans (hW.mono HT3.out.2.size)⟩
              have HFW : Hid (∀ W, Below W14.heap.size W14 W → RdF W fa fs ∧ Bx1 W b5 (.slice (some ⟨qa, oa, none⟩) na ca) ∧ RdG W a11 Lb ∧ RdG W a12 Ld ∧ RdG W a13' Le ∧ RdG W ax LX ∧ Below W2.heap.size W2 W ∧ Below w.heap.size w W) := fun W hW => by
                have q := H9.out W (HALL.out W hW).2.2.2
                have r := HK.out W q.2.2.2.2
                exact ⟨r.2.2.2.2.1, r.1, q.1, q.2.1, q.2.2.1, q.2.2.2.1, q.2.2.2.2, r.2.2.2.2.2⟩
              clear HQ6 HQ7 HQ8 HS6 HS7 HS8 HT0 HT1 HT2 HT3
              go_cut [166] from 24 to 232 (fun s166 wx => s166 = .bool false ∧ Below W14.heap.size W14 wx)
              case first =>
                obtain ⟨x0, -⟩ := (HALL.out W14 (Below.refl _ _)).1
                have x0 : W14.cell? ⟨b17, 0, none⟩ = some (.slice (some ⟨g6, 0, none⟩) (nn + 1) c6) := x0
                go_wp2_with fail
                refine (specVP _ (nn + 1) c6 _ _ _ W14 (HALL.out W14 (Below.refl _ _)).1.2 (by omega) hc6 hcm6).mono ?_
                rintro e w15 ⟨vo, rfl, hvo, hb15⟩
                cases vo with
                | false =>
                  clear hvo x0
                  go_wp2
                  go_meet
                  exact ⟨rfl, hb15⟩
                | true =>
                  have HV6 : Hid (VPth (na + nb + 1) (catE na nb Ia Ib 6) (catE na nb Xa Xb eB) (catE na nb Ra Rb eB)) := by
                    have q := hvo.1 rfl
                    rw [HN.out] at q
                    exact q
                  have H15 : Hid (Below W14.heap.size W14 w15) := hb15
                  clear hvo hb15 x0
                  have HMO6 : Hid (∀ W, Below W14.heap.size W14 W → Calls Try.prog 7 #[.agg #[.slice (some ⟨g6, 0, none⟩) (nn + 1) c6], .slice fa fl fc] W fun e w' => ∃ am cm, e = .returned (.slice am lb cm) ∧ RdG w' am Lb ∧ Below W.heap.size W w') := fun W hW => by
                    have q : RdN W (some ⟨g6, 0, none⟩) (nn + 1) (catE na nb Ia Ib 6) (catE na nb Xa Xb eB) (catE na nb Ra Rb eB) := (HALL.out W hW).1.2
                    rw [HFL.out.1]
                    refine (implMe srt_ok _ (nn + 1) c6 _ _ _ fa fc fs W q (HFW.out W hW).1 HFL.out.2 (by omega) hc6 hcm6 (by rw [← HFL.out.1]; omega)).mono ?_
                    intro e w' hr
                    obtain ⟨am, cm, Lm, rfl, hrm, hAm, hmm, hbm⟩ := hr.rd
                    have eL : Lm = Lb := asc_ext hAm HBD.out.2.2.1 (fun x => by
                      rw [hmm, HN.out, mean_op (k := 6) (by omega) HVA.out HVB.out (vp_op (by omega) (by omega) HV6.out) (by rw [← HFL.out.1]; omega), HBD.out.2.2.2.2.1]
                      rfl)
                    rw [eL, ← HBD.out.1]
                    exact ⟨am, cm, rfl, by rw [← eL]; exact hrm, hbm⟩
                  obtain ⟨y6, -⟩ := (HALL.out w15 H15.out).1
                  have y6 : w15.cell? ⟨b17, 0, none⟩ = some (.slice (some ⟨g6, 0, none⟩) (nn + 1) c6) := y6
                  go_wp2_with fail
                  with_reducible refine (HMO6.out w15 H15.out).mono ?_
                  rintro e w6m ⟨am6, cm6, rfl, hrm6, hbm6⟩
                  have hbn6 : Below W14.heap.size W14 w6m := H15.out.trans (hbm6.mono H15.out.size)
                  have HLT6 : Hid (Calls Try.prog 11 #[.slice am6 lb cm6, .slice a11 lb c11] w6m fun e w' => e = .returned (.bool true) ∧ Below w6m.heap.size w6m w') := lwTexts_any am6 a11 lb lb cm6 c11 Lb HBD.out.1 HBD.out.1 w6m hrm6 (HFW.out w6m hbn6).2.2.1 (by have := HBD.out.2.2.2.2.2.2; omega)
                  have HB6m : Hid (Below W14.heap.size W14 w6m) := hbn6
                  clear hrm6 hbm6 hbn6 y6
                  go_wp2_with fail
                  with_reducible refine HLT6.out.mono ?_
                  rintro e w16 ⟨rfl, hbw16⟩
                  have H16 : Hid (Below W14.heap.size W14 w16) := HB6m.out.trans (hbw16.mono HB6m.out.size)
                  clear hbw16 HLT6 HMO6
                  have HMO7 : Hid (∀ W, Below W14.heap.size W14 W → Calls Try.prog 7 #[.agg #[.slice (some ⟨g7, 0, none⟩) (nn + 1) c7], .slice fa fl fc] W fun e w' => ∃ am cm, e = .returned (.slice am le cm) ∧ RdG w' am Le ∧ Below W.heap.size W w') := fun W hW => by
                    have q : RdN W (some ⟨g7, 0, none⟩) (nn + 1) (catE na nb Ia Ib 7) (catE na nb Xa Xb eB) (catE na nb Ra Rb eB) := (HALL.out W hW).2.1.2
                    rw [HFL.out.1]
                    refine (implMe srt_ok _ (nn + 1) c7 _ _ _ fa fc fs W q (HFW.out W hW).1 HFL.out.2 (by omega) hc7 hcm7 (by rw [← HFL.out.1]; omega)).mono ?_
                    intro e w' hr
                    obtain ⟨am, cm, Lm, rfl, hrm, hAm, hmm, hbm⟩ := hr.rd
                    have eL : Lm = Le := asc_ext hAm HE.out.2.1 (fun x => by
                      rw [hmm, HN.out, mean_op (k := 7) (by omega) HVA.out HVB.out (vp_op (by omega) (by omega) HV6.out) (by rw [← HFL.out.1]; omega), HE.out.2.2]
                      rfl)
                    rw [eL, ← HE.out.1]
                    exact ⟨am, cm, rfl, by rw [← eL]; exact hrm, hbm⟩
                  obtain ⟨y7, -⟩ := (HALL.out w16 H16.out).2.1
                  have y7 : w16.cell? ⟨b18, 0, none⟩ = some (.slice (some ⟨g7, 0, none⟩) (nn + 1) c7) := y7
                  go_wp2_with fail
                  with_reducible refine (HMO7.out w16 H16.out).mono ?_
                  rintro e w7m ⟨am7, cm7, rfl, hrm7, hbm7⟩
                  have hbn7 : Below W14.heap.size W14 w7m := H16.out.trans (hbm7.mono H16.out.size)
                  have HLT7 : Hid (Calls Try.prog 11 #[.slice am7 le cm7, .slice a13' le c13'] w7m fun e w' => e = .returned (.bool true) ∧ Below w7m.heap.size w7m w') := lwTexts_any am7 a13' le le cm7 c13' Le HE.out.1 HE.out.1 w7m hrm7 (HFW.out w7m hbn7).2.2.2.2.1 (by omega)
                  have HB7m : Hid (Below W14.heap.size W14 w7m) := hbn7
                  clear hrm7 hbm7 hbn7 y7
                  go_wp2_with fail
                  with_reducible refine HLT7.out.mono ?_
                  rintro e w17 ⟨rfl, hbw17⟩
                  have H17 : Hid (Below W14.heap.size W14 w17) := HB7m.out.trans (hbw17.mono HB7m.out.size)
                  clear hbw17 HLT7 HMO7
                  have HMO8 : Hid (∀ W, Below W14.heap.size W14 W → Calls Try.prog 7 #[.agg #[.slice (some ⟨g8, 0, none⟩) (nn + 1) c8], .slice fa fl fc] W fun e w' => ∃ am cm, e = .returned (.slice am ld cm) ∧ RdG w' am Ld ∧ Below W.heap.size W w') := fun W hW => by
                    have q : RdN W (some ⟨g8, 0, none⟩) (nn + 1) (catE na nb Ia Ib 8) (catE na nb Xa Xb eB) (catE na nb Ra Rb eB) := (HALL.out W hW).2.2.1.2
                    rw [HFL.out.1]
                    refine (implMe srt_ok _ (nn + 1) c8 _ _ _ fa fc fs W q (HFW.out W hW).1 HFL.out.2 (by omega) hc8 hcm8 (by rw [← HFL.out.1]; omega)).mono ?_
                    intro e w' hr
                    obtain ⟨am, cm, Lm, rfl, hrm, hAm, hmm, hbm⟩ := hr.rd
                    have eL : Lm = Ld := asc_ext hAm HBD.out.2.2.2.1 (fun x => by
                      rw [hmm, HN.out, mean_op (k := 8) (by omega) HVA.out HVB.out (vp_op (by omega) (by omega) HV6.out) (by rw [← HFL.out.1]; omega), HBD.out.2.2.2.2.2.1]
                      rfl)
                    rw [eL, ← HBD.out.2.1]
                    exact ⟨am, cm, rfl, by rw [← eL]; exact hrm, hbm⟩
                  obtain ⟨y8, -⟩ := (HALL.out w17 H17.out).2.2.1
                  have y8 : w17.cell? ⟨b19, 0, none⟩ = some (.slice (some ⟨g8, 0, none⟩) (nn + 1) c8) := y8
                  go_wp2_with fail
                  with_reducible refine (HMO8.out w17 H17.out).mono ?_
                  rintro e w8m ⟨am8, cm8, rfl, hrm8, hbm8⟩
                  have hbn8 : Below W14.heap.size W14 w8m := H17.out.trans (hbm8.mono H17.out.size)
                  have HLT8 : Hid (Calls Try.prog 11 #[.slice am8 ld cm8, .slice a12 ld c12] w8m fun e w' => e = .returned (.bool true) ∧ Below w8m.heap.size w8m w') := lwTexts_any am8 a12 ld ld cm8 c12 Ld HBD.out.2.1 HBD.out.2.1 w8m hrm8 (HFW.out w8m hbn8).2.2.2.1 (by have := HBD.out.2.2.2.2.2.2; omega)
                  have HB8m : Hid (Below W14.heap.size W14 w8m) := hbn8
                  clear hrm8 hbm8 hbn8 y8
                  go_wp2_with fail
                  with_reducible refine HLT8.out.mono ?_
                  rintro e w18 ⟨rfl, hbw18⟩
                  have H18 : Hid (Below W14.heap.size W14 w18) := HB8m.out.trans (hbw18.mono HB8m.out.size)
                  clear hbw18 HLT8 HMO8
                  go_wp2
                  go_meet
                  exact ⟨rfl, H18.out⟩
              case rest =>
                obtain ⟨rfl, hb18⟩ := hcut
                have H18 : Hid (Below W14.heap.size W14 wc) := hb18
                clear hb18
                generalize wc = wC at *
                have HFC : Hid (∀ W, Below wC.heap.size wC W → RdF W fa fs ∧ Bx1 W b5 (.slice (some ⟨qa, oa, none⟩) na ca) ∧ RdN W (some ⟨qa, oa, none⟩) na Ia Xa Ra ∧ RdG W ax LX ∧ Below W2.heap.size W2 W ∧ Below w.heap.size w W) := fun W hW => by
                  have q := HFW.out W (H18.out.trans (hW.mono H18.out.size))
                  exact ⟨q.1, q.2.1, (HK.out W q.2.2.2.2.2.2.1).2.2.1, q.2.2.2.2.2.1, q.2.2.2.2.2.2.1, q.2.2.2.2.2.2.2⟩
                clear HALL HFW H18 H9 HBD HE
                go_wp2
                go_loopw [20, 21] (fun u i wq => ∃ m3 : Nat, m3 ≤ fl ∧ i = .int .i64 (m3 : Int) ∧ wq.ownsRow wC.heap.size 38 4 u ((fs.take m3).filter (cntB true gB)).length (fcRow ((fs.take m3).filter (cntB true gB))) ∧ Below wC.heap.size wC wq) (fun _ i _ => fl - (intOf i).toNat)
                case atStart => exact ⟨0, Nat.zero_le _, rfl, by simpa [fcRow] using own_empty wC 38 wC.heap.size 4 (Nat.le_refl _), below_alloc _ _⟩
                case round =>
                  obtain ⟨m3, hm3, rfl, hown, hbq⟩ := hrel
                  have HO : Hid (wr.ownsRow wC.heap.size 38 4 u20 ((fs.take m3).filter (cntB true gB)).length (fcRow ((fs.take m3).filter (cntB true gB))) ∧ Below wC.heap.size wC wr) := ⟨hown, hbq⟩
                  have hzq := hbq.size
                  clear hown hbq
                  by_cases hlt3 : m3 < fl
                  · have hkl : m3 < fs.length := by rw [← HFL.out.1]; exact hlt3
                    obtain ⟨bf, of, hfa, s0, s1, s2, s3⟩ := (HFC.out wr HO.out.2).1.at hkl
                    subst hfa
                    obtain ⟨x, hx⟩ : ∃ x, x = fs[m3] := ⟨_, rfl⟩
                    rw [← hx] at s0 s1 s2 s3
                    have i0 : (0 : Int) ≤ (m3 : Int) := by omega
                    have i1 : (m3 : Int) < (fl : Int) := by omega
                    have etk : fs.take (m3 + 1) = fs.take m3 ++ [x] := by rw [List.take_add_one, List.getElem?_eq_getElem hkl, ← hx]; rfl
                    obtain ⟨m, hm⟩ : ∃ m, m = ((fs.take m3).filter (cntB true gB)).length := ⟨_, rfl⟩
                    rw [← hm] at HO
                    have hm2 : m ≤ fl := by rw [hm]; exact Nat.le_trans (List.length_filter_le _ _) (by rw [List.length_take]; omega)
                    have HEk : Hid (m = ((fs.take m3).filter (cntB true gB)).length ∧ fs.take (m3 + 1) = fs.take m3 ++ [x]) := ⟨hm, etk⟩
                    clear hx hm etk
                    cases hcb : cntB true gB x with
                    | false =>
                      have HXq : Hid (wr.ownsRow wC.heap.size 38 4 u20 ((fs.take (m3 + 1)).filter (cntB true gB)).length (fcRow ((fs.take (m3 + 1)).filter (cntB true gB))) ∧ Below wC.heap.size wC wr) := by
                        rw [HEk.out.2, List.filter_append, List.filter_cons_of_neg (by rw [hcb]; simp), List.filter_nil, List.append_nil, ← HEk.out.1]
                        exact HO.out
                      have hq : (x.g.toList == gB.toList) = false := by simpa [cntB] using hcb
                      rw [gB_list] at hq
                      clear hcb HO
                      go_wp2
                      go_roundw
                      case rel => exact ⟨m3 + 1, by omega, by go_num, HXq.out⟩
                      case measure => simp [intOf]; omega
                    | true =>
                      have HXq : Hid (∀ (v' : Value) (w' : World), w'.ownsRow wC.heap.size 38 4 v' (m + 1) (fcRow ((fs.take m3).filter (cntB true gB) ++ [x])) → w'.ownsRow wC.heap.size 38 4 v' ((fs.take (m3 + 1)).filter (cntB true gB)).length (fcRow ((fs.take (m3 + 1)).filter (cntB true gB)))) := fun v' w' q => by
                        rw [HEk.out.2, List.filter_append, List.filter_cons_of_pos (by rw [hcb]), List.filter_nil, List.length_append, ← HEk.out.1]
                        exact q
                      have hq : (x.g.toList == gB.toList) = true := by simpa [cntB] using hcb
                      rw [gB_list] at hq
                      clear hcb
                      go_wp2_with (at_builtin; refine app_fc rfl _ _ rfl wC.heap.size m u20 _ x rfl HO.out.1 rfl (by omega) hzq ?_)
                      intro v' w1' ho hg
                      have HYq : Hid (w1'.ownsRow wC.heap.size 38 4 v' ((fs.take (m3 + 1)).filter (cntB true gB)).length (fcRow ((fs.take (m3 + 1)).filter (cntB true gB))) ∧ Below wC.heap.size wC w1') := ⟨HXq.out v' w1' ho, (HO.out.2.alloc hzq _).grown hg (by simp; omega) (fun b e => (own_lt HO.out.1 b e).1)⟩
                      clear ho hg HO
                      go_wp2
                      go_roundw
                      case rel => exact ⟨m3 + 1, by omega, by go_num, HYq.out⟩
                      case measure => simp [intOf]; omega
                  · obtain rfl : m3 = fl := by omega
                    have i1 : ¬ (m3 : Int) < (m3 : Int) := by omega
                    have ett : fs.take m3 = fs := by rw [HFL.out.1]; exact List.take_length
                    rw [ett] at HO
                    obtain ⟨fg, hfg⟩ : ∃ fg, fg = fs.filter (cntB true gB) := ⟨_, rfl⟩
                    rw [← hfg] at HO
                    obtain ⟨a20, c20, hu20, hr20, hc20, hcm20⟩ := rdF_own HO.out.1 rfl
                    obtain ⟨l20, hl20⟩ : ∃ l, l = fg.length := ⟨_, rfl⟩
                    rw [← hl20] at hu20 hc20
                    subst hu20
                    have HG : Hid (fg = fs.filter (cntB true gB) ∧ l20 = fg.length) := ⟨hfg, hl20⟩
                    have hl20b : l20 ≤ 300 := by rw [hl20, hfg]; exact Nat.le_trans (List.length_filter_le _ _) (by rw [← HFL.out.1]; exact hf300)
                    have HFD : Hid (∀ W, Below wr.heap.size wr W → RdF W fa fs ∧ RdF W a20 fg ∧ Bx1 W b5 (.slice (some ⟨qa, oa, none⟩) na ca) ∧ RdN W (some ⟨qa, oa, none⟩) na Ia Xa Ra ∧ RdG W ax LX ∧ Below W2.heap.size W2 W ∧ Below w.heap.size w W) := fun W hW => by
                      have q := HFC.out W (HO.out.2.trans (hW.mono HO.out.2.size))
                      exact ⟨q.1, hr20.below hW, q.2⟩
                    clear hr20 HO HFC ett hfg hl20
                    generalize wr = wD at *
                    have m0 : wD.cell? ⟨b5, 0, none⟩ = some (.slice (some ⟨qa, oa, none⟩) na ca) := (HFD.out wD (Below.refl _ _)).2.2.1
                    have HRa : Hid (RdN wD (some ⟨qa, oa, none⟩) na Ia Xa Ra) := (HFD.out wD (Below.refl _ _)).2.2.2.1
                    have m0' : (wD.alloc (.cells #[] 35)).cell? ⟨b5, 0, none⟩ = some (.slice (some ⟨qa, oa, none⟩) na ca) := ((below_alloc wD _).cell (p := ⟨b5, 0, none⟩) (World.block_lt_of_cell? _ _ m0)).trans m0
                    go_wp2_with (at_builtin; refine app_pn rfl _ _ rfl wD.heap.size (.slice (some ⟨wD.heap.size, 0, none⟩) 0 0) 0 Ia Xa Ra rfl (PnO.nil wD _ (Nat.le_refl _) Ia Xa Ra) qa oa na ca Ia Xa Ra rfl (RdN.below HRa.out (below_alloc _ _)) hna1 (by omega) (by simp) ?_)
                    intro v9a w9a hp9a hg9a
                    rw [catF_zero, catF_zero, catF_zero] at hp9a
                    have hb9a : Below wD.heap.size wD w9a := (below_alloc _ _).grown hg9a (by simp) (fun g e => by simp [Value.ownBlock] at e; omega)
                    try rw [Nat.zero_add] at hp9a
                    have HP9a : Hid (PnO w9a wD.heap.size v9a na Ia Xa Ra ∧ Below wD.heap.size wD w9a) := ⟨hp9a, hb9a⟩
                    have hz9a := hb9a.size
                    obtain ⟨s9a, t9a, hs9a⟩ := own_shape hp9a
                    subst hs9a
                    clear hp9a hg9a hb9a m0 m0'
                    go_wp2_with (at_builtin; refine app_pn rfl _ _ rfl wD.heap.size (.slice s9a na t9a) na Ia Xa Ra rfl (HP9a.out.1.below (below_alloc _ _)) w9a.heap.size 0 1 1 (fun _ => 9) (fun _ => gB) (fun _ => eB) rfl (rdN_lit w9a 9 gB eB) (by omega) (by omega) (by simp; omega) ?_)
                    intro v9b w9b hp9b hg9b
                    have hb9b : Below wD.heap.size wD w9b := (HP9a.out.2.alloc hz9a _).grown hg9b (by simp; omega) (fun g e => (own_lt HP9a.out.1 g e).1)
                    obtain ⟨g9, c9, rfl, -, hr9, hc9, hcm9⟩ := hp9b.rd (by omega)
                    obtain ⟨WE, hWE⟩ : ∃ W, W = w9b.alloc (.cells #[.slice (some ⟨g9, 0, none⟩) (na + 1) c9] 25) := ⟨_, rfl⟩
                    have hbb9 : Below w9b.heap.size w9b WE := by rw [hWE]; exact below_alloc _ _
                    have hbx9 : Bx1 WE w9b.heap.size (.slice (some ⟨g9, 0, none⟩) (na + 1) c9) := by rw [hWE]; exact Bx1.new _ _ _
                    have hbt9 : Below wD.heap.size wD WE := hb9b.trans (hbb9.mono hb9b.size)
                    have HFE : Hid (∀ W, Below WE.heap.size WE W → RdF W fa fs ∧ RdF W a20 fg ∧ Bx1 W b5 (.slice (some ⟨qa, oa, none⟩) na ca) ∧ RdN W (some ⟨qa, oa, none⟩) na Ia Xa Ra ∧ RdG W ax LX ∧ Below W2.heap.size W2 W ∧ Below w.heap.size w W ∧ Bx1 W w9b.heap.size (.slice (some ⟨g9, 0, none⟩) (na + 1) c9) ∧ RdN W (some ⟨g9, 0, none⟩) (na + 1) (catG na Ia 9) (catG na Xa gB) (catG na Ra eB)) := fun W hW => by
                      have q := HFD.out W (hbt9.trans (hW.mono hbt9.size))
                      exact ⟨q.1, q.2.1, q.2.2.1, q.2.2.2.1, q.2.2.2.2.1, q.2.2.2.2.2.1, q.2.2.2.2.2.2, hbx9.below hW, RdN.below (RdN.below hr9 hbb9) hW⟩
                    clear hp9b hg9b hb9b hr9 hbb9 hbx9 hbt9 HP9a HFD HRa
                    go_upto_region 35 with fail
                    rw [← hWE]
                    clear hWE hz9a
                    generalize w9b.heap.size = b22 at *
                    have HMA : Hid (∀ W, Below WE.heap.size WE W → Calls Try.prog 7 #[.agg #[.slice (some ⟨qa, oa, none⟩) na ca], .slice fa m3 fc] W fun e w' => ∃ am cm, e = .returned (.slice am j cm) ∧ RdG w' am LX ∧ Below W.heap.size W w') := fun W hW => by
                      refine (HME.out W (HFE.out W hW).2.2.2.2.2.1).mono ?_
                      intro e w' hr
                      obtain ⟨am, cm, Lm, rfl, hrm, hAm, hmm, hbm⟩ := hr.rd
                      have eL : Lm = LX := asc_ext hAm HX.out.2.1 (fun x => by rw [hmm, HX.out.2.2])
                      rw [eL, ← HX.out.1]
                      exact ⟨am, cm, rfl, by rw [← eL]; exact hrm, hbm⟩
                    have HLA : Hid (∀ W am cm, Below WE.heap.size WE W → RdG W am LX → Calls Try.prog 11 #[.slice am j cm, .slice ax j cx] W fun e w' => e = .returned (.bool true) ∧ Below W.heap.size W w') := fun W am cm hW h => lwTexts_any am ax j j cm cx LX HX.out.1 HX.out.1 W h (HFE.out W hW).2.2.2.2.1 (by omega)
                    have n0 : WE.cell? ⟨b5, 0, none⟩ = some (.slice (some ⟨qa, oa, none⟩) na ca) := (HFE.out WE (Below.refl _ _)).2.2.1
                    have HRA : Hid (RdN WE (some ⟨qa, oa, none⟩) na Ia Xa Ra) := (HFE.out WE (Below.refl _ _)).2.2.2.1
                    go_wp2
                    go_loopw [23] (fun i wq => ∃ m4 : Nat, m4 ≤ na ∧ i = .int .i64 (m4 : Int) ∧ (∀ i, i < m4 → Ia i ≠ 9) ∧ wq = WE) (fun i _ => na - (intOf i).toNat)
                    case atStart => exact ⟨0, Nat.zero_le _, rfl, fun i hi => absurd hi (Nat.not_lt_zero _), rfl⟩
                    case round =>
                      obtain ⟨m4, hm4, rfl, hall, rfl⟩ := hrel
                      have HA4 : Hid (∀ i, i < m4 → Ia i ≠ 9) := hall
                      clear hall
                      by_cases hlt4 : m4 < na
                      · have i0 : (0 : Int) ≤ (m4 : Int) := by omega
                        have i1 : (m4 : Int) < (na : Int) := by omega
                        obtain ⟨y, hy⟩ : ∃ y, y = Ia m4 := ⟨_, rfl⟩
                        have hcn : wr.cell? ⟨qa, oa + m4 * 3, none⟩ = some (.int .i64 y) := by
                          rcases HRA.out with h | ⟨b', o', e, hc⟩
                          · omega
                          · injection e with e
                            injection e with e1 e2
                            subst e1 e2
                            rw [hy]
                            exact (hc m4 hlt4).1
                        have HYY : Hid (y = Ia m4) := hy
                        clear hy
                        by_cases hy9 : y = 9
                        · subst hy9
                          go_wp2_with fail
                          with_reducible refine (HMA.out wr (Below.refl _ _)).mono ?_
                          rintro e wF ⟨am, cm, rfl, hrm, hbm⟩
                          have HF1 : Hid (RdG wF am LX ∧ Below wr.heap.size wr wF) := ⟨hrm, hbm⟩
                          clear hrm hbm
                          go_wp2_with fail
                          with_reducible refine (HLA.out wF am cm HF1.out.2 HF1.out.1).mono ?_
                          rintro e wG ⟨rfl, hbG⟩
                          have HBG : Hid (Below w.heap.size w wG) := (HFE.out wG (HF1.out.2.trans (hbG.mono HF1.out.2.size))).2.2.2.2.2.2.1
                          clear hbG
                          go_wp2
                          go_ret
                          exact ⟨rfl, HBG.out⟩
                        · have hyb : (y == 9) = false := by simp [hy9]
                          have HA5 : Hid (∀ i, i < m4 + 1 → Ia i ≠ 9) := fun i hi => by
                            by_cases e : i = m4
                            · rw [e, ← HYY.out]; exact hy9
                            · exact HA4.out i (by omega)
                          clear hy9
                          go_wp2
                          go_roundw
                          case rel => exact ⟨m4 + 1, by omega, by go_num, HA5.out, by first | rfl | trivial⟩
                          case measure => simp [intOf]; omega
                      · obtain rfl : m4 = na := by omega
                        have i1 : ¬ (m4 : Int) < (m4 : Int) := by omega
                        generalize wr = WE at *
                        go_upto_region 40 with fail
                        have hVm := HVA.out.1.2
                        have HMG : Hid (∀ W, Below WE.heap.size WE W → Calls Try.prog 7 #[.agg #[.slice (some ⟨g9, 0, none⟩) (m4 + 1) c9], .slice fa m3 fc] W fun e w' => ∃ ag cg Lg lg, e = .returned (.slice ag lg cg) ∧ lg = Lg.length ∧ RdG w' ag Lg ∧ Asc Lg ∧ (∀ x, x ∈ Lg ↔ MnP (m4 + 1) (catG m4 Ia 9) (catG m4 Xa gB) (catG m4 Ra eB) fs x) ∧ Below W.heap.size W w') := fun W hW => by
                          have q := HFE.out W hW
                          rw [HFL.out.1]
                          refine (implMe srt_ok _ (m4 + 1) c9 _ _ _ fa fc fs W q.2.2.2.2.2.2.2.2 q.1 HFL.out.2 (by omega) hc9 hcm9 (by rw [← HFL.out.1]; omega)).mono ?_
                          intro e w' hr
                          obtain ⟨am, cm, Lm, rfl, hrm, hAm, hmm, hbm⟩ := hr.rd
                          exact ⟨am, cm, Lm, _, rfl, rfl, hrm, hAm, hmm, hbm⟩
                        have HMI : Hid (∀ W, Below WE.heap.size WE W → Calls Try.prog 8 #[.agg #[.slice (some ⟨qa, oa, none⟩) m4 ca], .slice a20 l20 c20] W (RetM W 60000 (MnP m4 Ia Xa Ra fg))) := fun W hW => by
                          have q := HFE.out W hW
                          rw [HG.out.2]
                          exact specMe _ m4 ca Ia Xa Ra a20 c20 fg W q.2.2.2.1 q.2.1 (by omega) hca hcma (by rw [← HG.out.2]; omega)
                        refine wp_region_lateT (S := fun W => Below WE.heap.size WE W) 19 (by kernel_rfl) (Below.refl _ _).drew (fun W hHeld => ?_)
                        refine tk 0 .zero (v := .agg #[.slice (some ⟨qa, oa, none⟩) m4 ca]) ?_ ?_
                        · intro w' h
                          have q : w'.cell? ⟨b5, 0, none⟩ = some (.slice (some ⟨qa, oa, none⟩) m4 ca) := (HFE.out w' h).2.2.1
                          clear h
                          go_simp
                        simp only [tkp]
                        refine tk 1 (.succ .zero) (v := .slice fa m3 fc) ?_ ?_
                        · intro w' h
                          clear h
                          go_simp
                        simp only [tkp]
                        refine tk 3 (.succ (.succ (.succ .zero))) (v := .slice ax j cx) ?_ ?_
                        · intro w' h
                          clear h
                          go_simp
                        simp only [tkp]
                        refine tk1 2 (.succ (.succ .zero)) (fun K hK => ?_)
                        refine step_g2 rfl 7 214 215 _ rfl (.agg #[.slice (some ⟨qa, oa, none⟩) m4 ca]) (.slice fa m3 fc) rfl rfl (fun _ _ => rfl) ?_
                        refine (HMA.out W hHeld).mono ?_
                        rintro e w20 ⟨am, cm, rfl, hrm, hbm⟩
                        have hb20 : Below WE.heap.size WE w20 := hHeld.trans (hbm.mono hHeld.size)
                        refine ⟨_, rfl, hK.out _ _ (fun _ => hb20) (fun hG => ?_)⟩
                        clear hK K hG hbm hHeld
                        simp only [tkp]
                        refine tk1 4 (.succ (.succ (.succ (.succ .zero)))) (fun K hK => ?_)
                        refine step_g2 rfl 11 216 217 _ rfl (.slice am j cm) (.slice ax j cx) rfl rfl (fun _ _ => rfl) ?_
                        refine (HLA.out w20 am cm hb20 hrm).mono ?_
                        rintro e w21 ⟨rfl, hbm⟩
                        have hb21 : Below WE.heap.size WE w21 := hb20.trans (hbm.mono hb20.size)
                        refine ⟨_, rfl, hK.out _ _ (fun _ => hb21) (fun hG => ?_)⟩
                        clear hK K hG hbm hrm hb20
                        simp only [tkp]
                        refine tk 5 (.succ (.succ (.succ (.succ (.succ .zero))))) (v := .bool true) ?_ ?_
                        · intro w' h
                          clear h
                          go_simp
                        simp only [tkp]
                        refine tk 6 (.succ (.succ (.succ (.succ (.succ (.succ .zero)))))) (v := .agg #[.slice (some ⟨g9, 0, none⟩) (m4 + 1) c9]) ?_ ?_
                        · intro w' h
                          have q : w'.cell? ⟨b22, 0, none⟩ = some (.slice (some ⟨g9, 0, none⟩) (m4 + 1) c9) := (HFE.out w' h).2.2.2.2.2.2.2.1
                          clear h
                          go_simp
                        simp only [tkp]
                        by_cases hVG : VPth (m4 + 1) (catG m4 Ia 9) (catG m4 Xa gB) (catG m4 Ra eB)
                        · refine tk1 7 (.succ (.succ (.succ (.succ (.succ (.succ (.succ .zero))))))) (fun K hK => ?_)
                          refine step_g1 rfl 6 220 _ rfl (.agg #[.slice (some ⟨g9, 0, none⟩) (m4 + 1) c9]) rfl (fun _ _ => rfl) ?_
                          refine (specVP _ (m4 + 1) c9 _ _ _ w21 (HFE.out w21 hb21).2.2.2.2.2.2.2.2 (by omega) hc9 hcm9).mono ?_
                          rintro e w22 ⟨vg, rfl, hvg, hbm⟩
                          obtain rfl : vg = true := by exact hvg.2 hVG
                          have hb22 : Below WE.heap.size WE w22 := hb21.trans (hbm.mono hb21.size)
                          refine ⟨_, rfl, hK.out _ _ (fun _ => hb22) (fun hG => ?_)⟩
                          clear hK K hG hbm hvg hb21
                          simp only [tkp]
                          refine tk 8 (.succ (.succ (.succ (.succ (.succ (.succ (.succ (.succ .zero)))))))) (v := .bool false) ?_ ?_
                          · intro w' h
                            clear h
                            go_simp
                          simp only [tkp]
                          refine tk 9 (.succ (.succ (.succ (.succ (.succ (.succ (.succ (.succ (.succ .zero))))))))) (v := .bool false) ?_ ?_
                          · intro w' h
                            clear h
                            go_simp
                          simp only [tkp]
                          refine tk 10 (.succ (.succ (.succ (.succ (.succ (.succ (.succ (.succ (.succ (.succ .zero)))))))))) (v := .agg #[.slice (some ⟨g9, 0, none⟩) (m4 + 1) c9]) ?_ ?_
                          · intro w' h
                            have q : w'.cell? ⟨b22, 0, none⟩ = some (.slice (some ⟨g9, 0, none⟩) (m4 + 1) c9) := (HFE.out w' h).2.2.2.2.2.2.2.1
                            clear h
                            go_simp
                          simp only [tkp]
                          refine tk 11 (.succ (.succ (.succ (.succ (.succ (.succ (.succ (.succ (.succ (.succ (.succ .zero))))))))))) (v := .slice fa m3 fc) ?_ ?_
                          · intro w' h
                            clear h
                            go_simp
                          simp only [tkp]
                          refine tk 13 (.succ (.succ (.succ (.succ (.succ (.succ (.succ (.succ (.succ (.succ (.succ (.succ (.succ .zero))))))))))))) (v := .agg #[.slice (some ⟨qa, oa, none⟩) m4 ca]) ?_ ?_
                          · intro w' h
                            have q : w'.cell? ⟨b5, 0, none⟩ = some (.slice (some ⟨qa, oa, none⟩) m4 ca) := (HFE.out w' h).2.2.1
                            clear h
                            go_simp
                          simp only [tkp]
                          refine tk 14 (.succ (.succ (.succ (.succ (.succ (.succ (.succ (.succ (.succ (.succ (.succ (.succ (.succ (.succ .zero)))))))))))))) (v := .slice a20 l20 c20) ?_ ?_
                          · intro w' h
                            clear h
                            go_simp
                          simp only [tkp]
                          refine tk1 12 (.succ (.succ (.succ (.succ (.succ (.succ (.succ (.succ (.succ (.succ (.succ (.succ .zero)))))))))))) (fun K hK => ?_)
                          refine step_g2 rfl 7 224 225 _ rfl (.agg #[.slice (some ⟨g9, 0, none⟩) (m4 + 1) c9]) (.slice fa m3 fc) rfl rfl (fun _ _ => rfl) ?_
                          refine (HMG.out w22 hb22).mono ?_
                          rintro e w23 ⟨ag, cg, Lg, lg, rfl, hlg, hrg, hAg, hmg, hbm⟩
                          have hb23 : Below WE.heap.size WE w23 := hb22.trans (hbm.mono hb22.size)
                          refine ⟨_, rfl, hK.out _ _ (fun _ => hb23) (fun hG => ?_)⟩
                          clear hK K hG hbm hb22
                          simp only [tkp]
                          refine tk1 15 (.succ (.succ (.succ (.succ (.succ (.succ (.succ (.succ (.succ (.succ (.succ (.succ (.succ (.succ (.succ .zero))))))))))))))) (fun K hK => ?_)
                          refine step_g2 rfl 8 227 228 _ rfl (.agg #[.slice (some ⟨qa, oa, none⟩) m4 ca]) (.slice a20 l20 c20) rfl rfl (fun _ _ => rfl) ?_
                          refine (HMI.out w23 hb23).mono ?_
                          rintro e w24 ⟨ai, ci, Li, rfl, hri, hAi, hmi, hli, hci, hcmi, hbm⟩
                          have eL : Li = Lg := asc_ext hAi hAg (fun x => by rw [hmi, hmg, HG.out.1, mean_gr HVA.out HA4.out hVG (by rw [← HFL.out.1]; omega)])
                          subst eL
                          rw [← hlg]
                          have hb24 : Below WE.heap.size WE w24 := hb23.trans (hbm.mono hb23.size)
                          have hrg' := hrg.below hbm
                          refine ⟨_, rfl, hK.out _ _ (fun _ => hb24) (fun hG => ?_)⟩
                          clear hK K hG hbm hb23 hrg
                          simp only [tkp]
                          refine tk1 16 (.succ (.succ (.succ (.succ (.succ (.succ (.succ (.succ (.succ (.succ (.succ (.succ (.succ (.succ (.succ (.succ .zero)))))))))))))))) (fun K hK => ?_)
                          refine step_g2 rfl 11 226 229 _ rfl (.slice ag lg cg) (.slice ai lg ci) rfl rfl (fun _ _ => rfl) ?_
                          refine (lwTexts_any ag ai lg lg cg ci Li hlg hlg w24 hrg' hri (by omega)).mono ?_
                          rintro e w25 ⟨rfl, hbm⟩
                          have hb25 : Below WE.heap.size WE w25 := hb24.trans (hbm.mono hb24.size)
                          refine ⟨_, rfl, hK.out _ _ (fun _ => hb25) (fun hG => ?_)⟩
                          clear hK K hG hbm hb24 hrg' hri
                          simp only [tkp]
                          refine tk 17 (.succ (.succ (.succ (.succ (.succ (.succ (.succ (.succ (.succ (.succ (.succ (.succ (.succ (.succ (.succ (.succ (.succ .zero))))))))))))))))) (v := .bool true) ?_ ?_
                          · intro w' h
                            clear h
                            go_simp
                          simp only [tkp]
                          refine tk 18 (.succ (.succ (.succ (.succ (.succ (.succ (.succ (.succ (.succ (.succ (.succ (.succ (.succ (.succ (.succ (.succ (.succ (.succ .zero)))))))))))))))))) (v := .bool true) ?_ ?_
                          · intro w' h
                            clear h
                            go_simp
                          simp only [tkp]
                          refine tk1 19 (.succ (.succ (.succ (.succ (.succ (.succ (.succ (.succ (.succ (.succ (.succ (.succ (.succ (.succ (.succ (.succ (.succ (.succ (.succ .zero))))))))))))))))))) (fun K hK => ?_)
                          go_simp
                          refine hK.out _ _ (fun hne => absurd rfl hne) (fun hG => ?_)
                          clear hK K hG
                          refine wpLate_done (by kernel_rfl) ?_ _
                          have HBZ : Hid (Below w.heap.size w w25) := (HFE.out w25 hb25).2.2.2.2.2.2.1
                          go_wp2
                          go_ret
                          exact ⟨rfl, HBZ.out⟩
                        · refine tk1 7 (.succ (.succ (.succ (.succ (.succ (.succ (.succ .zero))))))) (fun K hK => ?_)
                          refine step_g1 rfl 6 220 _ rfl (.agg #[.slice (some ⟨g9, 0, none⟩) (m4 + 1) c9]) rfl (fun _ _ => rfl) ?_
                          refine (specVP _ (m4 + 1) c9 _ _ _ w21 (HFE.out w21 hb21).2.2.2.2.2.2.2.2 (by omega) hc9 hcm9).mono ?_
                          rintro e w22 ⟨vg, rfl, hvg, hbm⟩
                          obtain rfl : vg = false := by cases vg with
                            | true => exact absurd (hvg.1 rfl) hVG
                            | false => rfl
                          have hb22 : Below WE.heap.size WE w22 := hb21.trans (hbm.mono hb21.size)
                          refine ⟨_, rfl, hK.out _ _ (fun _ => hb22) (fun hG => ?_)⟩
                          clear hK K hG hbm hvg hb21
                          simp only [tkp]
                          refine tk 8 (.succ (.succ (.succ (.succ (.succ (.succ (.succ (.succ .zero)))))))) (v := .bool true) ?_ ?_
                          · intro w' h
                            clear h
                            go_simp
                          simp only [tkp]
                          refine tk 9 (.succ (.succ (.succ (.succ (.succ (.succ (.succ (.succ (.succ .zero))))))))) (v := .bool true) ?_ ?_
                          · intro w' h
                            clear h
                            go_simp
                          simp only [tkp]
                          refine sk 10 (.succ (.succ (.succ (.succ (.succ (.succ (.succ (.succ (.succ (.succ .zero)))))))))) ?_
                          simp only [tkp]
                          refine sk 11 (.succ (.succ (.succ (.succ (.succ (.succ (.succ (.succ (.succ (.succ (.succ .zero))))))))))) ?_
                          simp only [tkp]
                          refine sk 13 (.succ (.succ (.succ (.succ (.succ (.succ (.succ (.succ (.succ (.succ (.succ (.succ (.succ .zero))))))))))))) ?_
                          simp only [tkp]
                          refine sk 14 (.succ (.succ (.succ (.succ (.succ (.succ (.succ (.succ (.succ (.succ (.succ (.succ (.succ (.succ .zero)))))))))))))) ?_
                          simp only [tkp]
                          refine sk 12 (.succ (.succ (.succ (.succ (.succ (.succ (.succ (.succ (.succ (.succ (.succ (.succ .zero)))))))))))) ?_
                          simp only [tkp]
                          refine sk 15 (.succ (.succ (.succ (.succ (.succ (.succ (.succ (.succ (.succ (.succ (.succ (.succ (.succ (.succ (.succ .zero))))))))))))))) ?_
                          simp only [tkp]
                          refine sk 16 (.succ (.succ (.succ (.succ (.succ (.succ (.succ (.succ (.succ (.succ (.succ (.succ (.succ (.succ (.succ (.succ .zero)))))))))))))))) ?_
                          simp only [tkp]
                          refine tk 17 (.succ (.succ (.succ (.succ (.succ (.succ (.succ (.succ (.succ (.succ (.succ (.succ (.succ (.succ (.succ (.succ (.succ .zero))))))))))))))))) (v := .bool true) ?_ ?_
                          · intro w' h
                            clear h
                            go_simp
                          simp only [tkp]
                          refine tk 18 (.succ (.succ (.succ (.succ (.succ (.succ (.succ (.succ (.succ (.succ (.succ (.succ (.succ (.succ (.succ (.succ (.succ (.succ .zero)))))))))))))))))) (v := .bool true) ?_ ?_
                          · intro w' h
                            clear h
                            go_simp
                          simp only [tkp]
                          refine tk1 19 (.succ (.succ (.succ (.succ (.succ (.succ (.succ (.succ (.succ (.succ (.succ (.succ (.succ (.succ (.succ (.succ (.succ (.succ (.succ .zero))))))))))))))))))) (fun K hK => ?_)
                          go_simp
                          refine hK.out _ _ (fun hne => absurd rfl hne) (fun hG => ?_)
                          clear hK K hG
                          refine wpLate_done (by kernel_rfl) ?_ _
                          have HBZ : Hid (Below w.heap.size w w22) := (HFE.out w22 hb22).2.2.2.2.2.2.1
                          go_wp2
                          go_ret
                          exact ⟨rfl, HBZ.out⟩
end Go.Proofs.Ythcclkeeekppmaa
