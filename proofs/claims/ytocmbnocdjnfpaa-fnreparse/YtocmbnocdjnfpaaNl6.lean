import Derived.Test.YtocmbnocdjnfpaaNl5
import Derived.Test.YtocmbnocdjnfpaaNl3
import Derived.Deep.CutBlock
import Derived.Test.YtocmbnocdjnfpaaPpF
import Derived.Test.YtocmbnocdjnfpaaNm1
import Derived.Test.YtocmbnocdjnfpaaRows
import Derived.Test.YtocmbnocdjnfpaaOwn
import Derived.Test.YtocmbnocdjnfpaaPpA
import Derived.Test.YtocmbnocdjnfpaaPpD
import Derived.Test.YtocmbnocdjnfpaaPlA
import Derived.Test.YtocmbnocdjnfpaaPpC
namespace Go.Proofs.Ytocmbnocdjnfpaa
open Go.RowKit Go.Deep
set_option linter.unusedVariables false
set_option linter.unusedSimpArgs false
set_option maxRecDepth 100000

/-- The text that DrawParsePath hands out. -/
def drawPF (f : Nat → Int) (n : Nat) : List Int := if nBl f n 60 (0, hN f n n) = 0 then List.replicate (2000 + nBl f n 2 (nS n 60 (0, hN f n n))).toNat 32 else textDF f n (nS n 60 (0, hN f n n))
theorem rpS_byt (f : Nat → Int) (n : Nat) {l : List Int} {s : Nat × Int} (h : Byt l) : Byt (rpS f n l s).1 := rpS_sub f n l s h
theorem txB_byt (f : Nat → Int) (n : Nat) {r : List Int × (Nat × Int)} (h : Byt r.1) : Byt (txB f n r).1 := by
  unfold txB
  show Byt (if _ then _ else _)
  split
  · intro x hx
    simp at hx
    rcases hx with rfl | hx | rfl
    · omega
    · exact h x hx
    · omega
  · exact h
theorem txC_byt (f : Nat → Int) (n : Nat) {r : List Int × (Nat × Int)} (h : Byt r.1) : Byt (txC f n r).1 := by
  unfold txC
  split
  · exact rpS_byt f n h
  · exact h
theorem txR_byt (f : Nat → Int) (n : Nat) {s : Nat × Int} {l : List Int} (h : Byt l) : Byt (txR f n s l) := by
  unfold txR
  split
  · exact fun x hx => h x (List.mem_of_mem_drop hx)
  · exact h
theorem txD_byt (f : Nat → Int) (n : Nat) {r : List Int × (Nat × Int)} (h : Byt r.1) : Byt (txD f n r) := by
  unfold txD
  split
  · exact h
  · intro x hx
    simp only [List.flatten_cons, List.flatten_nil, List.append_nil, List.mem_append] at hx
    rcases hx with hx | hx | hx
    · exact h x (List.mem_of_mem_take hx)
    · exact bl_byt _ x hx
    · exact txR_byt f n (fun y hy => h y (List.mem_of_mem_drop hy)) x hx
theorem drawPF_byt (f : Nat → Int) (n : Nat) : Byt (drawPF f n) := by
  unfold drawPF
  split
  · intro x hx
    rw [List.eq_of_mem_replicate hx]
    omega
  · exact txD_byt f n (txC_byt f n (txB_byt f n (T_byt _ _ _ _)))
set_option maxHeartbeats 1000000 in
theorem zeros_own (n : Nat) (w : World) (hn : n ≤ 1048576) :
    Calls Try.prog 72 #[.int .i64 n] w fun e w' => ∃ a c, e = .returned (.slice a n c) ∧ OwnB w' w.heap.size a n (fun _ => 0) ∧ n ≤ c ∧ c ≤ 9223372036854775807 ∧ Below w.heap.size w w' := by
  obtain ⟨i0, hi, hz0, hz1, hz2⟩ := info_parts infoB
  have HI : Hid (Try.prog.info? 5 = some i0 ∧ i0.zero = some (.int .u8 0) ∧ i0.size = 1 ∧ i0.bytes = 1) := ⟨hi, hz0, hz1, hz2⟩
  clear hi hz0 hz1 hz2
  go_enter Try.func72, Try.ntmps72
  go_wp2
  go_loopw [3, 4] (fun v i wr => ∃ k : Nat, k ≤ n ∧ i = .int .i64 k ∧ wr.ownsRow w.heap.size 5 1 v k (bv (List.replicate k 0)) ∧ Below w.heap.size w wr) (fun _ i _ => n - (intOf i).toNat)
  case atStart => exact ⟨0, Nat.zero_le _, rfl, World.ownsRow_lit w #[] 0 (Nat.le_refl _) (Nat.zero_le _) rfl, (Below.refl _ _).alloc (Nat.le_refl _) _⟩
  case round =>
    obtain ⟨k, hk, rfl, hown, hbel⟩ := hrel
    by_cases hlt : k < n
    · have hsz := hbel.size
      have ik : (k : Int) < (n : Int) := by omega
      have HB : Hid (Below w.heap.size w wr) := hbel
      have HO : Hid (wr.ownsRow w.heap.size 5 1 u3 k (bv (List.replicate k 0))) := hown
      clear hbel hown
      go_wp2_with (at_builtin; refine wpList_append_own _ rfl _ _ 33 rfl w.heap.size 5 i0 (.int .u8 0) 1 1 Try.underlying33 HI.out.1 HI.out.2.1 HI.out.2.2.1 HI.out.2.2.2 rfl (by decide) _ k (bv (List.replicate k 0)) rfl (HO.out.alloc _) ⟨wr.heap.size, 0, none⟩ 1 1 [.int .u8 0] rfl rfl ?c1 ?c2 ?c3 ?c4 ?c5 ?_)
      case c1 => exact new_cells _ [.int .u8 0] _
      case c2 => intro u hu; simp at hu; subst hu; rfl
      case c3 => unfold maxLen; omega
      case c4 => omega
      case c5 => simp; omega
      · intro v' w1 hown' hgrow _
        have HX : Hid (w1.ownsRow w.heap.size 5 1 v' (k + 1) (bv (List.replicate (k + 1) 0)) ∧ Below w.heap.size w w1) :=
          ⟨by rw [List.replicate_succ']; unfold bv at hown' ⊢; rw [List.map_append]; exact hown', (HB.out.alloc hsz _).grown hgrow (by simp; omega) (fun b e => (HO.out.lt b e).1)⟩
        clear hown' hgrow HO HB
        go_wp2
        go_roundw
        case rel => exact ⟨k + 1, by omega, by go_num, HX.out⟩
        case measure => simp [intOf]; omega
    · have e : k = n := by omega
      subst e
      have ik : ¬ (k : Int) < (k : Int) := by omega
      go_wp2
      go_ret
      obtain ⟨a, c, rfl, h1, h2, h3⟩ := own_bv (l := List.replicate k 0) (by simp) hown
      refine ⟨a, c, rfl, h1.congr (fun i hi => ?_), h2, h3, hbel⟩
      unfold lf
      rw [List.getD_eq_getElem?_getD, List.getElem?_replicate, if_pos hi]
      rfl
/-- What DrawParsePath hands out. -/
def DqRet (l : List Int) (w : World) (e : Ending) (w' : World) : Prop := ∃ a L cc, e = .returned (.slice a L cc) ∧ L = l.length ∧ RdL w' a l ∧ L ≤ cc ∧ cc ≤ 9223372036854775807 ∧ Below w.heap.size w w'
set_option maxHeartbeats 4000000 in
theorem drawPa (HS : ShowOk) (HC : CatOk) (b : Option Addr) (n c : Nat) (f : Nat → Int) (w : World) (hrd : Rd .u8 w b n f) (hn : n ≤ 1048576) (hf : ∀ j, j < n → 0 ≤ f j ∧ f j < 256) (hb : n ≠ 0 → ∀ x, b = some x → x.block < w.heap.size) :
    Calls Try.prog 38 #[.slice b n c] w (DqRet (drawPF f n) w) := by
  have HR : Hid (Rd .u8 w b n f ∧ (∀ j, j < n → 0 ≤ f j ∧ f j < 256)) := ⟨hrd, hf⟩
  have HB : Hid (n ≠ 0 → ∀ x, b = some x → x.block < w.heap.size) := hb
  have HSC : Hid (ShowOk ∧ CatOk) := ⟨HS, HC⟩
  have HD : Hid (drawPF f n = if nBl f n 60 (0, hN f n n) = 0 then List.replicate (2000 + nBl f n 2 (nS n 60 (0, hN f n n))).toNat 32 else textDF f n (nS n 60 (0, hN f n n))) := rfl
  clear hrd hf hb HS HC
  go_enter Try.func38, Try.ntmps38
  go_wp2_with fail
  refine (l1New_x b n c f _ HR.out.1 hn HR.out.2).mono ?_
  rintro e w1 ⟨rfl, hd1, hb1⟩
  have hz1 := hd1.cur.cells.2.2.2.2
  have HZ : Hid (DrB (w.heap.size + 1) w.heap.size b n) := ⟨by omega, fun h x e => by have := HB.out h x e; omega⟩
  have H1 : Hid (DrX w1 w.heap.size b n c f (0, hN f n n) ∧ Below w.heap.size w w1) := ⟨hd1, hb1⟩
  clear hd1 hb1
  generalize ((0 : Nat), hN f n n) = s0 at *
  go_wp2_with fail
  refine (l1Once_x H1.out.1 60 (by omega) (by omega)).mono ?_
  rintro e w2 ⟨rfl, hd2, hg2⟩
  have hz2 := hg2.size
  have H2 : Hid (DrX w2 w.heap.size b n c f (nS n 60 s0) ∧ Below w.heap.size w w2) := ⟨hd2, H1.out.2.grown hg2 (by omega) (fun k e => by injection e with e; omega)⟩
  clear hd2 hg2 H1
  generalize nS n 60 s0 = s1 at *
  by_cases h0 : nBl f n 60 s0 = 0
  · have e0 : (nBl f n 60 s0 == 0) = true := by simp [h0]
    have HE : Hid (drawPF f n = List.replicate (2000 + nBl f n 2 s1).toNat 32) := by show _ = _; rw [HD.out, if_pos h0]
    clear h0 HD
    go_wp2_with fail
    refine (l1Below_x H2.out.1 2 (by omega) (by omega)).mono ?_
    rintro e w3 ⟨rfl, hd3, hg3⟩
    have hz3 := hg3.size
    obtain ⟨x0, x1⟩ := nBl_range f n (k := 2) (by omega) s1
    obtain ⟨m, hm⟩ : ∃ m : Nat, (m : Int) = 2000 + nBl f n 2 s1 := ⟨(2000 + nBl f n 2 s1).toNat, by omega⟩
    have HE2 : Hid (drawPF f n = List.replicate m 32) := by show _ = _; rw [HE.out, ← hm, Int.toNat_natCast]
    have H3 : Hid (Below w.heap.size w w3) := H2.out.2.grown hg3 (by omega) (fun k e => by injection e with e; omega)
    have ew : IntKind.i64.wrap (2000 + nBl f n 2 s1) = (m : Int) := by rw [IntKind.wrap_i64]; omega
    have ew' : 2000 + nBl f n 2 s1 = (m : Int) := by omega
    have hm1 : m ≤ 3000 := by omega
    clear hd3 hg3 H2 HE hm x0 x1
    generalize nBl f n 2 s1 = xx at *
    go_wp2_with fail
    refine (zeros_own m w3 (by omega)).mono ?_
    rintro e w4 ⟨a4, c4, rfl, ho4, hc4, hcm4, hb4⟩
    have hz4 := hb4.size
    have H4 : Hid (OwnB w4 w3.heap.size a4 m (fun _ => 0) ∧ Below w.heap.size w w4) := ⟨ho4, H3.out.trans (hb4.mono H3.out.size)⟩
    clear ho4 hb4 H3 ew ew'
    go_wp2
    go_loopw [6, 18] (fun u i wr => ∃ j : Nat, i = .int .i64 (j : Int) ∧ j ≤ m ∧ OwnB wr w3.heap.size a4 m (fun i => if i < j then 32 else 0) ∧ Below w.heap.size w wr) (fun _ i _ => m - (intOf i).toNat)
    case atStart => exact ⟨0, rfl, Nat.zero_le _, H4.out.1.congr (fun i _ => by simp), H4.out.2⟩
    case round =>
      obtain ⟨j, rfl, hj, hown, hbel⟩ := hrel
      have HO : Hid (OwnB wr w3.heap.size a4 m (fun i => if i < j then 32 else 0) ∧ Below w.heap.size w wr) := ⟨hown, hbel⟩
      by_cases hlt : j < m
      · have ij : (j : Int) < (m : Int) := by omega
        have ij0 : (0 : Int) ≤ (j : Int) := by omega
        rcases hown with h0 | ⟨q, rfl, hq, hrow⟩
        · omega
        have hc : wr.cell? ⟨q, j, none⟩ = some (.int .u8 0) := by have := hrow.cell hlt; rw [this]; simp
        have hf := hrow.frozen j
        have hql := hrow.lt
        have HX : Hid (OwnB (wr.setCell ⟨q, j, none⟩ (.int .u8 32)) w3.heap.size (some ⟨q, 0, none⟩) m (fun i => if i < j + 1 then 32 else 0) ∧ Below w.heap.size w (wr.setCell ⟨q, j, none⟩ (.int .u8 32))) := by
          refine ⟨.inr ⟨q, rfl, hq, (hrow.set j _).congr (fun i hi => ?_)⟩, hbel.setCell (by show w.heap.size ≤ q; omega) _⟩
          by_cases e : i = j
          · simp [e]
          · rw [if_neg e]
            have : (i < j + 1) ↔ i < j := by omega
            simp only [this]
        clear hrow hbel
        go_wp2
        go_roundw
        case rel => exact ⟨j + 1, by go_num, by omega, HX.out⟩
        case measure => simp [intOf]; omega
      · have ij : ¬ (j : Int) < (m : Int) := by omega
        obtain rfl : j = m := by omega
        have HF : Hid (DqRet (drawPF f n) w (.returned (.slice a4 j c4)) wr) := by
          show DqRet _ _ _ _
          rw [HE2.out]
          refine ⟨a4, j, c4, rfl, by simp, ?_, hc4, hcm4, hbel⟩
          have := (hown.congr (f' := lf (List.replicate j 32)) (fun i hi => by unfold lf; rw [List.getD_eq_getElem?_getD, List.getElem?_replicate, if_pos hi, if_pos hi]; rfl)).rd
          unfold RdL
          simpa using this
        clear hown hbel
        go_wp2
        go_ret
        exact HF.out
  have e0 : (nBl f n 60 s0 == 0) = false := by simp [h0]
  have HE : Hid (drawPF f n = textDF f n s1) := by show _ = _; rw [HD.out, if_neg h0]
  clear h0 HD
  go_wp2_with fail
  refine (drawText_x HSC.out.1 HSC.out.2 HZ.out (by omega) H2.out.1).mono ?_
  rintro e w3 ⟨a3, L3, c3, rfl, hL3, ht3, hg3⟩
  have HF : Hid (DqRet (drawPF f n) w (.returned (.slice a3 L3 c3)) w3) := by
    show DqRet _ _ _ _
    rw [HE.out]
    exact ⟨a3, L3, c3, rfl, hL3, ht3.1, by have := ht3.2.2; omega, by have := ht3.2.2; omega, H2.out.2.grown hg3 (by omega) (fun k e => by injection e with e; omega)⟩
  clear hL3 ht3 hg3
  go_wp2
  go_ret
  exact HF.out
end Go.Proofs.Ytocmbnocdjnfpaa

namespace Go.Proofs.Ytocmbnocdjnfpaa
open Go.RowKit Go.Deep
set_option linter.unusedVariables false
set_option maxRecDepth 100000

set_option maxHeartbeats 1000000 in
theorem specPP (pt : List Int) (a : Option Addr) (n c : Nat) (I : Nat → Int) (X R : Nat → ByteArray) (w : World) (h : RdN w a n I X R) (hn : n ≤ 1048576) (hc : n ≤ c) (hcm : c ≤ 9223372036854775807) (ht : IsTx n I X R pt) :
    Calls Try.prog 14 #[.agg #[.slice a n c]] w (RetL w pt) := by
  have HT : Hid (IsTx n I X R pt) := ht
  clear ht
  have HV : Hid (∀ W, Below w.heap.size w W → Calls Try.prog 10 #[.agg #[.slice a n c]] W (AnsN W (VPth n I X R))) := fun W hW => specVP a n c I X R W (h.below hW) hn hc hcm
  have HR : Hid (RdN w a n I X R) := h
  have HB0 : Hid (Below w.heap.size w (w.alloc (.cells #[.slice a n c] 29))) := below_alloc _ _
  clear h
  go_enter Try.func14, Try.ntmps14
  go_wp2_with fail
  refine (HV.out _ HB0.out).mono ?_
  rintro e w1 ⟨bv1, rfl, hbv, hb1⟩
  have HB1 : Hid (Below w.heap.size w w1) := HB0.out.trans (hb1.mono HB0.out.size)
  have hbx : w1.cell? ⟨w.heap.size, 0, none⟩ = some (.slice a n c) := by
    rw [hb1.cell (by simp)]
    simp
  have hlt : w.heap.size < w1.heap.size := by have := hb1.size; simp at this; omega
  clear hb1 HV HB0
  cases bv1 with
  | false =>
    have hno : ¬ VPth n I X R := fun hv => by have := hbv.2 hv; cases this
    have HE : Hid (pt = []) := by
      rcases HT.out with ⟨q, _⟩ | ⟨_, q⟩
      · exact absurd q hno
      · exact q
    clear hbv hno
    have HF : Hid (RetL w pt (.returned (.slice (some ⟨w1.heap.size, 0, none⟩) 0 0)) (w1.alloc (.cells #[] 5))) := by
      rw [HE.out]
      exact retL_of rfl (.inl rfl) (HB1.out.alloc HB1.out.size _) (fun h0 => absurd h0 (by decide)) ⟨Nat.le_refl _, by omega⟩
    go_wp2
    go_ret
    exact HF.out
  | true =>
    have hv : VPth n I X R := hbv.1 rfl
    have HE : Hid (pt = T I X R (n - 1)) := by
      rcases HT.out with ⟨_, q⟩ | ⟨q, _⟩
      · exact q
      · exact absurd hv q
    obtain ⟨m, hm⟩ : ∃ m, n = m + 1 := ⟨n - 1, by have := hv.1; omega⟩
    subst hm
    obtain ⟨b, o, ea⟩ : ∃ b o, a = some ⟨b, o, none⟩ := by
      rcases HR.out with h0 | ⟨b, o, e, _⟩
      · omega
      · exact ⟨b, o, e⟩
    subst ea
    have HS : Hid (Calls Try.prog 46 #[.slice (some ⟨b, o, none⟩) (m + 1) c] w1 (RetL w1 (T I X R m))) := by
      have q := l6Show_any hv.gd (m + 1) b o 0 m c w1 (by simpa only [Nat.zero_add] using HR.out.below HB1.out) (Nat.le_refl _) (by have := hv.1; omega) hc hcm (by omega) (by simpa only [Nat.zero_add] using hv.2.2.1)
      rw [Nat.zero_add] at q
      exact q
    clear hbv hv
    go_wp2_with fail
    refine HS.out.mono ?_
    rintro e w2 ⟨a2, c2, rfl, hr2, hb2, hf2, hc2⟩
    have HF : Hid (RetL w pt (.returned (.slice a2 (T I X R m).length c2)) w2) := by
      rw [HE.out, Nat.add_sub_cancel]
      exact retL_of rfl hr2 (HB1.out.trans (hb2.mono HB1.out.size)) (fun h0 p hp => Nat.le_trans HB1.out.size (hf2 h0 p hp)) hc2
    clear hr2 hb2 hf2 hc2
    go_wp2
    go_ret
    exact HF.out
end Go.Proofs.Ytocmbnocdjnfpaa

namespace Go.Proofs.Ytocmbnocdjnfpaa
open Go.RowKit Go.Deep

/-- A row whose first n cells are not frozen, with a mark behind them. -/
def rowM (w : World) (g n : Nat) (F : Nat → Value) : Prop := ∃ (cur : Array Value) (fr : Nat × Nat), w.heap[g]? = some (.cells cur 5 fr) ∧ n ≤ cur.size ∧ n ≤ fr.1 ∧ ∀ i, i < n → cur[i]? = some (F i)
theorem rowM.cell {w : World} {g n : Nat} {F : Nat → Value} (h : rowM w g n F) {i : Nat} (hi : i < n) : w.cell? ⟨g, i, none⟩ = some (F i) := by
  obtain ⟨c, fr, hb, _, _, hc⟩ := h
  simp [World.cell?, hb, hc i hi]
theorem rowM.frozen {w : World} {g n : Nat} {F : Nat → Value} (h : rowM w g n F) (i : Nat) (hi : i < n) : w.frozen? ⟨g, i, none⟩ = false := by
  obtain ⟨c, fr, hb, _, hf, _⟩ := h
  simp [World.frozen?, hb]
  omega
theorem rowM.congr {w : World} {g n : Nat} {F G : Nat → Value} (h : rowM w g n F) (e : ∀ i, i < n → F i = G i) : rowM w g n G := by
  obtain ⟨c, fr, hb, hn, hf, hc⟩ := h
  exact ⟨c, fr, hb, hn, hf, fun i hi => by rw [hc i hi, e i hi]⟩
theorem rowM.set {w : World} {g n : Nat} {F : Nat → Value} (h : rowM w g n F) (i : Nat) (v : Value) : rowM (w.setCell ⟨g, i, none⟩ v) g n (fun j => if j = i then v else F j) := by
  obtain ⟨c, fr, hb, hn, hf, hc⟩ := h
  refine ⟨c.setIfInBounds i v, fr, ?_, by simpa using hn, hf, fun j hj => ?_⟩
  · simp [World.setCell, Array.getElem?_modify, hb]
  · rw [Array.getElem?_setIfInBounds]
    by_cases e : j = i
    · subst e
      have : j < c.size := by omega
      simp [this]
    · rw [if_neg (fun h => e h.symm)]
      show c[j]? = some (if j = i then v else F j)
      rw [if_neg e]
      exact hc j hj
theorem rowM.rd {w : World} {g n : Nat} {f : Nat → Int} (h : rowM w g n (fun i => .int .u8 (f i))) : Rd .u8 w (some ⟨g, 0, none⟩) n f := .inr ⟨g, 0, rfl, fun i hi => by rw [Nat.zero_add]; exact h.cell hi⟩

end Go.Proofs.Ytocmbnocdjnfpaa

namespace Go.Proofs.Ytocmbnocdjnfpaa
open Go.RowKit Go.Deep
set_option linter.unusedVariables false
set_option linter.unusedSimpArgs false
set_option maxRecDepth 100000

/-- A text of the call's own, a mark behind it. -/
def OwM (W : World) (B : Nat) (ad : Option Addr) (pt : List Int) : Prop := pt = [] ∨ ∃ g, ad = some ⟨g, 0, none⟩ ∧ B ≤ g ∧ rowM W g pt.length (fun i => .int .u8 (lf pt i))
theorem rowM.of_block {w w' : World} {g n : Nat} {F : Nat → Value} (h : rowM w g n F) (hb : w'.heap[g]? = w.heap[g]?) : rowM w' g n F := by
  obtain ⟨c, fr, h1, h2⟩ := h
  exact ⟨c, fr, hb.trans h1, h2⟩
theorem rowM.lt {w : World} {g n : Nat} {F : Nat → Value} (h : rowM w g n F) : g < w.heap.size := by
  obtain ⟨c, fr, h1, h2⟩ := h
  exact (Array.getElem?_eq_some_iff.1 h1).1
theorem OwM.below {W W' : World} {B : Nat} {ad : Option Addr} {pt : List Int} (h : OwM W B ad pt) (hb : Below W.heap.size W W') : OwM W' B ad pt := by
  rcases h with h | ⟨g, e, hg, hr⟩
  · exact .inl h
  · exact .inr ⟨g, e, hg, hr.of_block (hb.block g hr.lt)⟩
theorem OwM.rd {W : World} {B : Nat} {ad : Option Addr} {pt : List Int} (h : OwM W B ad pt) : RdL W ad pt := by
  rcases h with rfl | ⟨g, rfl, hg, hr⟩
  · exact .inl rfl
  · exact hr.rd
end Go.Proofs.Ytocmbnocdjnfpaa

namespace Go.Proofs.Ytocmbnocdjnfpaa
open Go.RowKit Go.Deep
set_option linter.unusedVariables false
set_option maxRecDepth 100000

/-- '[]byte(s)': a row of its own, marked behind. -/
theorem conv_sm (x : ByteArray) (W : World) : ∃ (c : Nat) (W' : World), (convert 9 33 (.string x)).run Try.prog W = .ok (.slice (some ⟨W.heap.size, 0, none⟩) x.size c) W' ∧ Below W.heap.size W W' ∧ rowM W' W.heap.size x.size (fun i => .int .u8 (lf (bl x) i)) ∧ x.size ≤ c ∧ (x.size ≤ maxLen → c ≤ maxLen) := by
  refine ⟨_, _, run_bytes_of_string W _ _ 5 x (by kernel_rfl) (by kernel_rfl) (by kernel_rfl), ((Below.refl _ _).drew).alloc (by exact Nat.le_refl _) _, ?_, grownCap_ge _ _ _ _, grownCap_le_maxLen _ _ _ _⟩
  have hz : x.size ≤ (bytesRow x (grownCap W x.size 0 5)).size := by
    unfold bytesRow
    rw [Array.size_append, Array.size_map]
    show x.data.size ≤ _
    omega
  refine ⟨bytesRow x (grownCap W x.size 0 5), _, Array.getElem?_push_size, hz, hz, fun i hi => ?_⟩
  unfold bytesRow lf bl
  rw [Array.getElem?_append_left (by simp; exact hi), Array.getElem?_map]
  have hx : x.data[i]? = some x.data[i] := Array.getElem?_eq_getElem hi
  dsimp only
  rw [hx, List.getD_eq_getElem?_getD, List.getElem?_map, Array.getElem?_toList, hx]
  rfl
end Go.Proofs.Ytocmbnocdjnfpaa

namespace Go.Proofs.Ytocmbnocdjnfpaa
open Go.RowKit Go.Deep
set_option linter.unusedVariables false
set_option maxRecDepth 100000

/-- How strongly a node binds, as the program counts. -/
def iB (k : Int) : Int := if k = 7 ∨ k = 8 then 0 else if k = 6 then 1 else 2
theorem strength_any (k : Int) (w : World) : Calls Try.prog 91 #[.int .i64 k] w fun e w' => e = .returned (.int .i64 (iB k)) ∧ w' = w := by
  by_cases h7 : k = 7
  · subst h7
    go_enter Try.func91, Try.ntmps91
    go_wp2
    go_ret
    exact ⟨rfl, rfl⟩
  by_cases h8 : k = 8
  · subst h8
    go_enter Try.func91, Try.ntmps91
    go_wp2
    go_ret
    exact ⟨rfl, rfl⟩
  by_cases h6 : k = 6
  · subst h6
    go_enter Try.func91, Try.ntmps91
    go_wp2
    go_ret
    exact ⟨rfl, rfl⟩
  have b6 : (k == 6) = false := by simp [h6]
  have b7 : (k == 7) = false := by simp [h7]
  have b8 : (k == 8) = false := by simp [h8]
  have HE : Hid (iB k = 2) := by show _ = _; unfold iB; rw [if_neg (by omega), if_neg h6]
  go_enter Try.func91, Try.ntmps91
  go_wp2
  go_ret
  exact ⟨by rw [HE.out]; rfl, rfl⟩
theorem bl_app (a b : ByteArray) : bl (a ++ b) = bl a ++ bl b := by
  unfold bl
  simp [ByteArray.data_append]
theorem iB_wr (k kk : Int) (r : Bool) (st : Int) (h : (k = 3 ∨ k = 4 ∨ k = 5) ∧ r = false ∧ st = 2 ∨ k = 6 ∧ r = false ∧ st = 1 ∨ k = 6 ∧ r = true ∧ st = 2 ∨ (k = 7 ∨ k = 8) ∧ r = false ∧ st = 0 ∨ (k = 7 ∨ k = 8) ∧ r = true ∧ st = 1) : (iB kk < st) ↔ wrB k r (sB kk) = true := by
  have h4 : (kk = 7 ∨ kk = 8) ∨ kk = 6 ∨ (kk ≠ 6 ∧ kk ≠ 7 ∧ kk ≠ 8) := by omega
  have e : (iB kk = 0 ∧ sB kk = 1) ∨ (iB kk = 1 ∧ sB kk = 2) ∨ (iB kk = 2 ∧ sB kk = 0) := by
    unfold iB sB
    rcases h4 with h | h | ⟨h1, h2, h3⟩
    · left; rw [if_pos h, if_neg (by omega), if_pos h]; exact ⟨rfl, rfl⟩
    · subst h; right; left; exact ⟨rfl, rfl⟩
    · right; right; rw [if_neg (by omega), if_neg h1, if_neg h1, if_neg (by omega)]; exact ⟨rfl, rfl⟩
  rcases e with ⟨e1, e2⟩ | ⟨e1, e2⟩ | ⟨e1, e2⟩ <;> rw [e1, e2] <;> rcases h with ⟨q, rfl, rfl⟩ | ⟨rfl, rfl, rfl⟩ | ⟨rfl, rfl, rfl⟩ | ⟨q, rfl, rfl⟩ | ⟨q, rfl, rfl⟩ <;> (try rcases q with rfl | rfl | rfl) <;> (try rcases q with rfl | rfl) <;> simp [wrB]
set_option maxHeartbeats 1000000 in
theorem text1_any (i : Nat) (st kk : Int) (b4 b5 gp gt n m c4 c5 : Nat) (y : ByteArray) (w : World) (h4 : w.cell? ⟨b4, 0, none⟩ = some (.slice (some ⟨gp, 0, none⟩) n c4)) (h5 : w.cell? ⟨b5, 0, none⟩ = some (.slice (some ⟨gt, 0, none⟩) m c5)) (hi : i < n) (him : i < m) (hk : w.cell? ⟨gp, i * 7, none⟩ = some (.int .i64 kk)) (hy : w.cell? ⟨gt, i, none⟩ = some (.string y)) (hys : y.size ≤ 1000000) :
    Calls Try.prog 90 #[.int .i64 (i : Int), .int .i64 st, .pointer (some ⟨b4, 0, none⟩), .pointer (some ⟨b5, 0, none⟩)] w fun e w' => ∃ z, e = .returned (.string z) ∧ bl z = (if iB kk < st then [40] ++ (bl y ++ [41]) else bl y) ∧ w' = w := by
  have HS : Hid (Calls Try.prog 91 #[.int .i64 kk] w fun e w' => e = .returned (.int .i64 (iB kk)) ∧ w' = w) := strength_any kk w
  have i0 : (0 : Int) ≤ (i : Int) := by omega
  have i1 : (i : Int) < (n : Int) := by omega
  have i2 : (i : Int) < (m : Int) := by omega
  generalize iB kk = s at HS ⊢
  by_cases hs : s < st
  · go_enter Try.func90, Try.ntmps90
    go_wp2_with fail
    refine HS.out.mono ?_
    rintro e w1 ⟨rfl, hw1⟩
    subst hw1
    go_wp2
    go_ret
    refine ⟨_, rfl, ?_, rfl⟩
    (try rw [if_pos hs])
    rw [bl_app, bl_app]
    rfl
  · have hs2 : decide (s < st) = false := decide_eq_false hs
    go_enter Try.func90, Try.ntmps90
    go_wp2_with fail
    refine HS.out.mono ?_
    rintro e w1 ⟨rfl, hw1⟩
    subst hw1
    go_wp2
    go_ret
    exact ⟨_, rfl, by first | rfl | rw [if_neg (by omega)], rfl⟩
end Go.Proofs.Ytocmbnocdjnfpaa

namespace Go.Proofs.Ytocmbnocdjnfpaa
open Go.RowKit Go.Deep
set_option linter.unusedVariables false
set_option maxRecDepth 100000

theorem infoS : (Try.prog.info? 9).map (fun i => (i.zero, i.size, i.bytes)) = some (some (.string { data := #[] }), 1, 16) := by kernel_rfl
def picks (Y : Nat → ByteArray) (F : Nat → Nat) (q : Nat) : List Value := (List.range q).map (fun j => Value.string (Y (F j)))
theorem picks_succ (Y : Nat → ByteArray) (F : Nat → Nat) (q : Nat) : picks Y F (q + 1) = picks Y F q ++ [.string (Y (F q))] := by unfold picks; rw [List.range_succ, List.map_append]; rfl

set_option maxHeartbeats 1000000 in
theorem pickS_any (gt n ct : Nat) (Y : Nat → ByteArray) (aa : Option Addr) (q ca : Nat) (F : Nat → Nat) (w : World) (h1 : ∀ i, i < n → w.cell? ⟨gt, i, none⟩ = some (.string (Y i))) (h2 : Rd .i64 w aa q (fun j => (F j : Int))) (hF : ∀ j, j < q → F j < n) (hq : q ≤ 1000) (hn : n ≤ 1000) :
    Calls Try.prog 49 #[.slice (some ⟨gt, 0, none⟩) n ct, .slice aa q ca] w fun e w' => ∃ v, e = .returned v ∧ w'.ownsRow w.heap.size 9 1 v q (picks Y F q) ∧ Below w.heap.size w w' := by
  have HR : Hid ((∀ i, i < n → w.cell? ⟨gt, i, none⟩ = some (.string (Y i))) ∧ Rd .i64 w aa q (fun j => (F j : Int)) ∧ ∀ j, j < q → F j < n) := ⟨h1, h2, hF⟩
  clear h1 h2 hF
  obtain ⟨i0, hi, hz0, hz1, hz2⟩ := info_parts infoS
  have HI : Hid (Try.prog.info? 9 = some i0 ∧ i0.zero = some (.string { data := #[] }) ∧ i0.size = 1 ∧ i0.bytes = 16) := ⟨hi, hz0, hz1, hz2⟩
  clear hi hz0 hz1 hz2
  go_enter Try.func49, Try.ntmps49
  go_wp2
  go_loopw [5, 7, 10] (fun u _ i wr => ∃ k : Nat, k ≤ q ∧ i = .int .i64 k ∧ wr.ownsRow w.heap.size 9 1 u k (picks Y F k) ∧ Below w.heap.size w wr) (fun _ _ i _ => q - (intOf i).toNat)
  case atStart => exact ⟨0, Nat.zero_le _, rfl, ⟨rfl, .inl ⟨rfl, rfl⟩⟩, Below.refl _ _⟩
  case round =>
    obtain ⟨k, hk, rfl, hown, hbr⟩ := hrel
    have HO : Hid (wr.ownsRow w.heap.size 9 1 u5 k (picks Y F k) ∧ Below w.heap.size w wr) := ⟨hown, hbr⟩
    have hsz := hbr.size
    clear hown hbr
    by_cases hlt : k < q
    · rcases HR.out.2.1 with h0 | ⟨ba, oa, ea, hca⟩
      · omega
      subst ea
      have c1 : wr.cell? ⟨ba, oa + k, none⟩ = some (.int .i64 (F k : Int)) := (HO.out.2.cell (World.block_lt_of_cell? _ _ (hca k hlt))).trans (hca k hlt)
      have hFk := HR.out.2.2 k hlt
      have c2 : wr.cell? ⟨gt, F k, none⟩ = some (.string (Y (F k))) := (HO.out.2.cell (World.block_lt_of_cell? _ _ (HR.out.1 _ hFk))).trans (HR.out.1 _ hFk)
      obtain ⟨fk, hfk⟩ : ∃ fk, fk = F k := ⟨_, rfl⟩
      rw [← hfk] at c1 c2 hFk
      have HF2 : Hid (fk = F k) := hfk
      clear hca hfk
      have k0 : (0 : Int) ≤ (k : Int) := by omega
      have k1 : (k : Int) < (q : Int) := by omega
      have f0 : (0 : Int) ≤ (fk : Int) := by omega
      have f1 : (fk : Int) < (n : Int) := by omega
      go_wp2_with (at_builtin; refine wpList_append_own _ rfl _ _ 49 rfl w.heap.size 9 i0 (.string { data := #[] }) 1 16 (by kernel_rfl) HI.out.1 HI.out.2.1 HI.out.2.2.1 HI.out.2.2.2 rfl (by decide) u5 k (picks Y F k) rfl (HO.out.1.alloc _) ⟨wr.heap.size, 0, none⟩ 1 1 [.string (Y fk)] rfl rfl (new_cells _ [.string (Y fk)] _) (fun u hu => by simp at hu; subst hu; rfl) (by unfold maxLen; omega) (by omega) (by simp; omega) ?_)
      intro v' w1 ho hg _
      have HX : Hid (w1.ownsRow w.heap.size 9 1 v' (k + 1) (picks Y F (k + 1)) ∧ Below w.heap.size w w1) := by
        rw [picks_succ, ← HF2.out]
        exact ⟨ho, (HO.out.2.alloc hsz _).grown hg (by simp; omega) (fun b e => (HO.out.1.lt b e).1)⟩
      clear ho hg HO c1 c2
      go_wp2
      go_roundw
      case rel => exact ⟨k + 1, by omega, by go_num, HX.out⟩
      case measure => simp [intOf]; omega
    · have e : k = q := by omega
      subst e
      have l1 : ¬ (k : Int) < (k : Int) := by omega
      go_wp2
      go_ret
      exact ⟨_, rfl, HO.out⟩
set_option maxHeartbeats 400000 in
theorem lastS_any (gt n ct : Nat) (y : ByteArray) (w : World) (h : w.cell? ⟨gt, n, none⟩ = some (.string y)) (hn : n ≤ 1000) : Calls Try.prog 50 #[.slice (some ⟨gt, 0, none⟩) (n + 1) ct] w fun e w' => e = .returned (.string y) ∧ w' = w := by
  have hw : IntKind.i64.wrap (((n + 1 : Nat) : Int) - 1) = (n : Int) := by rw [IntKind.wrap_i64]; omega
  have hw2 : IntKind.i64.wrap ((n : Int) + 1 - 1) = (n : Int) := by rw [IntKind.wrap_i64]; omega
  go_enter Try.func50, Try.ntmps50
  go_wp2
  go_ret
  exact ⟨rfl, rfl⟩
end Go.Proofs.Ytocmbnocdjnfpaa

namespace Go.Proofs.Ytocmbnocdjnfpaa
open Go.RowKit Go.Deep
set_option linter.unusedVariables false
set_option maxRecDepth 100000

theorem app_pl {ops : Array Oper} {rest : List Oper} {o : Oper} {a : Act} {w2 : World} {Q : Exit → Act → World → Prop} (hgd : o.guard = none) (x y : Operand)
    (ho : o.op = .call { callee := .builtin .append, args := #[x, y], argTypes := #[65, 65] })
    (B k : Nat) (v : Value) (xs : List Value) (p : Plc) (hx : a.eval x = v) (hown : w2.ownsRow B 73 7 v k xs) (hy : a.eval y = .slice (some ⟨w2.heap.size, 0, none⟩) 1 1)
    (hk : k ≤ 1048576) (hB : B ≤ w2.heap.size)
    (h : ∀ v' w', w'.ownsRow B 73 7 v' (k + 1) (xs ++ p.cells) → (w2.alloc (.cells #[.int .i64 p.kind, .string p.s, .string p.t, .bool p.bound, .string p.label, .slice p.ad p.cnt p.cap, .int .i64 p.height] 73)).grownBy w' v.ownBlock → wpList Try.prog ops Q rest (a.put o.dst v') w') :
    wpList Try.prog ops Q (o :: rest) a (w2.alloc (.cells #[.int .i64 p.kind, .string p.s, .string p.t, .bool p.bound, .string p.label, .slice p.ad p.cnt p.cap, .int .i64 p.height] 73)) := by
  obtain ⟨i0, hi, hz0, hz1, hz2⟩ := info_parts infoPl
  exact wpList_append_own _ hgd x y 65 ho B 73 i0 _ 7 96 underPls hi hz0 hz1 hz2 rfl (by decide) v k xs hx (hown.alloc _) ⟨w2.heap.size, 0, none⟩ 1 1 p.cells hy rfl (plc_new w2 p) (plc_one p) (by unfold maxLen; omega) (by omega) (by simp; omega) (fun v' w' q1 q2 _ => h v' w' q1 q2)

set_option maxHeartbeats 2000000 in
theorem pickP_any (gp n ct : Nat) (f : Nat → Plc) (aa : Option Addr) (q ca : Nat) (F : Nat → Nat) (w : World) (h1 : PlAt w gp n f) (h2 : Rd .i64 w aa q (fun j => (F j : Int))) (hF : ∀ j, j < q → F j < n) (hq : q ≤ 1000) (hn : n ≤ 1000) :
    Calls Try.prog 48 #[.slice (some ⟨gp, 0, none⟩) n ct, .slice aa q ca] w fun e w' => ∃ v, e = .returned v ∧ w'.ownsRow w.heap.size 73 7 v q (plRow (fun j => f (F j)) q) ∧ Below w.heap.size w w' := by
  have HR : Hid (PlAt w gp n f ∧ Rd .i64 w aa q (fun j => (F j : Int)) ∧ ∀ j, j < q → F j < n) := ⟨h1, h2, hF⟩
  clear h1 h2 hF
  go_enter Try.func48, Try.ntmps48
  go_wp2
  go_loopw [5, 7, 10] (fun u _ i wr => ∃ k : Nat, k ≤ q ∧ i = .int .i64 k ∧ wr.ownsRow w.heap.size 73 7 u k (plRow (fun j => f (F j)) k) ∧ Below w.heap.size w wr) (fun _ _ i _ => q - (intOf i).toNat)
  case atStart => exact ⟨0, Nat.zero_le _, rfl, ⟨rfl, .inl ⟨rfl, rfl⟩⟩, Below.refl _ _⟩
  case round =>
    obtain ⟨k, hk, rfl, hown, hbr⟩ := hrel
    have HO : Hid (wr.ownsRow w.heap.size 73 7 u5 k (plRow (fun j => f (F j)) k) ∧ Below w.heap.size w wr) := ⟨hown, hbr⟩
    have hsz := hbr.size
    clear hown hbr
    by_cases hlt : k < q
    · rcases HR.out.2.1 with h0 | ⟨ba, oa, ea, hca⟩
      · omega
      subst ea
      have c1 : wr.cell? ⟨ba, oa + k, none⟩ = some (.int .i64 (F k : Int)) := (HO.out.2.cell (World.block_lt_of_cell? _ _ (hca k hlt))).trans (hca k hlt)
      have hFk := HR.out.2.2 k hlt
      obtain ⟨fk, hfk⟩ : ∃ fk, fk = F k := ⟨_, rfl⟩
      rw [← hfk] at c1 hFk
      have HF2 : Hid (fk = F k) := hfk
      have hp := HR.out.1.below (HO.out.2.mono (Nat.le_refl _))
      obtain ⟨p, hpp⟩ : ∃ p, p = f fk := ⟨_, rfl⟩
      have cc : ∀ r, r < 7 → wr.cell? ⟨gp, fk * 7 + r, none⟩ = p.cells[r]? := fun r hr => by rw [hpp]; exact hp.cell hFk hr
      have d0 := cc 0 (by omega)
      have d1 := cc 1 (by omega)
      have d2 := cc 2 (by omega)
      have d3 := cc 3 (by omega)
      have d4 := cc 4 (by omega)
      have d5 := cc 5 (by omega)
      have d6 := cc 6 (by omega)
      simp [Plc.cells] at d0 d1 d2 d3 d4 d5 d6
      have HP : Hid (p = f (F k)) := by show _ = _; rw [hpp, hfk]
      clear hca hfk hp cc hpp
      have k0 : (0 : Int) ≤ (k : Int) := by omega
      have k1 : (k : Int) < (q : Int) := by omega
      have f0 : (0 : Int) ≤ (fk : Int) := by omega
      have f1 : (fk : Int) < (n : Int) := by omega
      go_wp2_with (at_builtin; refine app_pl rfl _ _ rfl w.heap.size k u5 (plRow (fun j => f (F j)) k) p rfl HO.out.1 rfl (by omega) hsz ?_)
      intro v' w1 ho hg
      have HX : Hid (w1.ownsRow w.heap.size 73 7 v' (k + 1) (plRow (fun j => f (F j)) (k + 1)) ∧ Below w.heap.size w w1) := by
        rw [plRow_succ, ← HP.out]
        exact ⟨ho, (HO.out.2.alloc hsz _).grown hg (by simp; omega) (fun b e => (HO.out.1.lt b e).1)⟩
      clear ho hg HO c1 d0 d1 d2 d3 d4 d5 d6
      go_wp2
      go_roundw
      case rel => exact ⟨k + 1, by omega, by go_num, HX.out⟩
      case measure => simp [intOf]; omega
    · have e : k = q := by omega
      subst e
      have l1 : ¬ (k : Int) < (k : Int) := by omega
      go_wp2
      go_ret
      exact ⟨_, rfl, HO.out⟩
end Go.Proofs.Ytocmbnocdjnfpaa

namespace Go.Proofs.Ytocmbnocdjnfpaa
open Go.RowKit Go.Deep
set_option linter.unusedVariables false
set_option maxRecDepth 100000

/-- The operands' kinds and texts lie in these two rows. -/
def OpsIn (w : World) (vp vt : Value) (q : Nat) (K : Nat → Int) (Y : Nat → ByteArray) : Prop :=
  q = 0 ∨ ∃ gp cp gt ct, vp = .slice (some ⟨gp, 0, none⟩) q cp ∧ vt = .slice (some ⟨gt, 0, none⟩) q ct ∧ ∀ i, i < q → w.cell? ⟨gp, i * 7, none⟩ = some (.int .i64 (K i)) ∧ w.cell? ⟨gt, i, none⟩ = some (.string (Y i))
/-- What place.text has behind its three boxes. -/
structure TxF (W0 w : World) (k : Int) (s t : ByteArray) (q : Nat) (at' : Option Addr) (nt ct : Nat) (K : Nat → Int) (Y : Nat → ByteArray) : Prop where
  b : Below w.heap.size w W0
  z : W0.heap.size = w.heap.size + 3
  o : ∀ (i : Nat) (st : Int) (r : Bool) (W : World), i < q → (∀ kk : Int, (iB kk < st) ↔ wrB k r (sB kk) = true) → Below W0.heap.size W0 W → Calls Try.prog 90 #[.int .i64 (i : Int), .int .i64 st, .pointer (some ⟨w.heap.size + 1, 0, none⟩), .pointer (some ⟨w.heap.size + 1 + 1, 0, none⟩)] W fun e w' => ∃ z, e = .returned (.string z) ∧ (bl z = wrT k r (K i) (bl (Y i)) ∧ z.size ≤ 300002) ∧ w' = W
  s1 : ∀ W, Below W0.heap.size W0 W → W.cell? ⟨w.heap.size, 0, none⟩ = some (.int .i64 k) ∧ W.cell? ⟨w.heap.size, 1, none⟩ = some (.string s) ∧ W.cell? ⟨w.heap.size, 2, none⟩ = some (.string t)
  t0 : 0 < q → ∃ gt, at' = some ⟨gt, 0, none⟩ ∧ nt = q ∧ (Y 0).size ≤ 300000 ∧ ∀ W, Below W0.heap.size W0 W → W.cell? ⟨gt, 0, none⟩ = some (.string (Y 0)) ∧ W.cell? ⟨w.heap.size + 1 + 1, 0, none⟩ = some (.slice (some ⟨gt, 0, none⟩) q ct)
set_option maxHeartbeats 1000000 in
theorem txF_of (k : Int) (s t lb : ByteArray) (bd : Bool) (ad : Option Addr) (cn ca : Nat) (ht : Int) (ap at' : Option Addr) (np cp nt ct q : Nat) (K : Nat → Int) (Y : Nat → ByteArray) (w : World) (W0 : World) (hW0 : W0 = ((w.alloc (.cells #[.int .i64 k, .string s, .string t, .bool bd, .string lb, .slice ad cn ca, .int .i64 ht] 73)).alloc (.cells #[.slice ap np cp] 65)).alloc (.cells #[.slice at' nt ct] 49)) (ho : OpsIn w (.slice ap np cp) (.slice at' nt ct) q K Y) (hY : ∀ i, i < q → (Y i).size ≤ 300000) : TxF W0 w k s t q at' nt ct K Y := by
  have B0 : Hid (Below w.heap.size w W0 ∧ W0.heap.size = w.heap.size + 3 ∧ W0.heap[w.heap.size]? = some (.cells #[.int .i64 k, .string s, .string t, .bool bd, .string lb, .slice ad cn ca, .int .i64 ht] 73) ∧ W0.heap[w.heap.size + 1]? = some (.cells #[.slice ap np cp] 65) ∧ W0.heap[w.heap.size + 1 + 1]? = some (.cells #[.slice at' nt ct] 49)) := by
    have e1 : (w.alloc (.cells #[.int .i64 k, .string s, .string t, .bool bd, .string lb, .slice ad cn ca, .int .i64 ht] 73)).heap.size = w.heap.size + 1 := by simp
    have e2 : ((w.alloc (.cells #[.int .i64 k, .string s, .string t, .bool bd, .string lb, .slice ad cn ca, .int .i64 ht] 73)).alloc (.cells #[.slice ap np cp] 65)).heap.size = w.heap.size + 1 + 1 := by simp
    rw [hW0]
    refine ⟨((below_alloc _ _).alloc (by simp) _).alloc (by simp; omega) _, by simp, ?_, ?_, ?_⟩
    · rw [(below_alloc _ _).block _ (by rw [e2]; omega), (below_alloc _ _).block _ (by rw [e1]; omega)]
      exact Array.getElem?_push_size
    · rw [(below_alloc _ _).block _ (by rw [e2]; omega), ← e1]
      exact Array.getElem?_push_size
    · rw [← e2]
      exact Array.getElem?_push_size
  have HO : Hid (∀ (i : Nat) (st : Int) (r : Bool) (W : World), i < q → (∀ kk : Int, (iB kk < st) ↔ wrB k r (sB kk) = true) → Below W0.heap.size W0 W → Calls Try.prog 90 #[.int .i64 (i : Int), .int .i64 st, .pointer (some ⟨w.heap.size + 1, 0, none⟩), .pointer (some ⟨w.heap.size + 1 + 1, 0, none⟩)] W fun e w' => ∃ z, e = .returned (.string z) ∧ (bl z = wrT k r (K i) (bl (Y i)) ∧ z.size ≤ 300002) ∧ w' = W) := fun i st r W hi hiff hW => by
    rcases ho with h0 | ⟨gp, cp', gt, ct', e1, e2, hc⟩
    · omega
    injection e1 with e1 e1' e1''
    injection e2 with e2 e2' e2''
    obtain ⟨c1, c2⟩ := hc i hi
    have hbW : Below w.heap.size w W := B0.out.1.trans (hW.mono (by rw [B0.out.2.1]; omega))
    have q4 : W.cell? ⟨w.heap.size + 1, 0, none⟩ = some (.slice (some ⟨gp, 0, none⟩) q cp') := by
      have hh := (hW.block (w.heap.size + 1) (by rw [B0.out.2.1]; omega)).trans B0.out.2.2.2.1
      rw [← e1, ← e1', ← e1'']
      simp [World.cell?, hh]
    have q5 : W.cell? ⟨w.heap.size + 1 + 1, 0, none⟩ = some (.slice (some ⟨gt, 0, none⟩) q ct') := by
      have hh := (hW.block (w.heap.size + 1 + 1) (by rw [B0.out.2.1]; omega)).trans B0.out.2.2.2.2
      rw [← e2, ← e2', ← e2'']
      simp [World.cell?, hh]
    refine (text1_any i st (K i) _ _ gp gt q q cp' ct' (Y i) W q4 q5 hi hi ((hbW.cell (World.block_lt_of_cell? _ _ c1)).trans c1) ((hbW.cell (World.block_lt_of_cell? _ _ c2)).trans c2) (by have := hY i hi; omega)).mono ?_
    rintro e w' ⟨z, q1, q2, q3⟩
    have q6 : bl z = wrT k r (K i) (bl (Y i)) := by
      rw [q2]
      unfold wrT
      by_cases h : iB (K i) < st
      · rw [if_pos h, if_pos ((hiff _).1 h)]
        simp
      · rw [if_neg h, if_neg (fun q => h ((hiff _).2 q))]
    refine ⟨z, q1, ⟨q6, ?_⟩, q3⟩
    rw [← bl_length, q6]
    have := wrT_length k r (K i) (bl (Y i))
    rw [bl_length] at this
    have := hY i hi
    omega
  have HS1 : Hid (∀ W, Below W0.heap.size W0 W → W.cell? ⟨w.heap.size, 0, none⟩ = some (.int .i64 k) ∧ W.cell? ⟨w.heap.size, 1, none⟩ = some (.string s) ∧ W.cell? ⟨w.heap.size, 2, none⟩ = some (.string t)) := fun W hW => by
    have hh := (hW.block w.heap.size (by rw [B0.out.2.1]; omega)).trans B0.out.2.2.1
    refine ⟨?_, ?_, ?_⟩ <;> simp [World.cell?, hh]
  have HT0 : Hid (0 < q → ∃ gt, at' = some ⟨gt, 0, none⟩ ∧ nt = q ∧ (Y 0).size ≤ 300000 ∧ ∀ W, Below W0.heap.size W0 W → W.cell? ⟨gt, 0, none⟩ = some (.string (Y 0)) ∧ W.cell? ⟨w.heap.size + 1 + 1, 0, none⟩ = some (.slice (some ⟨gt, 0, none⟩) q ct)) := fun h0 => by
    rcases ho with h | ⟨gp, cp', gt, ct', e1, e2, hc⟩
    · omega
    injection e2 with e2 e2' e2''
    obtain ⟨_, c2⟩ := hc 0 h0
    refine ⟨gt, e2, e2', hY 0 h0, fun W hW => ?_⟩
    have hbW : Below w.heap.size w W := B0.out.1.trans (hW.mono (by rw [B0.out.2.1]; omega))
    have hh := (hW.block (w.heap.size + 1 + 1) (by rw [B0.out.2.1]; omega)).trans B0.out.2.2.2.2
    refine ⟨(hbW.cell (World.block_lt_of_cell? _ _ c2)).trans c2, ?_⟩
    rw [← e2, ← e2']
    simp [World.cell?, hh]
  exact ⟨B0.out.1, B0.out.2.1, HO.out, HS1.out, HT0.out⟩
end Go.Proofs.Ytocmbnocdjnfpaa

namespace Go.Proofs.Ytocmbnocdjnfpaa
open Go.RowKit Go.Deep
set_option linter.unusedVariables false
set_option maxRecDepth 100000

set_option maxHeartbeats 2000000 in
theorem textP_1 (s t lb : ByteArray) (bd : Bool) (ad : Option Addr) (cn ca : Nat) (ht : Int) (ap at' : Option Addr) (np cp nt ct q : Nat) (K : Nat → Int) (Y : Nat → ByteArray) (w : World) (hq : q = arOf 1) (ho : OpsIn w (.slice ap np cp) (.slice at' nt ct) q K Y) (hY : ∀ i, i < q → (Y i).size ≤ 300000) (hs : s.size ≤ 30) (htz : t.size ≤ 30) :
    Calls Try.prog 47 #[.agg #[.int .i64 1, .string s, .string t, .bool bd, .string lb, .slice ad cn ca, .int .i64 ht], .slice ap np cp, .slice at' nt ct] w fun e w' => ∃ z, e = .returned (.string z) ∧ bl z = nodeT 1 s t (bl (Y 0)) (K 0) (bl (Y 1)) (K 1) ∧ Below w.heap.size w w' := by
  go_enter Try.func47, Try.ntmps47
  go_wp2
  go_ret
  exact ⟨_, rfl, rfl, ((below_alloc _ _).alloc (by simp) _).alloc (by simp; omega) _⟩
set_option maxHeartbeats 2000000 in
theorem textP_2 (s t lb : ByteArray) (bd : Bool) (ad : Option Addr) (cn ca : Nat) (ht : Int) (ap at' : Option Addr) (np cp nt ct q : Nat) (K : Nat → Int) (Y : Nat → ByteArray) (w : World) (hq : q = arOf 2) (ho : OpsIn w (.slice ap np cp) (.slice at' nt ct) q K Y) (hY : ∀ i, i < q → (Y i).size ≤ 300000) (hs : s.size ≤ 30) (htz : t.size ≤ 30) :
    Calls Try.prog 47 #[.agg #[.int .i64 2, .string s, .string t, .bool bd, .string lb, .slice ad cn ca, .int .i64 ht], .slice ap np cp, .slice at' nt ct] w fun e w' => ∃ z, e = .returned (.string z) ∧ bl z = nodeT 2 s t (bl (Y 0)) (K 0) (bl (Y 1)) (K 1) ∧ Below w.heap.size w w' := by
  have HQs : Hid (∀ W : World, Calls Try.prog 92 #[.string s] W fun e w' => e = .returned (.string (strT (qL (bl s)))) ∧ Below W.heap.size W w') := fun W => quoted_any s W (by omega)
  have HBl : Hid (bl (strT (qL (bl s))) = qL (bl s) ∧ (strT (qL (bl s))).size ≤ 122) := ⟨bl_strT (qL_byt s), by rw [← bl_length, bl_strT (qL_byt s)]; exact qL_length s hs⟩
  obtain ⟨zs, hzs⟩ : ∃ zs, zs = strT (qL (bl s)) := ⟨_, rfl⟩
  rw [← hzs] at HQs HBl
  have hzz : zs.size ≤ 122 := HBl.out.2
  clear hzs
  go_enter Try.func47, Try.ntmps47
  go_wp2_with fail
  refine (HQs.out _).mono ?_
  rintro e w1 ⟨rfl, hb1⟩
  have HB : Hid (Below w.heap.size w w1) := (((below_alloc _ _).alloc (by simp) _).alloc (by simp; omega) _).trans (hb1.mono (by simp; omega))
  clear hb1
  go_wp2
  go_ret
  refine ⟨_, rfl, ?_, HB.out⟩
  rw [bl_app, bl_app, HBl.out.1]
  simp [nodeT, nodeP]
  rfl
set_option maxHeartbeats 2000000 in
theorem textP_6 (s t lb : ByteArray) (bd : Bool) (ad : Option Addr) (cn ca : Nat) (ht : Int) (ap at' : Option Addr) (np cp nt ct q : Nat) (K : Nat → Int) (Y : Nat → ByteArray) (w : World) (hq : q = arOf 6) (ho : OpsIn w (.slice ap np cp) (.slice at' nt ct) q K Y) (hY : ∀ i, i < q → (Y i).size ≤ 300000) (hs : s.size ≤ 30) (htz : t.size ≤ 30) :
    Calls Try.prog 47 #[.agg #[.int .i64 6, .string s, .string t, .bool bd, .string lb, .slice ad cn ca, .int .i64 ht], .slice ap np cp, .slice at' nt ct] w fun e w' => ∃ z, e = .returned (.string z) ∧ bl z = nodeT 6 s t (bl (Y 0)) (K 0) (bl (Y 1)) (K 1) ∧ Below w.heap.size w w' := by
  obtain ⟨W0, hW0⟩ : ∃ W0, W0 = ((w.alloc (.cells #[.int .i64 6, .string s, .string t, .bool bd, .string lb, .slice ad cn ca, .int .i64 ht] 73)).alloc (.cells #[.slice ap np cp] 65)).alloc (.cells #[.slice at' nt ct] 49) := ⟨_, rfl⟩
  have F : Hid (TxF W0 w 6 s t q at' nt ct K Y) := txF_of 6 s t lb bd ad cn ca ht ap at' np cp nt ct q K Y w W0 hW0 ho hY
  have HO : Hid (∀ (i : Nat) (st : Int) (r : Bool) (W : World), i < q → (∀ kk : Int, (iB kk < st) ↔ wrB 6 r (sB kk) = true) → Below W0.heap.size W0 W → Calls Try.prog 90 #[.int .i64 (i : Int), .int .i64 st, .pointer (some ⟨w.heap.size + 1, 0, none⟩), .pointer (some ⟨w.heap.size + 1 + 1, 0, none⟩)] W fun e w' => ∃ z, e = .returned (.string z) ∧ (bl z = wrT 6 r (K i) (bl (Y i)) ∧ z.size ≤ 300002) ∧ w' = W) := F.out.o
  clear ho hY
  have HO1 : Hid (∀ W : World, Below W0.heap.size W0 W → Calls Try.prog 90 #[.int .i64 0, .int .i64 1, .pointer (some ⟨w.heap.size + 1, 0, none⟩), .pointer (some ⟨w.heap.size + 1 + 1, 0, none⟩)] W fun e w' => ∃ z, e = .returned (.string z) ∧ (bl z = wrT 6 false (K 0) (bl (Y 0)) ∧ z.size ≤ 300002) ∧ w' = W) := fun W hW => HO.out 0 1 false W (by rw [hq]; decide) (fun kk => iB_wr 6 kk false 1 (.inr (.inl ⟨rfl, rfl, rfl⟩))) hW
  have HO2 : Hid (∀ W : World, Below W0.heap.size W0 W → Calls Try.prog 90 #[.int .i64 1, .int .i64 2, .pointer (some ⟨w.heap.size + 1, 0, none⟩), .pointer (some ⟨w.heap.size + 1 + 1, 0, none⟩)] W fun e w' => ∃ z, e = .returned (.string z) ∧ (bl z = wrT 6 true (K 1) (bl (Y 1)) ∧ z.size ≤ 300002) ∧ w' = W) := fun W hW => HO.out 1 2 true W (by rw [hq]; decide) (fun kk => iB_wr 6 kk true 2 (.inr (.inr (.inl ⟨rfl, rfl, rfl⟩)))) hW
  clear HO
  go_enter Try.func47, Try.ntmps47
  go_wp2_with fail
  rw [← hW0]
  clear hW0
  refine (HO1.out W0 (Below.refl _ _)).mono ?_
  rintro e w1 ⟨z1, rfl, hz1, hw1⟩
  subst hw1
  have HZ1 : Hid (bl z1 = wrT 6 false (K 0) (bl (Y 0))) := hz1.1
  have hs1 := hz1.2
  clear hz1
  go_wp2_with fail
  refine (HO2.out _ (Below.refl _ _)).mono ?_
  rintro e w2 ⟨z2, rfl, hz2, hw2⟩
  subst hw2
  have HZ2 : Hid (bl z2 = wrT 6 true (K 1) (bl (Y 1))) := hz2.1
  have hs2 := hz2.2
  clear hz2
  go_wp2
  go_ret
  refine ⟨_, rfl, ?_, F.out.b⟩
  rw [bl_app, bl_app, HZ1.out, HZ2.out]
  simp [nodeT, nodeP]
  rfl
set_option maxHeartbeats 2000000 in
theorem textP_7 (s t lb : ByteArray) (bd : Bool) (ad : Option Addr) (cn ca : Nat) (ht : Int) (ap at' : Option Addr) (np cp nt ct q : Nat) (K : Nat → Int) (Y : Nat → ByteArray) (w : World) (hq : q = arOf 7) (ho : OpsIn w (.slice ap np cp) (.slice at' nt ct) q K Y) (hY : ∀ i, i < q → (Y i).size ≤ 300000) (hs : s.size ≤ 30) (htz : t.size ≤ 30) :
    Calls Try.prog 47 #[.agg #[.int .i64 7, .string s, .string t, .bool bd, .string lb, .slice ad cn ca, .int .i64 ht], .slice ap np cp, .slice at' nt ct] w fun e w' => ∃ z, e = .returned (.string z) ∧ bl z = nodeT 7 s t (bl (Y 0)) (K 0) (bl (Y 1)) (K 1) ∧ Below w.heap.size w w' := by
  obtain ⟨W0, hW0⟩ : ∃ W0, W0 = ((w.alloc (.cells #[.int .i64 7, .string s, .string t, .bool bd, .string lb, .slice ad cn ca, .int .i64 ht] 73)).alloc (.cells #[.slice ap np cp] 65)).alloc (.cells #[.slice at' nt ct] 49) := ⟨_, rfl⟩
  have F : Hid (TxF W0 w 7 s t q at' nt ct K Y) := txF_of 7 s t lb bd ad cn ca ht ap at' np cp nt ct q K Y w W0 hW0 ho hY
  have HO : Hid (∀ (i : Nat) (st : Int) (r : Bool) (W : World), i < q → (∀ kk : Int, (iB kk < st) ↔ wrB 7 r (sB kk) = true) → Below W0.heap.size W0 W → Calls Try.prog 90 #[.int .i64 (i : Int), .int .i64 st, .pointer (some ⟨w.heap.size + 1, 0, none⟩), .pointer (some ⟨w.heap.size + 1 + 1, 0, none⟩)] W fun e w' => ∃ z, e = .returned (.string z) ∧ (bl z = wrT 7 r (K i) (bl (Y i)) ∧ z.size ≤ 300002) ∧ w' = W) := F.out.o
  clear ho hY
  have HO1 : Hid (∀ W : World, Below W0.heap.size W0 W → Calls Try.prog 90 #[.int .i64 0, .int .i64 0, .pointer (some ⟨w.heap.size + 1, 0, none⟩), .pointer (some ⟨w.heap.size + 1 + 1, 0, none⟩)] W fun e w' => ∃ z, e = .returned (.string z) ∧ (bl z = wrT 7 false (K 0) (bl (Y 0)) ∧ z.size ≤ 300002) ∧ w' = W) := fun W hW => HO.out 0 0 false W (by rw [hq]; decide) (fun kk => iB_wr 7 kk false 0 (.inr (.inr (.inr (.inl ⟨by omega, rfl, rfl⟩))))) hW
  have HO2 : Hid (∀ W : World, Below W0.heap.size W0 W → Calls Try.prog 90 #[.int .i64 1, .int .i64 1, .pointer (some ⟨w.heap.size + 1, 0, none⟩), .pointer (some ⟨w.heap.size + 1 + 1, 0, none⟩)] W fun e w' => ∃ z, e = .returned (.string z) ∧ (bl z = wrT 7 true (K 1) (bl (Y 1)) ∧ z.size ≤ 300002) ∧ w' = W) := fun W hW => HO.out 1 1 true W (by rw [hq]; decide) (fun kk => iB_wr 7 kk true 1 (.inr (.inr (.inr (.inr ⟨by omega, rfl, rfl⟩))))) hW
  clear HO
  go_enter Try.func47, Try.ntmps47
  go_wp2_with fail
  rw [← hW0]
  clear hW0
  refine (HO1.out W0 (Below.refl _ _)).mono ?_
  rintro e w1 ⟨z1, rfl, hz1, hw1⟩
  subst hw1
  have HZ1 : Hid (bl z1 = wrT 7 false (K 0) (bl (Y 0))) := hz1.1
  have hs1 := hz1.2
  clear hz1
  go_wp2_with fail
  refine (HO2.out _ (Below.refl _ _)).mono ?_
  rintro e w2 ⟨z2, rfl, hz2, hw2⟩
  subst hw2
  have HZ2 : Hid (bl z2 = wrT 7 true (K 1) (bl (Y 1))) := hz2.1
  have hs2 := hz2.2
  clear hz2
  go_wp2
  go_ret
  refine ⟨_, rfl, ?_, F.out.b⟩
  rw [bl_app, bl_app, HZ1.out, HZ2.out]
  simp [nodeT, nodeP]
  rfl
set_option maxHeartbeats 2000000 in
theorem textP_8 (s t lb : ByteArray) (bd : Bool) (ad : Option Addr) (cn ca : Nat) (ht : Int) (ap at' : Option Addr) (np cp nt ct q : Nat) (K : Nat → Int) (Y : Nat → ByteArray) (w : World) (hq : q = arOf 8) (ho : OpsIn w (.slice ap np cp) (.slice at' nt ct) q K Y) (hY : ∀ i, i < q → (Y i).size ≤ 300000) (hs : s.size ≤ 30) (htz : t.size ≤ 30) :
    Calls Try.prog 47 #[.agg #[.int .i64 8, .string s, .string t, .bool bd, .string lb, .slice ad cn ca, .int .i64 ht], .slice ap np cp, .slice at' nt ct] w fun e w' => ∃ z, e = .returned (.string z) ∧ bl z = nodeT 8 s t (bl (Y 0)) (K 0) (bl (Y 1)) (K 1) ∧ Below w.heap.size w w' := by
  obtain ⟨W0, hW0⟩ : ∃ W0, W0 = ((w.alloc (.cells #[.int .i64 8, .string s, .string t, .bool bd, .string lb, .slice ad cn ca, .int .i64 ht] 73)).alloc (.cells #[.slice ap np cp] 65)).alloc (.cells #[.slice at' nt ct] 49) := ⟨_, rfl⟩
  have F : Hid (TxF W0 w 8 s t q at' nt ct K Y) := txF_of 8 s t lb bd ad cn ca ht ap at' np cp nt ct q K Y w W0 hW0 ho hY
  have HO : Hid (∀ (i : Nat) (st : Int) (r : Bool) (W : World), i < q → (∀ kk : Int, (iB kk < st) ↔ wrB 8 r (sB kk) = true) → Below W0.heap.size W0 W → Calls Try.prog 90 #[.int .i64 (i : Int), .int .i64 st, .pointer (some ⟨w.heap.size + 1, 0, none⟩), .pointer (some ⟨w.heap.size + 1 + 1, 0, none⟩)] W fun e w' => ∃ z, e = .returned (.string z) ∧ (bl z = wrT 8 r (K i) (bl (Y i)) ∧ z.size ≤ 300002) ∧ w' = W) := F.out.o
  clear ho hY
  have HO1 : Hid (∀ W : World, Below W0.heap.size W0 W → Calls Try.prog 90 #[.int .i64 0, .int .i64 0, .pointer (some ⟨w.heap.size + 1, 0, none⟩), .pointer (some ⟨w.heap.size + 1 + 1, 0, none⟩)] W fun e w' => ∃ z, e = .returned (.string z) ∧ (bl z = wrT 8 false (K 0) (bl (Y 0)) ∧ z.size ≤ 300002) ∧ w' = W) := fun W hW => HO.out 0 0 false W (by rw [hq]; decide) (fun kk => iB_wr 8 kk false 0 (.inr (.inr (.inr (.inl ⟨by omega, rfl, rfl⟩))))) hW
  have HO2 : Hid (∀ W : World, Below W0.heap.size W0 W → Calls Try.prog 90 #[.int .i64 1, .int .i64 1, .pointer (some ⟨w.heap.size + 1, 0, none⟩), .pointer (some ⟨w.heap.size + 1 + 1, 0, none⟩)] W fun e w' => ∃ z, e = .returned (.string z) ∧ (bl z = wrT 8 true (K 1) (bl (Y 1)) ∧ z.size ≤ 300002) ∧ w' = W) := fun W hW => HO.out 1 1 true W (by rw [hq]; decide) (fun kk => iB_wr 8 kk true 1 (.inr (.inr (.inr (.inr ⟨by omega, rfl, rfl⟩))))) hW
  clear HO
  go_enter Try.func47, Try.ntmps47
  go_wp2_with fail
  rw [← hW0]
  clear hW0
  refine (HO1.out W0 (Below.refl _ _)).mono ?_
  rintro e w1 ⟨z1, rfl, hz1, hw1⟩
  subst hw1
  have HZ1 : Hid (bl z1 = wrT 8 false (K 0) (bl (Y 0))) := hz1.1
  have hs1 := hz1.2
  clear hz1
  go_wp2_with fail
  refine (HO2.out _ (Below.refl _ _)).mono ?_
  rintro e w2 ⟨z2, rfl, hz2, hw2⟩
  subst hw2
  have HZ2 : Hid (bl z2 = wrT 8 true (K 1) (bl (Y 1))) := hz2.1
  have hs2 := hz2.2
  clear hz2
  go_wp2
  go_ret
  refine ⟨_, rfl, ?_, F.out.b⟩
  rw [bl_app, bl_app, HZ1.out, HZ2.out]
  simp [nodeT, nodeP]
  rfl
end Go.Proofs.Ytocmbnocdjnfpaa

namespace Go.Proofs.Ytocmbnocdjnfpaa
open Go.RowKit Go.Deep
set_option linter.unusedVariables false
set_option maxRecDepth 100000

set_option maxHeartbeats 2000000 in
theorem textP_3 (s t lb : ByteArray) (bd : Bool) (ad : Option Addr) (cn ca : Nat) (ht : Int) (ap at' : Option Addr) (np cp nt ct q : Nat) (K : Nat → Int) (Y : Nat → ByteArray) (w : World) (hq : q = arOf 3) (ho : OpsIn w (.slice ap np cp) (.slice at' nt ct) q K Y) (hY : ∀ i, i < q → (Y i).size ≤ 300000) (hs : s.size ≤ 30) (htz : t.size ≤ 30) :
    Calls Try.prog 47 #[.agg #[.int .i64 3, .string s, .string t, .bool bd, .string lb, .slice ad cn ca, .int .i64 ht], .slice ap np cp, .slice at' nt ct] w fun e w' => ∃ z, e = .returned (.string z) ∧ bl z = nodeT 3 s t (bl (Y 0)) (K 0) (bl (Y 1)) (K 1) ∧ Below w.heap.size w w' := by
  have HQs : Hid (∀ W : World, Calls Try.prog 92 #[.string s] W fun e w' => e = .returned (.string (strT (qL (bl s)))) ∧ Below W.heap.size W w') := fun W => quoted_any s W (by omega)
  have HBl : Hid (bl (strT (qL (bl s))) = qL (bl s) ∧ (strT (qL (bl s))).size ≤ 122) := ⟨bl_strT (qL_byt s), by rw [← bl_length, bl_strT (qL_byt s)]; exact qL_length s hs⟩
  obtain ⟨zs, hzs⟩ : ∃ zs, zs = strT (qL (bl s)) := ⟨_, rfl⟩
  rw [← hzs] at HQs HBl
  have hzz : zs.size ≤ 122 := HBl.out.2
  clear hzs
  obtain ⟨W0, hW0⟩ : ∃ W0, W0 = ((w.alloc (.cells #[.int .i64 3, .string s, .string t, .bool bd, .string lb, .slice ad cn ca, .int .i64 ht] 73)).alloc (.cells #[.slice ap np cp] 65)).alloc (.cells #[.slice at' nt ct] 49) := ⟨_, rfl⟩
  have F : Hid (TxF W0 w 3 s t q at' nt ct K Y) := txF_of 3 s t lb bd ad cn ca ht ap at' np cp nt ct q K Y w W0 hW0 ho hY
  have HO : Hid (∀ (i : Nat) (st : Int) (r : Bool) (W : World), i < q → (∀ kk : Int, (iB kk < st) ↔ wrB 3 r (sB kk) = true) → Below W0.heap.size W0 W → Calls Try.prog 90 #[.int .i64 (i : Int), .int .i64 st, .pointer (some ⟨w.heap.size + 1, 0, none⟩), .pointer (some ⟨w.heap.size + 1 + 1, 0, none⟩)] W fun e w' => ∃ z, e = .returned (.string z) ∧ (bl z = wrT 3 r (K i) (bl (Y i)) ∧ z.size ≤ 300002) ∧ w' = W) := F.out.o
  clear ho hY
  have HO1 : Hid (∀ W : World, Below W0.heap.size W0 W → Calls Try.prog 90 #[.int .i64 0, .int .i64 2, .pointer (some ⟨w.heap.size + 1, 0, none⟩), .pointer (some ⟨w.heap.size + 1 + 1, 0, none⟩)] W fun e w' => ∃ z, e = .returned (.string z) ∧ (bl z = wrT 3 false (K 0) (bl (Y 0)) ∧ z.size ≤ 300002) ∧ w' = W) := fun W hW => HO.out 0 2 false W (by rw [hq]; decide) (fun kk => iB_wr 3 kk false 2 (.inl ⟨by omega, rfl, rfl⟩)) hW
  clear HO
  go_enter Try.func47, Try.ntmps47
  go_wp2
  rw [← hW0]
  clear hW0
  have K0 : Hid (Below W0.heap.size W0 W0.drew) := (Below.refl _ _).drew
  obtain ⟨x0, x1, x2⟩ := F.out.s1 W0 (Below.refl _ _)
  clear x0
  go_region_held3 (fun w' => w'.cell? ⟨w.heap.size, 1, none⟩ = some (.string s) ∧ w'.cell? ⟨w.heap.size, 2, none⟩ = some (.string t)) (first | exact (F.out.s1 _ K0.out).2 | exact (F.out.s1 _ HB1.out).2 | go_keep)
    (first
    | (go_at_call 90; (with_reducible refine (HO1.out _ K0.out).mono ?_); rintro e w1 ⟨z1, rfl, hz1, hw1⟩; subst hw1; have HZ1 : Hid (bl z1 = wrT 3 false (K 0) (bl (Y 0))) := hz1.1; have hs1 := hz1.2; clear hz1; have u0 : ¬ 9223372036854775807 < z1.size + 5 := (by omega); have u1 : ¬ 9223372036854775807 < z1.size + 5 + zs.size := (by omega); have u2 : ¬ 9223372036854775807 < z1.size + 5 + zs.size + 1 := (by omega))
    | (go_at_call 92; (with_reducible refine (HQs.out _).mono ?_); rintro e w2 ⟨rfl, hb2⟩; have HB1 : Hid (Below W0.heap.size W0 w2) := K0.out.trans (hb2.mono K0.out.size); clear hb2)
    | fail)
  go_wp2
  go_ret
  refine ⟨_, rfl, ?_, F.out.b.trans (HB1.out.mono (by have := F.out.z; omega))⟩
  rw [bl_app, bl_app, bl_app, HBl.out.1, HZ1.out]
  simp [nodeT, nodeP]
  rfl
set_option maxHeartbeats 2000000 in
theorem textP_4 (s t lb : ByteArray) (bd : Bool) (ad : Option Addr) (cn ca : Nat) (ht : Int) (ap at' : Option Addr) (np cp nt ct q : Nat) (K : Nat → Int) (Y : Nat → ByteArray) (w : World) (hq : q = arOf 4) (ho : OpsIn w (.slice ap np cp) (.slice at' nt ct) q K Y) (hY : ∀ i, i < q → (Y i).size ≤ 300000) (hs : s.size ≤ 30) (htz : t.size ≤ 30) :
    Calls Try.prog 47 #[.agg #[.int .i64 4, .string s, .string t, .bool bd, .string lb, .slice ad cn ca, .int .i64 ht], .slice ap np cp, .slice at' nt ct] w fun e w' => ∃ z, e = .returned (.string z) ∧ bl z = nodeT 4 s t (bl (Y 0)) (K 0) (bl (Y 1)) (K 1) ∧ Below w.heap.size w w' := by
  have HQs : Hid (∀ W : World, Calls Try.prog 92 #[.string s] W fun e w' => e = .returned (.string (strT (qL (bl s)))) ∧ Below W.heap.size W w') := fun W => quoted_any s W (by omega)
  have HBl : Hid (bl (strT (qL (bl s))) = qL (bl s) ∧ (strT (qL (bl s))).size ≤ 122) := ⟨bl_strT (qL_byt s), by rw [← bl_length, bl_strT (qL_byt s)]; exact qL_length s hs⟩
  obtain ⟨zs, hzs⟩ : ∃ zs, zs = strT (qL (bl s)) := ⟨_, rfl⟩
  rw [← hzs] at HQs HBl
  have hzz : zs.size ≤ 122 := HBl.out.2
  clear hzs
  obtain ⟨W0, hW0⟩ : ∃ W0, W0 = ((w.alloc (.cells #[.int .i64 4, .string s, .string t, .bool bd, .string lb, .slice ad cn ca, .int .i64 ht] 73)).alloc (.cells #[.slice ap np cp] 65)).alloc (.cells #[.slice at' nt ct] 49) := ⟨_, rfl⟩
  have F : Hid (TxF W0 w 4 s t q at' nt ct K Y) := txF_of 4 s t lb bd ad cn ca ht ap at' np cp nt ct q K Y w W0 hW0 ho hY
  have HO : Hid (∀ (i : Nat) (st : Int) (r : Bool) (W : World), i < q → (∀ kk : Int, (iB kk < st) ↔ wrB 4 r (sB kk) = true) → Below W0.heap.size W0 W → Calls Try.prog 90 #[.int .i64 (i : Int), .int .i64 st, .pointer (some ⟨w.heap.size + 1, 0, none⟩), .pointer (some ⟨w.heap.size + 1 + 1, 0, none⟩)] W fun e w' => ∃ z, e = .returned (.string z) ∧ (bl z = wrT 4 r (K i) (bl (Y i)) ∧ z.size ≤ 300002) ∧ w' = W) := F.out.o
  clear ho hY
  have HO1 : Hid (∀ W : World, Below W0.heap.size W0 W → Calls Try.prog 90 #[.int .i64 0, .int .i64 2, .pointer (some ⟨w.heap.size + 1, 0, none⟩), .pointer (some ⟨w.heap.size + 1 + 1, 0, none⟩)] W fun e w' => ∃ z, e = .returned (.string z) ∧ (bl z = wrT 4 false (K 0) (bl (Y 0)) ∧ z.size ≤ 300002) ∧ w' = W) := fun W hW => HO.out 0 2 false W (by rw [hq]; decide) (fun kk => iB_wr 4 kk false 2 (.inl ⟨by omega, rfl, rfl⟩)) hW
  clear HO
  go_enter Try.func47, Try.ntmps47
  go_wp2
  rw [← hW0]
  clear hW0
  have K0 : Hid (Below W0.heap.size W0 W0.drew) := (Below.refl _ _).drew
  obtain ⟨x0, x1, x2⟩ := F.out.s1 W0 (Below.refl _ _)
  clear x0
  go_region_held3 (fun w' => w'.cell? ⟨w.heap.size, 1, none⟩ = some (.string s) ∧ w'.cell? ⟨w.heap.size, 2, none⟩ = some (.string t)) (first | exact (F.out.s1 _ K0.out).2 | exact (F.out.s1 _ HB1.out).2 | go_keep)
    (first
    | (go_at_call 90; (with_reducible refine (HO1.out _ K0.out).mono ?_); rintro e w1 ⟨z1, rfl, hz1, hw1⟩; subst hw1; have HZ1 : Hid (bl z1 = wrT 4 false (K 0) (bl (Y 0))) := hz1.1; have hs1 := hz1.2; clear hz1; have u0 : ¬ 9223372036854775807 < z1.size + 4 := (by omega); have u1 : ¬ 9223372036854775807 < z1.size + 4 + zs.size := (by omega); have u2 : ¬ 9223372036854775807 < z1.size + 4 + zs.size + 1 := (by omega))
    | (go_at_call 92; (with_reducible refine (HQs.out _).mono ?_); rintro e w2 ⟨rfl, hb2⟩; have HB1 : Hid (Below W0.heap.size W0 w2) := K0.out.trans (hb2.mono K0.out.size); clear hb2)
    | fail)
  go_wp2
  go_ret
  refine ⟨_, rfl, ?_, F.out.b.trans (HB1.out.mono (by have := F.out.z; omega))⟩
  rw [bl_app, bl_app, bl_app, HBl.out.1, HZ1.out]
  simp [nodeT, nodeP]
  rfl
end Go.Proofs.Ytocmbnocdjnfpaa

namespace Go.Proofs.Ytocmbnocdjnfpaa
open Go.RowKit Go.Deep
set_option linter.unusedVariables false
set_option maxRecDepth 100000

set_option maxHeartbeats 2000000 in
theorem textP_5 (s t lb : ByteArray) (bd : Bool) (ad : Option Addr) (cn ca : Nat) (ht : Int) (ap at' : Option Addr) (np cp nt ct q : Nat) (K : Nat → Int) (Y : Nat → ByteArray) (w : World) (hq : q = arOf 5) (ho : OpsIn w (.slice ap np cp) (.slice at' nt ct) q K Y) (hY : ∀ i, i < q → (Y i).size ≤ 300000) (hs : s.size ≤ 30) (htz : t.size ≤ 30) :
    Calls Try.prog 47 #[.agg #[.int .i64 5, .string s, .string t, .bool bd, .string lb, .slice ad cn ca, .int .i64 ht], .slice ap np cp, .slice at' nt ct] w fun e w' => ∃ z, e = .returned (.string z) ∧ bl z = nodeT 5 s t (bl (Y 0)) (K 0) (bl (Y 1)) (K 1) ∧ Below w.heap.size w w' := by
  have HQs : Hid (∀ W : World, Calls Try.prog 92 #[.string s] W fun e w' => e = .returned (.string (strT (qL (bl s)))) ∧ Below W.heap.size W w') := fun W => quoted_any s W (by omega)
  have HBl : Hid (bl (strT (qL (bl s))) = qL (bl s) ∧ (strT (qL (bl s))).size ≤ 122) := ⟨bl_strT (qL_byt s), by rw [← bl_length, bl_strT (qL_byt s)]; exact qL_length s hs⟩
  obtain ⟨zs, hzs⟩ : ∃ zs, zs = strT (qL (bl s)) := ⟨_, rfl⟩
  rw [← hzs] at HQs HBl
  have hzz : zs.size ≤ 122 := HBl.out.2
  clear hzs
  obtain ⟨W0, hW0⟩ : ∃ W0, W0 = ((w.alloc (.cells #[.int .i64 5, .string s, .string t, .bool bd, .string lb, .slice ad cn ca, .int .i64 ht] 73)).alloc (.cells #[.slice ap np cp] 65)).alloc (.cells #[.slice at' nt ct] 49) := ⟨_, rfl⟩
  have F : Hid (TxF W0 w 5 s t q at' nt ct K Y) := txF_of 5 s t lb bd ad cn ca ht ap at' np cp nt ct q K Y w W0 hW0 ho hY
  have HO : Hid (∀ (i : Nat) (st : Int) (r : Bool) (W : World), i < q → (∀ kk : Int, (iB kk < st) ↔ wrB 5 r (sB kk) = true) → Below W0.heap.size W0 W → Calls Try.prog 90 #[.int .i64 (i : Int), .int .i64 st, .pointer (some ⟨w.heap.size + 1, 0, none⟩), .pointer (some ⟨w.heap.size + 1 + 1, 0, none⟩)] W fun e w' => ∃ z, e = .returned (.string z) ∧ (bl z = wrT 5 r (K i) (bl (Y i)) ∧ z.size ≤ 300002) ∧ w' = W) := F.out.o
  clear ho hY
  have HO1 : Hid (∀ W : World, Below W0.heap.size W0 W → Calls Try.prog 90 #[.int .i64 0, .int .i64 2, .pointer (some ⟨w.heap.size + 1, 0, none⟩), .pointer (some ⟨w.heap.size + 1 + 1, 0, none⟩)] W fun e w' => ∃ z, e = .returned (.string z) ∧ (bl z = wrT 5 false (K 0) (bl (Y 0)) ∧ z.size ≤ 300002) ∧ w' = W) := fun W hW => HO.out 0 2 false W (by rw [hq]; decide) (fun kk => iB_wr 5 kk false 2 (.inl ⟨by omega, rfl, rfl⟩)) hW
  have HQt : Hid (∀ W : World, Calls Try.prog 92 #[.string t] W fun e w' => e = .returned (.string (strT (qL (bl t)))) ∧ Below W.heap.size W w') := fun W => quoted_any t W (by omega)
  have HBt : Hid (bl (strT (qL (bl t))) = qL (bl t) ∧ (strT (qL (bl t))).size ≤ 122) := ⟨bl_strT (qL_byt t), by rw [← bl_length, bl_strT (qL_byt t)]; exact qL_length t htz⟩
  obtain ⟨zt, hzt⟩ : ∃ zt, zt = strT (qL (bl t)) := ⟨_, rfl⟩
  rw [← hzt] at HQt HBt
  have hzq : zt.size ≤ 122 := HBt.out.2
  clear hzt
  clear HO
  go_enter Try.func47, Try.ntmps47
  go_wp2
  rw [← hW0]
  clear hW0
  have K0 : Hid (Below W0.heap.size W0 W0.drew) := (Below.refl _ _).drew
  obtain ⟨x0, x1, x2⟩ := F.out.s1 W0 (Below.refl _ _)
  clear x0
  go_region_held3 (fun w' => w'.cell? ⟨w.heap.size, 1, none⟩ = some (.string s) ∧ w'.cell? ⟨w.heap.size, 2, none⟩ = some (.string t)) (first | exact (F.out.s1 _ HB2.out).2 | exact (F.out.s1 _ HB1.out).2 | exact (F.out.s1 _ K0.out).2 | go_keep)
    (first
    | (go_at_call 90; (with_reducible refine (HO1.out _ K0.out).mono ?_); rintro e w1 ⟨z1, rfl, hz1, hw1⟩; subst hw1; have HZ1 : Hid (bl z1 = wrT 5 false (K 0) (bl (Y 0))) := hz1.1; have hs1 := hz1.2; clear hz1; have u0 : ¬ 9223372036854775807 < z1.size + 5 := (by omega); have u1 : ¬ 9223372036854775807 < z1.size + 5 + zs.size := (by omega); have u2 : ¬ 9223372036854775807 < z1.size + 5 + zs.size + 2 := (by omega); have u3 : ¬ 9223372036854775807 < z1.size + 5 + zs.size + 2 + zt.size := (by omega); have u4 : ¬ 9223372036854775807 < z1.size + 5 + zs.size + 2 + zt.size + 1 := (by omega))
    | (go_at_call 92; (with_reducible refine (HQs.out _).mono ?_); rintro e w2 ⟨rfl, hb2⟩; have HB1 : Hid (Below W0.heap.size W0 w2) := K0.out.trans (hb2.mono K0.out.size); clear hb2)
    | (go_at_call 92; (with_reducible refine (HQt.out _).mono ?_); rintro e w3 ⟨rfl, hb3⟩; have HB2 : Hid (Below W0.heap.size W0 w3) := HB1.out.trans (hb3.mono HB1.out.size); clear hb3)
    | fail)
  go_wp2
  go_ret
  refine ⟨_, rfl, ?_, F.out.b.trans (HB2.out.mono (by have := F.out.z; omega))⟩
  rw [bl_app, bl_app, bl_app, bl_app, bl_app, HBl.out.1, HBt.out.1, HZ1.out]
  simp [nodeT, nodeP]
  rfl
end Go.Proofs.Ytocmbnocdjnfpaa
