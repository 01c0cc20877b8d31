import Derived.Test.YtakemeccigpbaaaMv3
import Derived.Test.YtakemeccigpbaaaTgX
import Derived.Test.YtakemeccigpbaaaTnT3
import Derived.Test.YtakemeccigpbaaaOpenTree
namespace Go.Proofs.Ytakemeccigpbaaa
open Go.RowKit Go.Deep
set_option linter.unusedVariables false
set_option maxRecDepth 100000

theorem InsOut_t {n : Nat} {N : Nat → Tn} {key : ByteArray} {m : Nat} {M : Nat → Tn} (h : InsTo n N key m M) : ∃ (D : Nat) (y : Ro D) (hh : Nat), m = nodesR D y ∧ m ≤ 5000 ∧ Tells M 0 D y 0 ∧ BalR D true y hh := by
  obtain ⟨t, rs, hv, _, _, hr, hm, h5, hT⟩ := h
  obtain ⟨_, _, _, ⟨hh, g4⟩, _, _⟩ := hv
  rcases InsR.bal g4 hr with ⟨y, rfl, hy⟩ | ⟨y, z, rfl, hy, hz⟩
  · exact ⟨21, y, hh, by rw [hm]; simp [insN], h5, hT, hy⟩
  · refine ⟨22, .inr [y, z], hh + 1, by rw [hm]; rfl, h5, hT, by simp, by simp, hh, rfl, fun t ht => ?_⟩
    simp at ht
    rcases ht with rfl | rfl
    · exact hy
    · exact hz


theorem ins_agree {n : Nat} {N : Nat → Tn} {key : ByteArray} {ok ok' : Bool} {m m' : Nat} {M M' : Nat → Tn} (h : (ok = true ∧ InsTo n N key m M) ∨ (ok = false ∧ m = n ∧ M = N ∧ InsNo n N key)) (h' : (ok' = true ∧ InsTo n N key m' M') ∨ (ok' = false ∧ m' = n ∧ M' = N ∧ InsNo n N key)) : ok = ok' ∧ m = m' ∧ ∀ i, i < m → SameN (M i) (M' i) := by
  rcases h with ⟨rfl, t, rs, hv, hk, hn, hr, hm, h5, hT⟩ | ⟨rfl, rfl, rfl, hno⟩
  · rcases h' with ⟨rfl, t', rs', hv', hk', hn', hr', hm', h5', hT'⟩ | ⟨rfl, rfl, rfl, hno'⟩
    · obtain rfl := hv.fn hv'
      obtain ⟨_, _, _, ⟨hh, g4⟩, g5, _⟩ := hv
      have e := InsR.fn g4 (asc_of_ascK g5) hr hr'
      subst e
      refine ⟨rfl, by omega, fun i hi => ?_⟩
      rcases InsR.bal g4 hr with ⟨y, rfl, hy⟩ | ⟨y, z, rfl, hy, hz⟩
      · exact Tells.same (show Tells M 0 21 y 0 from hT) hT' i (Nat.zero_le _) (by rw [hm] at hi; simp [insN] at hi; omega)
      · exact Tells.same (show Tells M 0 22 (.inr [y, z]) 0 from hT) hT' i (Nat.zero_le _) (by rw [hm] at hi; have : insN [y, z] = nodesR 22 (.inr [y, z]) := rfl; omega)
    · have := hno' t rs hv hk hn hr
      omega
  · rcases h' with ⟨rfl, t', rs', hv', hk', hn', hr', hm', h5', hT'⟩ | ⟨rfl, rfl, rfl, hno'⟩
    · have := hno t' rs' hv' hk' hn' hr'
      omega
    · exact ⟨rfl, rfl, fun i _ => SameN.refl _⟩

theorem tells_four {F : Nat → Tn} {base : Int} : ∀ {d : Nat} {root : Bool} {t : Ro d} {h x : Nat}, Tells F base d t x → BalR d root t h → ∀ i, x ≤ i → i < x + nodesR d t → (F i).kn ≤ 4 ∧ (F i).dn ≤ 4
  | 0, _, _, _, _, h, _, _, _, _ => h.elim
  | d + 1, root, .inl t, h, x, ht, hb, i, hi1, hi2 => by
    have hn : nodesR (d + 1) (.inl t) = 1 := rfl
    have e : i = x := by omega
    subst e
    obtain ⟨_, h2, _, h4, _⟩ := ht
    obtain ⟨_, h5, _⟩ := hb
    exact ⟨by omega, by omega⟩
  | d + 1, root, .inr l, h, x, ht, hb, i, hi1, hi2 => by
    have hn : nodesR (d + 1) (.inr l) = 1 + (l.map (nodesR d)).sum := rfl
    obtain ⟨h1, h2, h3, h4, h5, h6, h7⟩ := ht
    obtain ⟨g1, g2, h', _, hall⟩ := hb
    by_cases e : i = x
    · subst e
      exact ⟨by omega, by omega⟩
    · obtain ⟨k, hk, k1, k2⟩ := offR_find d l (i - (x + 1)) (by omega)
      exact tells_four (h7 k hk) (hall _ (List.getElem_mem hk)) i (by omega) (by omega)

theorem sum_four (M : Nat → Tn) : ∀ m, (∀ i, i < m → (M i).kn ≤ 4 ∧ (M i).dn ≤ 4) → sumT M m ≤ 8 * m
  | 0, _ => Nat.le_refl _
  | m + 1, h => by
    have q := sum_four M m (fun i hi => h i (by omega))
    have := h m (by omega)
    show sumT M m + (M m).kn + (M m).dn ≤ _
    omega

theorem ins_fit {n : Nat} {N : Nat → Tn} {key : ByteArray} {ok : Bool} {m : Nat} {M : Nat → Tn} (h : (ok = true ∧ InsTo n N key m M) ∨ (ok = false ∧ m = n ∧ M = N ∧ InsNo n N key)) (hN : ∀ i, i < n → TnFit (N i)) (hs : n + sumT N n ≤ 1048576) : (∀ i, i < m → TnFit (M i)) ∧ m + sumT M m ≤ 1048576 := by
  rcases h with ⟨_, h⟩ | ⟨_, rfl, rfl, _⟩
  · obtain ⟨D, y, hh, hm, h5, hT, hb⟩ := InsOut_t h
    have f := fun i (hi : i < m) => tells_four hT hb i (Nat.zero_le _) (by omega)
    have s := sum_four M m f
    exact ⟨fun i hi => ⟨by have := f i hi; omega, by have := f i hi; omega⟩, by omega⟩
  · exact ⟨hN, hs⟩

theorem GT.ownTn {w : World} {B g n c : Nat} {N : Nat → Tn} {KA DA : Nat → Option Addr} {KC DC : Nat → Nat} (h : GT w B (.slice (some ⟨g, 0, none⟩) n c) n N KA DA KC DC) : OwnTn w B g n N KA DA KC DC := by
  refine ⟨(own_lt h.row g rfl).1, ?_, h.keys, h.kids, h.apartK, h.apartD⟩
  rcases h.row.2 with ⟨q, _⟩ | ⟨g', cap, cur, q1, q2, q3, q4, q5, q6, q7⟩
  · cases q
  · injection q1 with q1 _ q8
    injection q1 with q1
    injection q1 with q1
    subst q1 q8
    refine ⟨cur, q3, by rw [q6]; exact Nat.mul_le_mul_right 4 q4, fun i hi => ?_⟩
    have q9 : (cur.toList.take (n * 4))[i]? = ((List.range (n * 4)).map (tnCell N KA DA KC DC))[i]? := by rw [q7]
    rw [List.getElem?_take, if_pos hi, Array.getElem?_toList, List.getElem?_map, List.getElem?_range hi] at q9
    exact q9
theorem GT.form {w : World} {B n c : Nat} {a : Option Addr} {N : Nat → Tn} {KA DA : Nat → Option Addr} {KC DC : Nat → Nat} (h : GT w B (.slice a n c) n N KA DA KC DC) (h0 : n ≠ 0) : ∃ g, a = some ⟨g, 0, none⟩ := by
  obtain ⟨a', c', e, hf⟩ := own_form h.row
  injection e with e
  obtain ⟨g, q, _⟩ := hf h0
  exact ⟨g, by rw [e, q]⟩
theorem GT.rd {w : World} {B n c : Nat} {a : Option Addr} {N : Nat → Tn} {KA DA : Nat → Option Addr} {KC DC : Nat → Nat} (h : GT w B (.slice a n c) n N KA DA KC DC) : RdTn w a n N := by
  by_cases h0 : n = 0
  · exact .inl h0
  · obtain ⟨g, rfl⟩ := h.form h0
    exact h.ownTn.rd

theorem RdTn.same {w : World} {a : Option Addr} {n : Nat} {M M' : Nat → Tn} (h : RdTn w a n M) (hs : ∀ i, i < n → SameN (M i) (M' i)) : RdTn w a n M' := by
  rcases h with h | ⟨b, o, rfl, hc⟩
  · exact .inl h
  · refine .inr ⟨b, o, rfl, fun i hi => ?_⟩
    obtain ⟨ka, kc, da, dc, h0, h1, h2, h3, h4, h5⟩ := hc i hi
    obtain ⟨e1, e2, e3, e4, e5, e6⟩ := hs i hi
    refine ⟨ka, kc, da, dc, by rw [← e1]; exact h0, by rw [← e3]; exact h1, by rw [← e4]; exact h2, by rw [← e2]; exact h3, ?_, ?_⟩
    · rw [← e3]; exact h4.congr e5
    · rw [← e4]; exact h5.congr e6

set_option maxHeartbeats 1000000 in
theorem markNs_zero (a : Option Addr) (c k : Nat) (w : World) : Calls Try.prog 44 #[.slice a 0 c, .int .i64 (k : Int)] w fun e w' => e = .returned (.int .i64 (k : Int)) ∧ Below w.heap.size w w' := by
  go_enter Try.func44, Try.ntmps44
  go_wp2
  go_loopw [1, 5] (fun q i wr => i = .int .i64 0 ∧ q = .int .i64 (k : Int) ∧ Below w.heap.size w wr) (fun _ i _ => 1 - (intOf i).toNat)
  case atStart => exact ⟨rfl, rfl, Below.refl _ _⟩
  case round =>
    obtain ⟨rfl, rfl, hb⟩ := hrel
    go_wp2
    go_ret
    exact ⟨rfl, hb⟩
set_option maxHeartbeats 1000000 in
theorem markRes_zero (ok : Bool) (a : Option Addr) (c : Nat) (w : World) : Calls Try.prog 31 #[.agg #[.bool ok, .slice a 0 c], .int .i64 1] w fun e w' => e = .returned (.int .i64 1) ∧ Below w.heap.size w w' := by
  have HM : Hid (∀ W : World, Calls Try.prog 26 #[.agg #[.slice a 0 c], .int .i64 1] W fun e w' => e = .returned (.int .i64 1) ∧ Below W.heap.size W w') := by
    intro w
    have HN : Hid (∀ W : World, Calls Try.prog 44 #[.slice a 0 c, .int .i64 1] W fun e w' => e = .returned (.int .i64 1) ∧ Below W.heap.size W w') := fun W => markNs_zero a c 1 W
    go_enter Try.func26, Try.ntmps26
    go_wp2_with fail
    (with_reducible refine (HN.out _).mono ?_)
    rintro e w1 ⟨rfl, hb1⟩
    have H1 : Hid (Below w.heap.size w w1) := (below_alloc _ _).trans (hb1.mono (by simp))
    clear hb1
    go_wp2
    go_ret
    exact ⟨rfl, H1.out⟩
  go_enter Try.func31, Try.ntmps31
  go_wp2_with fail
  (with_reducible refine (HM.out _).mono ?_)
  rintro e w1 ⟨rfl, hb1⟩
  have H1 : Hid (Below w.heap.size w w1) := (below_alloc _ _).trans (hb1.mono (by simp))
  clear hb1
  go_wp2
  go_ret
  exact ⟨rfl, H1.out⟩
end Go.Proofs.Ytakemeccigpbaaa

namespace Go.Proofs.Ytakemeccigpbaaa
open Go.RowKit Go.Deep
set_option linter.unusedVariables false
set_option maxRecDepth 100000

/-- What the law holds on to once the answer stands. -/
structure InLs (w W3 W : World) (v : Value) (b7 b8 B5 n m : Nat) (g4 : Nat) (ok : Bool) (a5 : Option Addr) (c5 : Nat) (M : Nat → Tn) (KA5 DA5 : Nat → Option Addr) (KC5 DC5 : Nat → Nat) : Prop where
  arg : Below (w.heap.size + 1) (w.alloc (.cells #[v] 41)) W
  sp : Below W3.heap.size W3 W
  bx7 : Bx W b7 25 #[.slice (some ⟨g4, 0, none⟩) n n]
  bx8 : Bx W b8 30 #[.bool ok, .slice a5 m c5]
  gt5 : GT W B5 (.slice a5 m c5) m M KA5 DA5 KC5 DC5

section
variable {w W3 W W' : World} {v : Value} {b7 b8 B5 n m : Nat} {g4 : Nat} {ok : Bool} {a5 : Option Addr} {c5 : Nat} {M : Nat → Tn} {KA5 DA5 : Nat → Option Addr} {KC5 DC5 : Nat → Nat}
theorem InLs.below (h : InLs w W3 W v b7 b8 B5 n m g4 ok a5 c5 M KA5 DA5 KC5 DC5) (hw : w.heap.size + 1 ≤ W3.heap.size) (hb : Below W.heap.size W W') : InLs w W3 W' v b7 b8 B5 n m g4 ok a5 c5 M KA5 DA5 KC5 DC5 := by
  have := h.sp.size
  exact ⟨h.arg.trans (hb.mono (by omega)), h.sp.trans (hb.mono (by omega)), h.bx7.below hb, h.bx8.below hb, h.gt5.below hb⟩
theorem InLs.marked (h : InLs w W3 W v b7 b8 B5 n m g4 ok a5 c5 M KA5 DA5 KC5 DC5) (hw : w.heap.size + 1 ≤ W3.heap.size) (h7 : b7 < b8) (h5 : b7 < B5) (hwi : WiT W3.heap.size b7 W W') : InLs w W3 W' v b7 b8 B5 n m g4 ok a5 c5 M KA5 DA5 KC5 DC5 := by
  have hs := h.sp.size
  have hb := hwi.below (show W3.heap.size ≤ W.heap.size by omega)
  exact ⟨h.arg.trans (hb.mono hw), h.sp.trans hb, h.bx7.of_block (hwi.2.2.2.2 b7 h.bx7.lt (.inr (Nat.le_refl _))), h.bx8.of_block (hwi.2.2.2.2 b8 h.bx8.lt (.inr (by omega))), h.gt5.keep (fun x hx => hwi.2.2.2.2 x (h.gt5.used hx).2 (.inr (by have := (h.gt5.used hx).1; omega)))⟩
end

set_option maxHeartbeats 8000000 in
theorem inLaw0 (key : ByteArray) (hkey : key.size ≤ maxLen) (a : Option Addr) (n c : Nat) (N : Nat → Tn) (w : World) (ha : RdTn w a n N) (hX : ∀ i, i < n → TnBig (N i)) (hn : n ≤ maxLen) :
    Calls Try.prog 7 #[.agg #[.slice a n c], .string key] w fun e w' => e = .returned (.bool true) ∧ Below w.heap.size w w' := by
  have HA : Hid (RdTn w a n N) := ha
  have HXs : Hid (∀ i, i < n → TnBig (N i)) := hX
  clear ha hX
  have HKey : Hid (key.size ≤ maxLen) := hkey
  unfold maxLen at hkey
  by_cases hkb : 1048576 < key.size
  · have ik : (1048576 : Int) < (key.size : Int) := by omega
    have ik' : decide ((1048576 : Int) < (key.size : Int)) = true := decide_eq_true ik
    have nk' : decide (1048576 < key.size) = true := decide_eq_true hkb
    go_enter Try.func7, Try.ntmps7
    go_wp2
    go_ret
    exact ⟨rfl, below_alloc _ _⟩
  have ik : ¬ (1048576 : Int) < (key.size : Int) := by omega
  have ik' : decide ((1048576 : Int) < (key.size : Int)) = false := decide_eq_false ik
  have nk' : decide (1048576 < key.size) = false := decide_eq_false hkb
  go_enter Try.func7, Try.ntmps7
  go_wp2_with fail
  refine (szTree_sum a n c N _ (HA.out.below (below_alloc _ _)) hn HXs.out).mono ?_
  rintro e w1 ⟨r, rfl, hr, hb1⟩
  rw [show ∀ O, (w.alloc O).heap.size = w.heap.size + 1 from fun O => by simp] at hb1
  have K1 : Hid (Below (w.heap.size + 1) (w.alloc (.cells #[.slice a n c] 41)) w1) := hb1
  have HJ : Hid (∀ {W : World}, Below (w.heap.size + 1) (w.alloc (.cells #[.slice a n c] 41)) W → Below w.heap.size w W) := fun h => (below_alloc _ _).trans (h.mono (by omega))
  obtain ⟨x0, xz1⟩ := pbox hb1
  clear hb1
  rcases hr with rfl | ⟨hr0, hsum⟩
  · clear x0
    go_wp2
    go_ret
    exact ⟨rfl, HJ.out K1.out⟩
  have hr1 : ¬ r < 0 := by omega
  have hn1 : n ≤ 1048576 := by omega
  have HF : Hid (∀ i, i < n → TnFit (N i)) := fun i hi => by
    have := sumT_get N n i hi
    exact ⟨by omega, by omega⟩
  have HSum : Hid (n + sumT N n ≤ 1048576) := hsum
  clear hn hsum
  go_wp2_with fail
  refine (toTreeC_any a n c N w1 (HA.out.below (HJ.out K1.out)) hn1 HF.out).mono ?_
  rintro e w2 ⟨g2, KA2, DA2, KC2, DC2, rfl, hg2, hr2, hb2, hcp2⟩
  have K2 : Hid (Below (w.heap.size + 1) (w.alloc (.cells #[.slice a n c] 41)) w2) := K1.out.trans (hb2.mono (by omega))
  have HSp : Hid (Calls Try.prog 29 #[.agg #[.slice (some ⟨g2, 0, none⟩) n n], .string key] w2 (RetTr w2 n N key)) := specIns (some ⟨g2, 0, none⟩) n n N key w2 (hr2.rdC capC (fun i hi => by rw [hcp2 i hi]; have := (HF.out i hi).1; exact ⟨Nat.le_refl _, by omega⟩)) hn1 HF.out HKey.out
  clear x0 hr2 hb2 hcp2
  go_wp2_with fail
  (with_reducible refine HSp.out.mono ?_)
  rintro e w3 ⟨hb3, ok3, a3, m3, c3, M3, rfl, hrd3, hd3⟩
  have K3 : Hid (Below (w.heap.size + 1) (w.alloc (.cells #[.slice a n c] 41)) (w3.alloc (.cells #[.bool ok3, .slice a3 m3 c3] 30))) := (K2.out.trans (hb3.mono (by have := K2.out.size; simp at this; omega))).alloc (by have := K2.out.size; have := hb3.size; simp at this ⊢; simp at *; omega) _
  have S3 : Hid (RdTn (w3.alloc (.cells #[.bool ok3, .slice a3 m3 c3] 30)) a3 m3 M3 ∧ ((ok3 = true ∧ InsTo n N key m3 M3) ∨ (ok3 = false ∧ m3 = n ∧ M3 = N ∧ InsNo n N key))) := ⟨hrd3.below (below_alloc _ _), hd3⟩
  obtain ⟨b6, hb6⟩ : ∃ b6, b6 = w3.heap.size := ⟨_, rfl⟩
  have X3 : Hid (Bx (w3.alloc (.cells #[.bool ok3, .slice a3 m3 c3] 30)) b6 30 #[.bool ok3, .slice a3 m3 c3]) := by rw [hb6]; exact Bx.new _ _ _
  clear hb3 hrd3 hd3 HSp
  go_upto_region 8 with fail
  rw [← hb6]
  generalize w3.alloc (.cells #[.bool ok3, .slice a3 m3 c3] 30) = W3 at K3 S3 X3 ⊢
  clear hb6
  have HwW : Hid (w.heap.size + 1 ≤ W3.heap.size) := by have := K3.out.size; show _ ≤ _; simpa using this
  obtain ⟨x0, xz3⟩ := pbox K3.out
  go_wp2_with fail
  refine (toTree_any a n c N W3 (HA.out.below (HJ.out K3.out)) hn1 HF.out).mono ?_
  rintro e w4 ⟨g4, KA4, DA4, KC4, DC4, rfl, hg4, hr4, hb4⟩
  obtain ⟨b7, hb7⟩ : ∃ b7, b7 = w4.heap.size := ⟨_, rfl⟩
  have O4 : Hid (OwnTn w4 W3.heap.size g4 n N KA4 DA4 KC4 DC4 ∧ Below W3.heap.size W3 w4) := ⟨hr4, hb4⟩
  have X4 : Hid (Bx (w4.alloc (.cells #[.slice (some ⟨g4, 0, none⟩) n n] 25)) b7 25 #[.slice (some ⟨g4, 0, none⟩) n n] ∧ Below W3.heap.size W3 (w4.alloc (.cells #[.slice (some ⟨g4, 0, none⟩) n n] 25)) ∧ OwnTn (w4.alloc (.cells #[.slice (some ⟨g4, 0, none⟩) n n] 25)) W3.heap.size g4 n N KA4 DA4 KC4 DC4 ∧ TnB b7 g4 n N KA4 DA4 W3.heap.size ∧ (w4.alloc (.cells #[.slice (some ⟨g4, 0, none⟩) n n] 25)).heap.size = b7 + 1 ∧ W3.heap.size ≤ b7) := by
    rw [hb7]
    exact ⟨Bx.new _ _ _, hb4.alloc hb4.size _, hr4.under (below_alloc _ _), hr4.bound, by simp, hb4.size⟩
  clear x0 hr4 hb4 O4
  go_upto_region 9 with fail
  rw [← hb7]
  generalize w4.alloc (.cells #[.slice (some ⟨g4, 0, none⟩) n n] 25) = W4 at X4 ⊢
  clear hb7
  have HIm : Hid (Calls Try.prog 13 #[.agg #[.slice (some ⟨g4, 0, none⟩) n n], .string key] W4 (RetTi W4 n N key)) := implIns (some ⟨g4, 0, none⟩) n n N key W4 X4.out.2.2.1.rd hn1 HF.out HKey.out
  have y0 := X4.out.1.cell 0
  simp at y0
  have yz := X4.out.1.lt
  go_wp2_with fail
  (with_reducible refine HIm.out.mono ?_)
  rintro e w5 ⟨hb5, ok5, a5, m5, c5, M5, KA5, DA5, KC5, DC5, rfl, hgt5, hd5⟩
  obtain ⟨eok, em, hsame⟩ := ins_agree hd5 S3.out.2
  subst eok
  subst em
  obtain ⟨hfit5, hsum5⟩ := ins_fit hd5 HF.out HSum.out
  have HM : Hid ((∀ i, i < m5 → TnFit (M5 i)) ∧ m5 + sumT M5 m5 ≤ 1048576) := ⟨hfit5, hsum5⟩
  have hm20 : m5 ≤ 1048576 := by omega
  have R3 : Hid (∀ W, Below W3.heap.size W3 W → RdTn W a3 m5 M5) := fun W hW => ((S3.out.1).below hW).same (fun i hi => by obtain ⟨e1, e2, e3, e4, e5, e6⟩ := hsame i hi; exact ⟨e1.symm, e2.symm, e3.symm, e4.symm, fun j hj => (e5 j (by omega)).symm, fun j hj => (e6 j (by omega)).symm⟩)
  have HD5 : Hid ((ok5 = true ∧ InsTo n N key m5 M5) ∨ (ok5 = false ∧ m5 = n ∧ M5 = N ∧ InsNo n N key)) := hd5
  obtain ⟨b8, hb8⟩ : ∃ b8, b8 = w5.heap.size := ⟨_, rfl⟩
  have L5 : Hid (InLs w W3 (w5.alloc (.cells #[.bool ok5, .slice a5 m5 c5] 30)) (.slice a n c) b7 b8 (b7 + 1) n m5 g4 ok5 a5 c5 M5 KA5 DA5 KC5 DC5 ∧ b7 < b8 ∧ OwnTn (w5.alloc (.cells #[.bool ok5, .slice a5 m5 c5] 30)) W3.heap.size g4 n N KA4 DA4 KC4 DC4 ∧ (∀ x, UsedT (.slice a5 m5 c5) m5 M5 KA5 DA5 x → x < b8)) := by
    have h45 := hb5.size
    have hq := X4.out.2.2.2.2
    have sp5 : Below W3.heap.size W3 w5 := X4.out.2.1.trans (hb5.mono (by omega))
    have bl := hb5.alloc h45 (.cells #[.bool ok5, .slice a5 m5 c5] 30)
    rw [hb8]
    refine ⟨⟨K3.out.trans ((sp5.alloc sp5.size _).mono HwW.out), sp5.alloc sp5.size _, X4.out.1.below bl, Bx.new _ _ _, ?_⟩, by omega, X4.out.2.2.1.under bl, fun x hx => (hgt5.used hx).2⟩
    have q := hgt5.below (below_alloc w5 (.cells #[.bool ok5, .slice a5 m5 c5] 30))
    rw [hq.1] at q
    exact q
  clear hb5 hgt5 hd5 hsame hfit5 hsum5 HIm y0 yz
  go_upto_region 10 with fail
  rw [← hb8]
  generalize w5.alloc (.cells #[.bool ok5, .slice a5 m5 c5] 30) = W5 at L5 ⊢
  clear hb8
  have z0 := L5.out.1.bx8.cell 0
  have z1 := L5.out.1.bx8.cell 1
  have s0 := (X3.out.below L5.out.1.sp).cell 0
  have s1 := (X3.out.below L5.out.1.sp).cell 1
  simp at z0 z1 s0 s1
  have HEq : Hid (∀ W, Below W3.heap.size W3 W → RdTn W a5 m5 M5 → Calls Try.prog 30 #[.agg #[.bool ok5, .slice a5 m5 c5], .agg #[.bool ok5, .slice a3 m5 c3]] W fun e w' => e = .returned (.bool true) ∧ Below W.heap.size W w') := fun W hW hr => eqTreeRes_yes ok5 a5 a3 m5 c5 c3 M5 W hr (R3.out W hW) hm20 HM.out.1
  go_wp2_with fail
  (with_reducible refine (HEq.out W5 L5.out.1.sp L5.out.1.gt5.rd).mono ?_)
  rintro e w6 ⟨rfl, hb6⟩
  have L6 : Hid (InLs w W3 w6 (.slice a n c) b7 b8 (b7 + 1) n m5 g4 ok5 a5 c5 M5 KA5 DA5 KC5 DC5 ∧ OwnTn w6 W3.heap.size g4 n N KA4 DA4 KC4 DC4) := ⟨L5.out.1.below HwW.out hb6, L5.out.2.2.1.under hb6⟩
  have C5 : Hid (b7 < b8 ∧ (∀ x, UsedT (.slice a5 m5 c5) m5 M5 KA5 DA5 x → x < b8)) := ⟨L5.out.2.1, L5.out.2.2.2⟩
  clear hb6 z0 z1 s0 s1 L5
  have R6 : Hid (RdTn w6.drew a n N) := (HA.out.below (HJ.out L6.out.1.arg)).below (Below.refl _ _).drew
  obtain ⟨x0, xz6⟩ := pbox L6.out.1.arg
  have y0 := L6.out.1.bx7.cell 0
  simp at y0
  go_wp2
  go_region_with (first
    | (go_at_call 21; refine (toTree_any a n c N _ (by exact R6.out) hn1 HF.out).mono ?_; rintro e w6a ⟨g6, KA6, DA6, KC6, DC6, rfl, hg6, hr6, hb6⟩; have z6 := (L6.out.1.bx7.below (below_undrew hb6)).cell 0; simp at z6; have z7 := (pbox (L6.out.1.arg.trans ((below_undrew hb6).mono (by have := L6.out.1.arg.size; simpa using this)))).1)
    | (go_at_call 22; refine (eqTree_yes (some ⟨g4, 0, none⟩) (some ⟨g6, 0, none⟩) n n n N _ ((L6.out.2.under (below_undrew hb6)).rd) hr6.rd hn1 HF.out).mono ?_; rintro e w7 ⟨rfl, hb7⟩))
  all_goals
    have L7 : Hid (InLs w W3 w7 (.slice a n c) b7 b8 (b7 + 1) n m5 g4 ok5 a5 c5 M5 KA5 DA5 KC5 DC5 ∧ MTn w7 W3.heap.size g4 n N KA4 DA4 KC4 DC4) := by
      have q1 := below_undrew hb6
      have q2 : Below w6.heap.size w6 w7 := q1.trans (hb7.mono q1.size)
      exact ⟨L6.out.1.below HwW.out q2, ⟨N, L6.out.2.under q2, fun i => ⟨rfl, rfl⟩⟩⟩
    clear hb6 hb7 z6 z7 x0 y0 xz6 L6 R6 hr6
    have y0 := L7.out.1.bx7.cell 0
    simp at y0
    go_wp2_with fail
    refine (markTree_any W3.heap.size b7 g4 n n N KA4 DA4 KC4 DC4 w7 L7.out.2 X4.out.2.2.2.1 HSum.out).mono ?_
    rintro e w8 ⟨k8, rfl, hw8⟩
    have L8 : Hid (InLs w W3 w8 (.slice a n c) b7 b8 (b7 + 1) n m5 g4 ok5 a5 c5 M5 KA5 DA5 KC5 DC5) := L7.out.1.marked HwW.out C5.out.1 (Nat.lt_succ_self _) hw8
    have hk8 : ¬ (k8 : Int) < 0 := by omega
    have hk8' : decide ((k8 : Int) < 0) = false := decide_eq_false hk8
    clear hw8 y0 L7
    have z0 := L8.out.bx8.cell 0
    have z1 := L8.out.bx8.cell 1
    have s0 := (X3.out.below L8.out.sp).cell 0
    have s1 := (X3.out.below L8.out.sp).cell 1
    simp at z0 z1 s0 s1
    go_wp2_with fail
    (with_reducible refine (HEq.out w8 L8.out.sp L8.out.gt5.rd).mono ?_)
    rintro e w9 ⟨rfl, hb9⟩
    have L9 : Hid (InLs w W3 w9 (.slice a n c) b7 b8 (b7 + 1) n m5 g4 ok5 a5 c5 M5 KA5 DA5 KC5 DC5) := L8.out.below HwW.out hb9
    clear hb9 z0 z1 s0 s1 L8
    have z0 := L9.out.bx8.cell 0
    have z1 := L9.out.bx8.cell 1
    simp at z0 z1
    obtain ⟨KO, hKO⟩ : ∃ KO : Nat, KO = koT 1 M5 m5 := ⟨_, rfl⟩
    have HKO : Hid (KO = koT 1 M5 m5) := hKO
    have HMk : Hid (Calls Try.prog 31 #[.agg #[.bool ok5, .slice a5 m5 c5], .int .i64 1] w9 fun e w' => e = .returned (.int .i64 (KO : Int)) ∧ (Below (w.heap.size + 1) (w.alloc (.cells #[.slice a n c] 41)) w' ∧ Below W3.heap.size W3 w') ∧ Bx w' b8 30 #[.bool ok5, .slice a5 m5 c5] ∧ RdTn w' a5 m5 (mkN 1 M5)) := by
      by_cases h0 : m5 = 0
      · subst h0
        refine (markRes_zero ok5 a5 c5 w9).mono ?_
        rintro e w' ⟨rfl, hb⟩
        have q := L9.out.below HwW.out hb
        exact ⟨by rw [hKO]; rfl, ⟨q.arg, q.sp⟩, q.bx8, .inl rfl⟩
      · obtain ⟨g5, rfl⟩ := L9.out.gt5.form h0
        have o5 := L9.out.gt5.ownTn
        have tb : TnB b8 g5 m5 M5 KA5 DA5 (b7 + 1) := by
          refine ⟨o5.le, C5.out.2 g5 (.inl rfl), fun i hi h1 x hx => ?_, fun i hi h1 x hx => ?_⟩
          · obtain ⟨gi, e, hgi, _⟩ := (o5.keys i hi).resolve_left h1
            rw [e] at hx
            injection hx with hx
            have hx' : gi = x := hx
            subst hx'
            exact ⟨hgi, C5.out.2 gi (.inr (.inl ⟨i, hi, h1, e⟩))⟩
          · obtain ⟨gi, e, hgi, _⟩ := (o5.kids i hi).resolve_left h1
            rw [e] at hx
            injection hx with hx
            have hx' : gi = x := hx
            subst hx'
            exact ⟨hgi, C5.out.2 gi (.inr (.inr ⟨i, hi, h1, e⟩))⟩
        refine (markTreeRes_eq ok5 (b7 + 1) b8 g5 m5 c5 M5 KA5 DA5 KC5 DC5 w9 o5 tb HM.out.2).mono ?_
        rintro e w' ⟨rfl, hw, ho⟩
        have q7 := X4.out.2.2.2.2
        have hs9 := L9.out.sp.size
        have hbb := hw.below (show b7 + 1 ≤ w9.heap.size by have := L9.out.bx7.lt; omega)
        exact ⟨by rw [hKO], ⟨L9.out.arg.trans (hbb.mono (by have := HwW.out; omega)), L9.out.sp.trans (hbb.mono (by omega))⟩, L9.out.bx8.of_block (hw.2.2.2.2 b8 L9.out.bx8.lt (.inr (Nat.le_refl _))), ho.rd⟩
    clear hKO
    go_wp2_with fail
    (with_reducible refine HMk.out.mono ?_)
    rintro e w10 ⟨rfl, hk10, hx10, hr10⟩
    have K10 : Hid ((Below (w.heap.size + 1) (w.alloc (.cells #[.slice a n c] 41)) w10 ∧ Below W3.heap.size W3 w10) ∧ Bx w10 b8 30 #[.bool ok5, .slice a5 m5 c5]) := ⟨hk10, hx10⟩
    have HHe : Hid (Calls Try.prog 32 #[.agg #[.bool ok5, .slice a5 m5 c5], .int .i64 1] w10 fun e w' => e = .returned (.int .i64 (KO : Int)) ∧ Below w10.heap.size w10 w') := by
      rw [HKO.out]
      exact heldTreeRes_any ok5 a5 m5 c5 M5 w10 hr10 HM.out.2
    clear hk10 hx10 hr10 HMk z0 z1 L9
    have z0 := K10.out.2.cell 0
    have z1 := K10.out.2.cell 1
    simp at z0 z1
    go_wp2_with fail
    (with_reducible refine HHe.out.mono ?_)
    rintro e w11 ⟨rfl, hb11⟩
    have K11 : Hid (Below (w.heap.size + 1) (w.alloc (.cells #[.slice a n c] 41)) w11 ∧ Below W3.heap.size W3 w11) := ⟨K10.out.1.1.trans (hb11.mono (by have := K10.out.1.1.size; simpa using this)), K10.out.1.2.trans (hb11.mono K10.out.1.2.size)⟩
    clear hb11 K10 HHe z0 z1
    obtain ⟨x0, xz11⟩ := pbox K11.out.1
    have hM0 : ¬ (KO : Int) < 0 := by omega
    have hM1 : ((KO : Int) != (KO : Int)) = false := by simp
    go_wp2_with fail
    refine (toTree_any a n c N w11 (HA.out.below (HJ.out K11.out.1)) hn1 HF.out).mono ?_
    rintro e w12 ⟨g12, KA12, DA12, KC12, DC12, rfl, hg12, hr12, hb12⟩
    have K12 : Hid (Below w.heap.size w w12 ∧ Below W3.heap.size W3 w12) := ⟨(HJ.out K11.out.1).trans (hb12.mono (HJ.out K11.out.1).size), K11.out.2.trans (hb12.mono K11.out.2.size)⟩
    have HIm2 : Hid (Calls Try.prog 13 #[.agg #[.slice (some ⟨g12, 0, none⟩) n n], .string key] w12 (RetTi w12 n N key)) := implIns (some ⟨g12, 0, none⟩) n n N key w12 hr12.rd hn1 HF.out HKey.out
    clear x0 hr12 hb12 K11
    go_wp2_with fail
    (with_reducible refine HIm2.out.mono ?_)
    rintro e w13 ⟨hb13, ok13, a13, m13, c13, M13, KA13, DA13, KC13, DC13, rfl, hgt13, hd13⟩
    obtain ⟨eok, em, hsame⟩ := ins_agree hd13 HD5.out
    subst eok
    subst em
    obtain ⟨b12, hb12⟩ : ∃ b12, b12 = w13.heap.size := ⟨_, rfl⟩
    have K13 : Hid (Below w.heap.size w (w13.alloc (.cells #[.bool ok13, .slice a13 m13 c13] 30)) ∧ Below W3.heap.size W3 (w13.alloc (.cells #[.bool ok13, .slice a13 m13 c13] 30)) ∧ RdTn (w13.alloc (.cells #[.bool ok13, .slice a13 m13 c13] 30)) a13 m13 M5 ∧ Bx (w13.alloc (.cells #[.bool ok13, .slice a13 m13 c13] 30)) b12 30 #[.bool ok13, .slice a13 m13 c13]) := by
      have q1 := K12.out.1.trans (hb13.mono K12.out.1.size)
      have q2 := K12.out.2.trans (hb13.mono K12.out.2.size)
      rw [hb12]
      exact ⟨q1.alloc q1.size _, q2.alloc q2.size _, (hgt13.rd.same hsame).below (below_alloc _ _), Bx.new _ _ _⟩
    clear hb13 hgt13 hd13 hsame K12 HIm2
    go_upto_region 27 with fail
    rw [← hb12]
    generalize w13.alloc (.cells #[.bool ok13, .slice a13 m13 c13] 30) = W13 at K13 ⊢
    clear hb12
    have z0 := K13.out.2.2.2.cell 0
    have z1 := K13.out.2.2.2.cell 1
    have s0 := (X3.out.below K13.out.2.1).cell 0
    have s1 := (X3.out.below K13.out.2.1).cell 1
    simp at z0 z1 s0 s1
    have HEq2 : Hid (Calls Try.prog 30 #[.agg #[.bool ok13, .slice a13 m13 c13], .agg #[.bool ok13, .slice a3 m13 c3]] W13 fun e w' => e = .returned (.bool true) ∧ Below W13.heap.size W13 w') := eqTreeRes_yes ok13 a13 a3 m13 c13 c3 M5 W13 K13.out.2.2.1 (R3.out W13 K13.out.2.1) hm20 HM.out.1
    go_wp2_with fail
    (with_reducible refine HEq2.out.mono ?_)
    rintro e w14 ⟨rfl, hb14⟩
    have K14 : Hid (Below w.heap.size w w14) := K13.out.1.trans (hb14.mono K13.out.1.size)
    clear hb14 z0 z1 s0 s1
    go_wp2
    go_ret
    exact ⟨rfl, K14.out⟩

theorem inLawV (v : Value) (key : ByteArray) (w : World) (hv : IsTree w v) (h1 : key.size ≤ maxLen) : Calls Try.prog 7 #[v, .string key] w fun e w' => e = .returned (.bool true) ∧ Below w.heap.size w w' := by
  obtain ⟨a, n, c, N, rfl, ha, hX, hn⟩ := hv
  exact inLaw0 key h1 a n c N w ha hX hn
end Go.Proofs.Ytakemeccigpbaaa
