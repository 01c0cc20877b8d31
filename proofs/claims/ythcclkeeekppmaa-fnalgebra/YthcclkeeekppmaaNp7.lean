import Derived.Test.YthcclkeeekppmaaNp3
import Derived.Test.YthcclkeeekppmaaNm1
import Derived.Test.YthcclkeeekppmaaNp4
import Derived.Test.YthcclkeeekppmaaNp5
import Derived.Test.YthcclkeeekppmaaNp6
import Derived.Test.YthcclkeeekppmaaPaL
import Derived.Test.YthcclkeeekppmaaNp2
import Derived.Maps.OwnSet
import Derived.Maps.RangeWalk
import Derived.Maps.Ext
import Derived.Deep.QuietTactic
import Derived.BigQuiet
import Derived.Deep.RegionHeld3
import Derived.Deep.CutBlock
namespace Go.Proofs.Ythcclkeeekppmaa
open Go.RowKit Go.Deep
set_option linter.unusedVariables false
set_option maxRecDepth 100000

/-- The nodes of a path are good. -/
def GdN (N : Nat) (I : Nat → Int) (X R : Nat → ByteArray) : Prop := ∀ i, i < N → (1 ≤ I i ∧ I i ≤ 9) ∧ (X i).size ≤ 31 ∧ (R i).size ≤ 31
theorem T_len {N : Nat} {I : Nat → Int} {X R : Nat → ByteArray} (hv : GdN N I X R) : ∀ (f base m : Nat), m + 1 ≤ f → base + m < N → Begins (fun i => arOf (I (base + i))) (m + 1) 0 → (T I X R (base + m)).length ≤ 300 * (m + 1)
  | 0, base, m, hf, _, _ => absurd hf (by omega)
  | f + 1, base, m, hf, hN, hb => by
    obtain ⟨h9, hx, hr⟩ := hv (base + m) hN
    have hk := kids_math (n := m + 1) (by omega) hb (by exact arOf_le _)
    rw [Nat.add_sub_cancel] at hk
    rw [T_eq]
    refine Nat.le_trans (nodeT_length _ _ _ _ _ _ _ hx hr h9) ?_
    rcases hk with ⟨e, hm⟩ | ⟨e, h1⟩ | ⟨e, s, hs, h1, h2⟩
    · rw [e]
      simp
      omega
    · rw [e]
      have hm := h1.1
      have e0 : opf (arI I) (base + m) 0 = base + (m - 1) := by
        unfold opf arI
        rw [if_neg (by omega)]
        omega
      have ih := T_len hv f base (m - 1) (by omega) (by omega) (by rw [show m - 1 + 1 = m by omega]; exact h1)
      rw [e0, dif_pos (by omega)]
      simp
      omega
    · rw [e]
      have hm := h1.1
      have hs2 := h2.1
      have e0 : opf (arI I) (base + m) 0 = base + (s - 1) := by
        have q := bgF_of (Begins.lift (A := arI I) h1)
        unfold opf
        rw [if_pos ⟨e, rfl⟩, q]
        omega
      have e1 : opf (arI I) (base + m) 1 = (base + s) + (m - s - 1) := by
        unfold opf
        rw [if_neg (by omega)]
        omega
      have ih0 := T_len hv f base (s - 1) (by omega) (by omega) (by rw [show s - 1 + 1 = s by omega]; exact h2)
      have ih1 := T_len hv f (base + s) (m - s - 1) (by omega) (by omega) (by
        rw [show m - s - 1 + 1 = m - s by omega]
        have := h1.shift
        simpa only [Nat.add_assoc] using this)
      rw [e0, e1, dif_pos (by omega), dif_pos (by omega)]
      simp
      omega

set_option maxHeartbeats 400000 in
theorem l6Root_any (b o m c : Nat) (I : Nat → Int) (X R : Nat → ByteArray) (w : World) (h : RdN w (some ⟨b, o, none⟩) (m + 1) I X R) (hm : m ≤ 1048576) : Calls Try.prog 70 #[.slice (some ⟨b, o, none⟩) (m + 1) c] w fun e w' => e = .returned (.agg #[.int .i64 (I m), .string (X m), .string (R m)]) ∧ Below w.heap.size w w' := by
  rcases h with h | ⟨b', o', e, hc⟩
  · omega
  injection e with e
  injection e with e1 e2
  subst e1 e2
  obtain ⟨c0, c1, c2⟩ := hc m (by omega)
  have hw : IntKind.i64.wrap (((m + 1 : Nat) : Int) - 1) = (m : Int) := by rw [IntKind.wrap_i64]; omega
  have hw2 : IntKind.i64.wrap ((m : Int) + 1 - 1) = (m : Int) := by rw [IntKind.wrap_i64]; omega
  have hb := World.block_lt_of_cell? _ _ c0
  clear hc
  go_enter Try.func70, Try.ntmps70
  go_wp2
  exact bodyPost_ret (v := .agg #[.int .i64 (I m), .string (X m), .string (R m)]) (by simp [results, Try.results70, go_sem]) rfl ⟨rfl, below_alloc _ _⟩
end Go.Proofs.Ythcclkeeekppmaa

namespace Go.Proofs.Ythcclkeeekppmaa
open Go.RowKit Go.Deep
set_option linter.unusedVariables false
set_option maxRecDepth 100000

theorem emS_size {x : ByteArray} (h : emS x = true) : x.size ≤ 30 := by
  have := emS_yes h
  have e : x.toList = x.data.toList := by rw [ByteArray.toList_eq]
  rw [e] at this
  have : x.data.size = 0 := by rw [← Array.length_toList, this]; rfl
  show x.data.size ≤ 30
  omega
theorem txS_size {x : ByteArray} (h : txS x = true) : x.size ≤ 30 := by
  unfold txS at h
  simp at h
  exact h.2
theorem gn_good {k : Int} {s t : ByteArray} (h : gnB k s t = true) : (1 ≤ k ∧ k ≤ 9) ∧ s.size ≤ 30 ∧ t.size ≤ 30 := by
  unfold gnB at h
  split at h
  · simp only [Bool.and_eq_true] at h
    exact ⟨by omega, emS_size h.1, emS_size h.2⟩
  · split at h
    · simp only [Bool.and_eq_true] at h
      exact ⟨by omega, txS_size h.1, emS_size h.2⟩
    · split at h
      · simp only [Bool.and_eq_true] at h
        exact ⟨by omega, txS_size h.1, txS_size h.2⟩
      · cases h
theorem VPth.gd {n : Nat} {I : Nat → Int} {X R : Nat → ByteArray} (h : VPth n I X R) : GdN n I X R := fun i hi => by
  obtain ⟨h1, h2, h3⟩ := gn_good (h.2.1 i hi)
  exact ⟨h1, by omega, by omega⟩
/-- The text of a path: pt. -/
def IsTx (n : Nat) (I : Nat → Int) (X R : Nat → ByteArray) (pt : List Int) : Prop := (VPth n I X R ∧ pt = T I X R (n - 1)) ∨ (¬ VPth n I X R ∧ pt = [])
theorem IsTx.len {n : Nat} {I : Nat → Int} {X R : Nat → ByteArray} {pt : List Int} (ht : IsTx n I X R pt) : pt.length ≤ 30000 := by
  rcases ht with ⟨h, rfl⟩ | ⟨_, rfl⟩
  · have h1 := h.1
    have := T_len h.gd n 0 (n - 1) (by omega) (by omega) (by simpa only [Nat.zero_add, show n - 1 + 1 = n by omega] using h.2.2.1)
    rw [Nat.zero_add] at this
    omega
  · simp

end Go.Proofs.Ythcclkeeekppmaa

namespace Go.Proofs.Ythcclkeeekppmaa
open Go.RowKit Go.Deep
set_option linter.unusedVariables false
set_option maxRecDepth 100000

theorem kids_uniq {A : Nat → Nat} {b o c n j r r' : Nat} {ks ks' : List Value} (h : KidsOf A b o c n j r ks) (h' : KidsOf A b o c n j r' ks') : ks' = ks := by
  rcases h with ⟨h0, _, rfl⟩ | ⟨h1, h2, rfl⟩ | ⟨h1, _, s, h2, h3, rfl⟩ <;> rcases h' with ⟨g0, _, rfl⟩ | ⟨g1, g2, rfl⟩ | ⟨g1, _, s', g2, g3, rfl⟩ <;> first | (exfalso; omega) | rfl | skip
  · rw [h2.uniq g2]
  · rw [h2.uniq g2]
theorem kids_ex {A : Nat → Nat} (b o c m : Nat) (h : Begins A (m + 1) 0) (ha : A m ≤ 2) : ∃ r ks, KidsOf A b o c (m + 1) (A m) r ks := by
  rcases kids_math (by omega) h (by exact ha) with ⟨e, _⟩ | ⟨e, q⟩ | ⟨e, s, _, q1, q2⟩
  · rw [Nat.add_sub_cancel] at e
    exact ⟨m, [], .inl ⟨e, rfl, rfl⟩⟩
  · rw [Nat.add_sub_cancel] at e
    exact ⟨0, _, .inr (.inl ⟨e, q, rfl⟩)⟩
  · rw [Nat.add_sub_cancel] at e
    exact ⟨0, _, .inr (.inr ⟨e, rfl, s, q1, q2, rfl⟩)⟩
theorem kids_two {A : Nat → Nat} {b o c n r : Nat} {b0 b1 : Option Addr} {n0 n1 c0 c1 : Nat} (h : KidsOf A b o c n 2 r [.slice b0 n0 c0, .slice b1 n1 c1]) : n0 + n1 = n - 1 := by
  rcases h with ⟨h0, _, _⟩ | ⟨h1, h2, _⟩ | ⟨h1, _, s, h2, h3, h4⟩
  · omega
  · omega
  · injection h4 with e1 e2
    injection e2 with e2 _
    injection e1 with _ e1 _
    injection e2 with _ e2 _
    have := h2.1
    omega
theorem len_two {ks : List Value} (h : ks.length = 2) : ∃ a b, ks = [a, b] := by
  match ks, h with
  | [a, b], _ => exact ⟨a, b, rfl⟩
theorem RetM.congr {w w' : World} {m m' : Nat} {P P' : ByteArray → Prop} {e : Ending} (h : RetM w m P e w') (hm : m ≤ m') (hP : ∀ x, P x ↔ P' x) : RetM w m' P' e w' := by
  obtain ⟨v, rfl, hl, hb⟩ := h.lst
  exact (hl.congr hP hm).ret hb
set_option maxHeartbeats 2000000 in
theorem l6Mean_any {N : Nat} {I : Nat → Int} {X R : Nat → ByteArray} (hv : GdN N I X R) (fa : Option Addr) (fc : Nat) (fs : List Fc) (h3 : fs.length ≤ 300) : ∀ (f b o base m c : Nat) (bd : Bool) (g : ByteArray) (w : World), RdN w (some ⟨b, o, none⟩) (m + 1) (fun i => I (base + i)) (fun i => X (base + i)) (fun i => R (base + i)) → RdF w fa fs → m + 1 ≤ f → f ≤ 100 → m + 1 ≤ c → c ≤ 9223372036854775807 → base + m < N → Begins (fun i => arOf (I (base + i))) (m + 1) 0 →
    Calls Try.prog 34 #[.slice (some ⟨b, o, none⟩) (m + 1) c, .slice fa fs.length fc, .bool bd, .string g] w (RetM w (600 * (m + 1)) (MS I X R fs (base + m) bd g))
  | 0, b, o, base, m, c, bd, g, w, _, _, hf, _, _, _, _, _ => absurd hf (by omega)
  | f + 1, b, o, base, m, c, bd, g, w, hR, hF, hf, hf2, hc, hcm, hN, hb => by
    have IH := l6Mean_any hv fa fc fs h3 f
    obtain ⟨r, ks, hko⟩ := kids_ex b o c m hb (arOf_le _)
    have hkd : ∀ W, Below w.heap.size w W → Calls Try.prog 57 #[.slice (some ⟨b, o, none⟩) (m + 1) c] W fun e w' => ∃ go cpo, e = .returned (.slice (some ⟨go, 0, none⟩) ks.length cpo) ∧ (∀ i x, ks[i]? = some x → w'.cell? ⟨go, i, none⟩ = some x) ∧ Below W.heap.size W w' := fun W hW => by
      refine (l6Kids_any b o m c (fun i => I (base + i)) (fun i => X (base + i)) (fun i => R (base + i)) W (hR.below hW) (by omega) hc hcm hb).mono ?_
      rintro e w' ⟨v, r', ks', rfl, hko', hka, hb2⟩
      obtain ⟨go, cpo, rfl, hks⟩ := hka
      have e := kids_uniq hko hko'
      subst e
      exact ⟨go, cpo, rfl, hks, hb2⟩
    have hM : MnA w b o (m + 1) c (I (base + m)) (X (base + m)) (R (base + m)) ks fa fs.length fc fs := ⟨l6Root_any b o m c _ _ _ w hR (by omega), hkd, hF, rfl, h3⟩
    have hkt := kids_text hko hR hc hb
    have hlen := hko.len
    have hK : ∀ i, i < arOf (I (base + m)) → ∃ ad n' c', ks[i]? = some (.slice ad (n' + 1) c') ∧ n' + 1 ≤ m ∧ opf (arI I) (base + m) i < base + m ∧ KidM w (.slice ad (n' + 1) c') fa fs.length fc (600 * (n' + 1)) (fun bd g => MS I X R fs (opf (arI I) (base + m) i) bd g) := fun i hi => by
      obtain ⟨o', n', c', base', q1, q2, q3, q4, q5, q6, q7, q8⟩ := hkt i hi
      refine ⟨_, n', c', q1, q4, by omega, fun W bd g hW => ?_⟩
      rw [← q7]
      exact IH b o' base' n' c' bd g W (q2.below hW) (hF.below hW) (by omega) (by omega) q5 (by omega) (by omega) q3
    have hk9 := (hv (base + m) hN).1
    have hEq := MS_eq (I := I) (X := X) (R := R) (fs := fs) (i := base + m) hk9 (fun q => by
      obtain ⟨_, _, _, _, _, q2, _⟩ := hK 0 (by omega)
      exact q2) (fun q => by
      obtain ⟨_, _, _, _, _, q2, _⟩ := hK 1 (by omega)
      exact q2) bd g
    clear hkt hkd IH
    obtain ⟨k, hk⟩ : ∃ k, k = I (base + m) := ⟨_, rfl⟩
    rw [← hk] at hM hK hk9 hEq hlen hko
    clear hk
    have h9 : k = 1 ∨ k = 2 ∨ k = 3 ∨ k = 4 ∨ k = 5 ∨ k = 6 ∨ k = 7 ∨ k = 8 ∨ k = 9 := by omega
    rcases h9 with rfl | rfl | rfl | rfl | rfl | rfl | rfl | rfl | rfl
    · obtain rfl : ks = [] := List.length_eq_zero_iff.1 hlen
      refine (mean_1 b o (m + 1) c _ _ fa fs.length fc fs bd g w hM).mono fun e w' hr => hr.congr (by omega) (fun x => ?_)
      rw [hEq]
      exact nodeM_congr (by omega) (fun q => absurd q (by decide)) (fun q => absurd q (by decide)) x
    · obtain rfl : ks = [] := List.length_eq_zero_iff.1 hlen
      refine (mean_2 b o (m + 1) c _ _ fa fs.length fc fs bd g w hM).mono fun e w' hr => hr.congr (by omega) (fun x => ?_)
      rw [hEq]
      exact nodeM_congr (by omega) (fun q => absurd q (by decide)) (fun q => absurd q (by decide)) x
    · obtain ⟨ad, n', c', q1, q2, q3, q4⟩ := hK 0 (by decide)
      obtain ⟨v0, rfl⟩ := List.length_eq_one_iff.1 hlen
      injection q1 with q1
      subst q1
      refine (mean_3 b o (m + 1) c _ _ _ fa fs.length fc fs _ _ bd g w hM q4 (by omega)).mono fun e w' hr => hr.congr (by omega) (fun x => ?_)
      rw [hEq]
      exact nodeM_congr (by omega) (fun _ x => Iff.rfl) (fun q => absurd q (by decide)) x
    · obtain ⟨ad, n', c', q1, q2, q3, q4⟩ := hK 0 (by decide)
      obtain ⟨v0, rfl⟩ := List.length_eq_one_iff.1 hlen
      injection q1 with q1
      subst q1
      refine (mean_4 b o (m + 1) c _ _ _ fa fs.length fc fs _ _ bd g w hM q4 (by omega)).mono fun e w' hr => hr.congr (by omega) (fun x => ?_)
      rw [hEq]
      exact nodeM_congr (by omega) (fun _ x => Iff.rfl) (fun q => absurd q (by decide)) x
    · obtain ⟨ad, n', c', q1, q2, q3, q4⟩ := hK 0 (by decide)
      obtain ⟨v0, rfl⟩ := List.length_eq_one_iff.1 hlen
      injection q1 with q1
      subst q1
      refine (mean_5 b o (m + 1) c _ _ _ fa fs.length fc fs _ _ bd g w hM q4 (by omega)).mono fun e w' hr => hr.congr (by omega) (fun x => ?_)
      rw [hEq]
      exact nodeM_congr (by omega) (fun _ x => Iff.rfl) (fun q => absurd q (by decide)) x
    · obtain ⟨ad, n', c', q1, q2, q3, q4⟩ := hK 0 (by decide)
      obtain ⟨ad1, n1, c1, p1, p2, p3, p4⟩ := hK 1 (by decide)
      obtain ⟨v0, v1, rfl⟩ := len_two hlen
      injection q1 with q1
      subst q1
      injection p1 with p1
      subst p1
      have hsum := kids_two hko
      refine (mean_6 b o (m + 1) c _ _ _ _ fa fs.length fc fs _ _ _ _ bd g w hM q4 p4 (by omega) (by omega)).mono fun e w' hr => hr.congr (by omega) (fun x => ?_)
      rw [hEq]
      exact nodeM_congr (by omega) (fun _ x => Iff.rfl) (fun _ x => Iff.rfl) x
    · obtain ⟨ad, n', c', q1, q2, q3, q4⟩ := hK 0 (by decide)
      obtain ⟨ad1, n1, c1, p1, p2, p3, p4⟩ := hK 1 (by decide)
      obtain ⟨v0, v1, rfl⟩ := len_two hlen
      injection q1 with q1
      subst q1
      injection p1 with p1
      subst p1
      have hsum := kids_two hko
      refine (mean_7 b o (m + 1) c _ _ _ _ fa fs.length fc fs _ _ _ _ bd g w hM q4 p4 (by omega) (by omega)).mono fun e w' hr => hr.congr (by omega) (fun x => ?_)
      rw [hEq]
      exact nodeM_congr (by omega) (fun _ x => Iff.rfl) (fun _ x => Iff.rfl) x
    · obtain ⟨ad, n', c', q1, q2, q3, q4⟩ := hK 0 (by decide)
      obtain ⟨ad1, n1, c1, p1, p2, p3, p4⟩ := hK 1 (by decide)
      obtain ⟨v0, v1, rfl⟩ := len_two hlen
      injection q1 with q1
      subst q1
      injection p1 with p1
      subst p1
      have hsum := kids_two hko
      refine (mean_8 b o (m + 1) c _ _ _ _ fa fs.length fc fs _ _ _ _ bd g w hM q4 p4 (by omega) (by omega)).mono fun e w' hr => hr.congr (by omega) (fun x => ?_)
      rw [hEq]
      exact nodeM_congr (by omega) (fun _ x => Iff.rfl) (fun _ x => Iff.rfl) x
    · obtain ⟨ad, n', c', q1, q2, q3, q4⟩ := hK 0 (by decide)
      obtain ⟨v0, rfl⟩ := List.length_eq_one_iff.1 hlen
      injection q1 with q1
      subst q1
      refine (mean_9 b o (m + 1) c _ _ _ fa fs.length fc fs _ _ bd g w hM q4).mono fun e w' hr => hr.congr (by omega) (fun x => ?_)
      rw [hEq]
      exact nodeM_congr (by omega) (fun _ x => Iff.rfl) (fun q => absurd q (by decide)) x
end Go.Proofs.Ythcclkeeekppmaa

namespace Go.Proofs.Ythcclkeeekppmaa
open Go.RowKit Go.Deep
set_option linter.unusedVariables false
set_option maxRecDepth 100000

/-- What a path means over facts: nothing if it isn't valid or there are too many. -/
def MnP (n : Nat) (I : Nat → Int) (X R : Nat → ByteArray) (fs : List Fc) (x : ByteArray) : Prop := VPth n I X R ∧ fs.length ≤ 300 ∧ MS I X R fs (n - 1) false { data := #[] } x
set_option maxHeartbeats 2000000 in
theorem specMe (a : Option Addr) (n c : Nat) (I : Nat → Int) (X R : Nat → ByteArray) (fa : Option Addr) (fc : Nat) (fs : List Fc) (w : World) (h : RdN w a n I X R) (hF : RdF w fa fs) (hn : n ≤ 1048576) (hc : n ≤ c) (hcm : c ≤ 9223372036854775807) (hl : fs.length ≤ 1048576) :
    Calls Try.prog 8 #[.agg #[.slice a n c], .slice fa fs.length fc] w (RetM w 60000 (MnP n I X R fs)) := by
  have HV : Hid (∀ W, Below w.heap.size w W → Calls Try.prog 6 #[.agg #[.slice a n c]] W (AnsN W (VPth n I X R))) := fun W hW => specVP a n c I X R W (h.below hW) hn hc hcm
  have HR : Hid (RdN w a n I X R ∧ RdF w fa fs) := ⟨h, hF⟩
  have HB0 : Hid (Below w.heap.size w (w.alloc (.cells #[.slice a n c] 25))) := below_alloc _ _
  obtain ⟨fn, hfn⟩ : ∃ fn, fn = fs.length := ⟨_, rfl⟩
  rw [← hfn] at hl ⊢
  have HN : Hid (fn = fs.length) := hfn
  clear h hF hfn
  go_enter Try.func8, Try.ntmps8
  go_wp2_with fail
  refine (HV.out _ HB0.out).mono ?_
  rintro e w1 ⟨bv1, rfl, hbv, hb1⟩
  have HB1 : Hid (Below w.heap.size w w1) := HB0.out.trans (hb1.mono HB0.out.size)
  have hbx : w1.cell? ⟨w.heap.size, 0, none⟩ = some (.slice a n c) := by
    rw [hb1.cell (by simp)]
    simp
  have hlt : w.heap.size < w1.heap.size := by have := hb1.size; simp at this; omega
  clear hb1 HV HB0
  have HNo : Hid (¬ (VPth n I X R ∧ fn ≤ 300) → RetM w 60000 (MnP n I X R fs) (.returned (.slice (some ⟨w1.heap.size, 0, none⟩) 0 0)) (w1.alloc (.cells #[] 9))) := fun q => by
    refine ((LstA.nil w1 (MnP n I X R fs) (fun x hx => q ⟨hx.1, by rw [HN.out]; exact hx.2.1⟩)).congr (fun _ => Iff.rfl) (by omega)).ret (HB1.out.alloc HB1.out.size _)
  cases bv1 with
  | false =>
    have HF := HNo.out (fun q => by have := hbv.2 q.1; cases this)
    have HF2 : Hid (RetM w 60000 (MnP n I X R fs) (.returned (.slice (some ⟨w1.heap.size, 0, none⟩) 0 0)) (w1.alloc (.cells #[] 9))) := HF
    clear hbv HNo HF
    go_wp2
    go_ret
    exact HF2.out
  | true =>
    have hv : VPth n I X R := hbv.1 rfl
    by_cases h3 : fn ≤ 300
    · obtain ⟨m, hm⟩ : ∃ m, n = m + 1 := ⟨n - 1, by have := hv.1; omega⟩
      subst hm
      have i1 : ¬ (300 : Int) < (fn : Int) := by omega
      obtain ⟨b, o, ea⟩ : ∃ b o, a = some ⟨b, o, none⟩ := by
        rcases HR.out.1 with h0 | ⟨b, o, e, _⟩
        · omega
        · exact ⟨b, o, e⟩
      subst ea
      have HBq : Hid (Below w.heap.size w (w1.alloc (.cells #[] 9))) := HB1.out.alloc HB1.out.size _
      have HS : Hid (Calls Try.prog 34 #[.slice (some ⟨b, o, none⟩) (m + 1) c, .slice fa fn fc, .bool false, .string { data := #[] }] (w1.alloc (.cells #[] 9)) (RetM (w1.alloc (.cells #[] 9)) (600 * (m + 1)) (MS I X R fs m false { data := #[] }))) := by
        have q := l6Mean_any hv.gd fa fc fs (by rw [← HN.out]; exact h3) (m + 1) b o 0 m c false { data := #[] } (w1.alloc (.cells #[] 9)) (by simpa only [Nat.zero_add] using HR.out.1.below HBq.out) (HR.out.2.below HBq.out) (Nat.le_refl _) (by have := hv.1; omega) hc hcm (by omega) (by simpa only [Nat.zero_add] using hv.2.2.1)
        rw [Nat.zero_add, ← HN.out] at q
        exact q
      have HVh : Hid (VPth (m + 1) I X R ∧ m + 1 ≤ 100) := ⟨hv, hv.1.2⟩
      clear hbv hv HNo
      go_wp2_with fail
      refine HS.out.mono ?_
      intro e w2 hr
      obtain ⟨v2, rfl, hl2, hb2⟩ := hr.lst
      obtain ⟨a2, c2, L, rfl, hr2, hA2, hm2, hn2, hc2, hc3⟩ := hl2
      have HB2 : Hid (Below (w1.alloc (.cells #[] 9)).heap.size (w1.alloc (.cells #[] 9)) w2) := hb2
      have HL : Hid (RdG w2 a2 L ∧ Asc L ∧ (∀ x, x ∈ L ↔ MS I X R fs m false { data := #[] } x) ∧ L.length ≤ 60000) := ⟨hr2, hA2, hm2, by have := HVh.out.2; omega⟩
      have HO : Hid (w2.ownsRow w1.heap.size 9 1 (.slice (some ⟨w1.heap.size, 0, none⟩) 0 0) 0 []) := own_below (own_empty w1 9 w1.heap.size 1 (Nat.le_refl _)) hb2
      have hz2 : w1.heap.size ≤ w2.heap.size := by have := hb2.size; simp at this; omega
      clear hr hr2 hA2 hm2 hn2 hb2 hc2 hc3 HS
      go_wp2_with (at_builtin; refine wpList_append_strs rfl _ _ rfl w1.heap.size (.slice (some ⟨w1.heap.size, 0, none⟩) 0 0) 0 [] rfl HO.out a2 L.length c2 L rfl rfl HL.out.1 (by have := HL.out.2.2.2; omega) hz2 ?_)
      intro v3 w3 ho3 hg3 _
      have HF : Hid (RetM w 60000 (MnP (m + 1) I X R fs) (.returned v3) w3) := by
        have ho4 : w3.ownsRow w1.heap.size 9 1 v3 L.length (strL L) := by simpa using ho3
        have hbb : Below w1.heap.size w1 w3 := ((below_alloc w1 _).trans (HB2.out.mono (by simp))).grown hg3 hz2 (fun g e => by simp [Value.ownBlock] at e; omega)
        refine (LstA.own ho4 HL.out.2.1 (fun x => ?_) HL.out.2.2.2).ret (HB1.out.trans (hbb.mono HB1.out.size))
        rw [HL.out.2.2.1]
        unfold MnP
        rw [Nat.add_sub_cancel, ← HN.out]
        exact ⟨fun q => ⟨HVh.out.1, h3, q⟩, fun q => q.2.2⟩
      clear ho3 hg3 HL HO
      go_wp2
      go_ret
      exact HF.out
    · have i1 : (300 : Int) < (fn : Int) := by omega
      have HF2 : Hid (RetM w 60000 (MnP n I X R fs) (.returned (.slice (some ⟨w1.heap.size, 0, none⟩) 0 0)) (w1.alloc (.cells #[] 9))) := HNo.out (fun q => h3 q.2)
      clear hbv hv HNo
      go_wp2
      go_ret
      exact HF2.out
end Go.Proofs.Ythcclkeeekppmaa

namespace Go.Proofs.Ythcclkeeekppmaa
open Go.RowKit Go.Deep Go.Maps
set_option linter.unusedVariables false
set_option maxRecDepth 100000

theorem undStr : Try.prog.underlying 9 = some .string := by kernel_rfl
theorem undSet : Try.prog.underlying 67 = some (.map 9 74) := by kernel_rfl
theorem strK : Keyed Try.prog 9 := string_keyed undStr
theorem zeroU (w : World) : (zeroValue 74).run Try.prog w = .ok (.agg #[]) w := by kernel_rfl
/-- A text's key. -/
def kS (x : ByteArray) : Lit := .string x.data.toList
theorem kS_inj {x y : ByteArray} (h : kS x = kS y) : x = y := by
  unfold kS at h
  injection h with h
  obtain ⟨⟨x⟩⟩ := x
  obtain ⟨⟨y⟩⟩ := y
  simp at h
  rw [h]
theorem kS_key {x : ByteArray} (h : x.size ≤ maxLen) : keyOf Try.prog 9 (.string x) = some (kS x) := Go.WideMaps.keyOf_string_mk undStr h
theorem kS_lit (x : ByteArray) : WideAt.IsKeyLit (kS x) := by unfold kS; trivial
/-- Block B is a set whose members are just the texts of which P holds; there are at most N. -/
def SSet (w : World) (B N : Nat) (P : ByteArray → Prop) : Prop := ∃ D : DataW Unit, w.ownsMap Try.prog 9 unitElem B N D ∧ ∀ x : ByteArray, Maps.has D (kS x) = true ↔ P x
theorem SSet.lt {w : World} {B N : Nat} {P : ByteArray → Prop} (h : SSet w B N P) : B < w.heap.size := by
  obtain ⟨D, h, _⟩ := h
  exact h.lt
theorem SSet.kept {w w' : World} {B N : Nat} {P : ByteArray → Prop} {row : Option Nat} (h : SSet w B N P) (hg : w.grownBy w' row) (hne : some B ≠ row) : SSet w' B N P := by
  obtain ⟨D, h, q⟩ := h
  exact ⟨D, h.kept hg hne, q⟩
theorem SSet.below {w w' : World} {B N : Nat} {P : ByteArray → Prop} (h : SSet w B N P) (hb : Below w.heap.size w w') : SSet w' B N P :=
  h.kept (row := none) ⟨hb.os, hb.tape, hb.output, hb.size, fun k hk _ => hb.block k hk⟩ (by simp)
theorem SSet.congr {w : World} {B N N' : Nat} {P P' : ByteArray → Prop} (h : SSet w B N P) (e : ∀ x, P x ↔ P' x) (hN : N ≤ N') : SSet w B N' P' := by
  obtain ⟨D, h, q⟩ := h
  exact ⟨D, h.mono hN, fun x => (q x).trans (e x)⟩
theorem sset_new (w : World) (P : ByteArray → Prop) (h : ∀ x, ¬ P x) : SSet (w.alloc (.map #[] 0)) w.heap.size 0 P :=
  ⟨.map [], World.ownsMap_made _ _ _ _, fun x => ⟨(fun q => by cases q), fun q => absurd q (h x)⟩⟩
theorem has_put (D : DataW Unit) (hD : IsMap D) (x y : ByteArray) (d : DataW Unit) : Maps.has (D.put (kS x) d) (kS y) = true ↔ Maps.has D (kS y) = true ∨ y = x := by
  by_cases e : y = x
  · subst e
    exact ⟨fun _ => .inr rfl, fun _ => Maps.has_put_same hD (kS_lit y) d⟩
  · rw [Maps.has_put_other (fun q => e (kS_inj q)) d]
    exact ⟨fun q => .inl q, fun q => q.resolve_right e⟩
set_option maxHeartbeats 1000000 in
theorem add_any (B N : Nat) (P : ByteArray → Prop) (x : ByteArray) (w : World) (h : SSet w B N P) (hN : N ≤ 1048576) (hx : x.size ≤ maxLen) :
    Calls Try.prog 101 #[.map (some B), .string x] w fun e w' => e = .returned (.tuple #[]) ∧ SSet w' B (N + 1) (fun y => P y ∨ y = x) ∧ w.grownBy w' (some B) := by
  obtain ⟨D, hown, hP⟩ := h
  go_enter Try.func101, Try.ntmps101
  go_wp2_with (first
    | (at_mapUpdate; refine wpList_mapUpdate_own _ rfl _ _ _ 67 rfl 9 74 strK undSet unitElem B N D rfl hown (by unfold maxLen; omega) _ _ (kS x) rfl rfl (kS_key hx) _ [] unitElem_mk ?_; intro w1 hown1 hg1)
    | go_in)
  have HF : Hid (SSet w1 B (N + 1) (fun y => P y ∨ y = x) ∧ w.grownBy w1 (some B)) := ⟨⟨_, hown1, fun y => by rw [has_put D hown.isMap x y, hP]⟩, hg1⟩
  clear hown1 hg1
  go_wp2
  go_end0
  exact ⟨rfl, HF.out⟩
set_option maxHeartbeats 1000000 in
theorem has_any (B N : Nat) (P : ByteArray → Prop) (x : ByteArray) (w : World) (h : SSet w B N P) (hx : x.size ≤ maxLen) :
    Calls Try.prog 104 #[.map (some B), .string x] w fun e w' => ∃ b : Bool, e = .returned (.bool b) ∧ (b = true ↔ P x) ∧ Below w.heap.size w w' := by
  obtain ⟨D, hown, hP⟩ := h
  go_enter Try.func104, Try.ntmps104
  go_wp2_with (first
    | (at_lookup; refine wpList_lookup_own_unit _ rfl _ _ 67 rfl 9 74 strK undSet (zeroU _) B N D rfl hown _ _ rfl (kS_key hx) ?_)
    | go_in)
  go_ret
  exact ⟨Maps.has D (kS x), rfl, hP x, below_alloc _ _⟩
set_option maxHeartbeats 1000000 in
theorem counts_any (bd : Bool) (g : ByteArray) (f : Fc) (w : World) :
    Calls Try.prog 100 #[.agg #[.bool bd, .string g], .agg #[.string f.s, .string f.p, .string f.o, .string f.g]] w fun e w' => e = .returned (.bool (cntB bd g f)) ∧ Below w.heap.size w w' := by
  have HB : Hid (∀ o1 o2, Below w.heap.size w ((w.alloc o1).alloc o2)) := fun o1 o2 => (below_alloc _ _).alloc (by simp) _
  cases bd with
  | false =>
    go_enter Try.func100, Try.ntmps100
    go_wp2
    go_ret
    exact ⟨by simp [cntB], HB.out _ _⟩
  | true =>
    cases hq : (f.g.toList == g.toList) with
    | false =>
      go_enter Try.func100, Try.ntmps100
      go_wp2
      go_ret
      exact ⟨by simp [cntB, hq], HB.out _ _⟩
    | true =>
      go_enter Try.func100, Try.ntmps100
      go_wp2
      go_ret
      exact ⟨by simp [cntB, hq], HB.out _ _⟩
end Go.Proofs.Ythcclkeeekppmaa

namespace Go.Proofs.Ythcclkeeekppmaa
open Go.RowKit Go.Deep Go.Maps
set_option linter.unusedVariables false
set_option maxRecDepth 100000

theorem SSet.cell {w w' : World} {B N : Nat} {P : ByteArray → Prop} (h : SSet w B N P) (hg : w.grownBy w' (some B)) {b o : Nat} {v : Value} (hc : w.cell? ⟨b, o, none⟩ = some v) : w'.cell? ⟨b, o, none⟩ = some v := by
  obtain ⟨D, ⟨es, clock, hb, _⟩, _⟩ := h
  have hne : b ≠ B := by
    rintro rfl
    simp [World.cell?, hb] at hc
  rw [World.cell?_of_block (a := ⟨b, o, none⟩) (hg.block b (World.block_lt_of_cell? _ _ hc) (fun e => hne (by injection e)))]
  exact hc
theorem SSet.rdF {w w' : World} {B N : Nat} {P : ByteArray → Prop} (h : SSet w B N P) (hg : w.grownBy w' (some B)) {a : Option Addr} {fs : List Fc} (hr : RdF w a fs) : RdF w' a fs := by
  rcases hr with q | ⟨b, o, rfl, hc⟩
  · exact .inl q
  · exact .inr ⟨b, o, rfl, fun i x hx => ⟨h.cell hg (hc i x hx).1, h.cell hg (hc i x hx).2.1, h.cell hg (hc i x hx).2.2.1, h.cell hg (hc i x hx).2.2.2⟩⟩
theorem gr_refl (B : Nat) (w : World) : w.grownBy w (some B) := ⟨rfl, rfl, rfl, Nat.le_refl _, fun _ _ _ => rfl⟩
theorem gr_trans {B : Nat} {w w1 w2 : World} (h : w.grownBy w1 (some B)) (k : w1.grownBy w2 (some B)) : w.grownBy w2 (some B) := h.andThen k (fun j e => .inr e)
theorem gr_below {B : Nat} {w w1 w2 : World} (h : w.grownBy w1 (some B)) (hb : Below w1.heap.size w1 w2) : w.grownBy w2 (some B) :=
  h.andThen (row' := none) ⟨hb.os, hb.tape, hb.output, hb.size, fun k hk _ => hb.block k hk⟩ (fun j e => by cases e)
theorem below_gr {B b : Nat} {w w1 w2 : World} (h : Below b w w1) (hb : b ≤ w1.heap.size) (hg : w1.grownBy w2 (some B)) (hB : b ≤ B) : Below b w w2 := h.grown hg hb (fun k e => by injection e with e; omega)
/-- Facts whose texts can be keys. -/
def FcOk (fs : List Fc) : Prop := ∀ f, f ∈ fs → f.s.size ≤ maxLen ∧ f.o.size ≤ maxLen
/-- A new set handed back. -/
def RetS (w : World) (N : Nat) (P : ByteArray → Prop) (e : Ending) (w' : World) : Prop := ∃ B, e = .returned (.map (some B)) ∧ w.heap.size ≤ B ∧ SSet w' B N P ∧ Below w.heap.size w w'
theorem take_filter {fs : List Fc} {j : Nat} {f : Fc} (p : Fc → Bool) (hf : fs[j]? = some f) : (fs.take (j + 1)).filter p = (fs.take j).filter p ++ (if p f = true then [f] else []) := by
  rw [List.take_add_one, hf, List.filter_append]
  cases h : p f <;> simp [h]
end Go.Proofs.Ythcclkeeekppmaa

namespace Go.Proofs.Ythcclkeeekppmaa
open Go.RowKit Go.Deep Go.Maps
set_option linter.unusedVariables false
set_option maxRecDepth 100000
set_option linter.unusedSimpArgs false

theorem key_inv {v : Value} {kl : Lit} (h : keyOf Try.prog 9 v = some kl) : ∃ x : ByteArray, v = .string x := by
  cases v <;> simp [keyOf, undStr, mapKey] at h
  exact ⟨_, rfl⟩
theorem key_str {x : ByteArray} {kl : Lit} (h : keyOf Try.prog 9 (.string x) = some kl) : kl = kS x ∧ x.size ≤ maxLen := by
  by_cases hx : x.size ≤ maxLen
  · rw [kS_key hx] at h
    injection h with h
    exact ⟨h.symm, hx⟩
  · exfalso
    simp [keyOf, undStr, mapKey, hx] at h
theorem unit_inv {v : Value} {y : DataW Unit × List MemPlace} (h : unitElem v = some y) : ∃ _c : Unit, v = .agg #[] := ⟨(), (unitElem_inv h).1⟩
theorem kS_same (x y : ByteArray) : (kS y).sameKey (kS x) = true ↔ y = x := by
  unfold kS Lit.sameKey
  simp
  constructor
  · intro h
    exact kS_inj (by unfold kS; rw [h])
  · intro h
    rw [h]
/-- What has been gone through: those of A that are not still to come. -/
theorem left_step {left : Lit → Bool} {x : ByteArray} (y : ByteArray) : (left (kS y) && !(kS y).sameKey (kS x)) = false ↔ left (kS y) = false ∨ y = x := by
  rw [← kS_same x y]
  cases left (kS y) <;> cases (kS y).sameKey (kS x) <;> simp
end Go.Proofs.Ythcclkeeekppmaa

namespace Go.Proofs.Ythcclkeeekppmaa
open Go.RowKit Go.Deep Go.Maps
set_option linter.unusedVariables false
set_option maxRecDepth 100000
set_option linter.unusedSimpArgs false

/-- Who stands in a list each once stands in it at most as often as it is long. -/
theorem pigeonL {α : Type} : ∀ (l l' : List α), l.Nodup → (∀ x, x ∈ l → x ∈ l') → l.length ≤ l'.length
  | [], l', _, _ => Nat.zero_le _
  | a :: t, l', hd, hs => by
    obtain ⟨s1, s2, e⟩ := List.append_of_mem (hs a (by simp))
    subst e
    have hd' := List.nodup_cons.1 hd
    have hs' : ∀ y, y ∈ t → y ∈ s1 ++ s2 := fun y hy => by
      have q := hs y (List.mem_cons_of_mem _ hy)
      simp only [List.mem_append, List.mem_cons] at q ⊢
      rcases q with q | q | q
      · exact .inl q
      · subst q; exact absurd hy hd'.1
      · exact .inr q
    have ih := pigeonL t (s1 ++ s2) hd'.2 hs'
    simp at ih ⊢
    omega
/-- A set whose members are among L has at most as many. -/
theorem SSet.fit {w : World} {B N : Nat} {P : ByteArray → Prop} (h : SSet w B N P) (L : List ByteArray) (hL : ∀ x, P x → x ∈ L) : SSet w B L.length P := by
  obtain ⟨D, ⟨es, clock, hb, F, hs, hD⟩, hP⟩ := h
  refine ⟨D, ⟨es, clock, hb, F, ?_, hD⟩, hP⟩
  have hap := fit_apart strK F
  have hnd : ((es.toList.map (WideElems.rg (H := Unit) Try.prog 9 unitElem)).map (fun p => p.1)).Nodup := by
    unfold List.Nodup
    rw [List.pairwise_map]
    exact hap
  have := pigeonL _ (L.map kS) hnd (fun k hk => by
    obtain ⟨p, hp, rfl⟩ := List.mem_map.1 hk
    obtain ⟨x, hx, rfl⟩ := List.mem_map.1 hp
    obtain ⟨y, hy⟩ := F.reads x hx
    have hkey := WideElems.rd_key hy
    obtain ⟨z, hz⟩ := key_inv hkey
    rw [hz] at hkey
    have e := (key_str hkey).1
    have e2 : (WideElems.rg (H := Unit) Try.prog 9 unitElem x).1 = kS z := by rw [WideElems.rg_of hy, e]
    have hh : Maps.has D (kS z) = true := by
      rw [hD, Maps.has_eq, List.any_eq_true]
      refine ⟨WideElems.rg (H := Unit) Try.prog 9 unitElem x, ((WideShapes.sorted_perm _).mem_iff).2 (List.mem_map.2 ⟨x, hx, rfl⟩), ?_⟩
      rw [e2, kS_same]
    rw [e2]
    exact List.mem_map.2 ⟨z, hL z ((hP z).1 hh), rfl⟩)
  simpa using this
theorem infoM : (Try.prog.info? 67).map (fun i => (i.zero, i.size, i.bytes)) = some (some (.map none), 1, 8) := by kernel_rfl
def picksM (Y : Nat → Option Nat) (F : Nat → Nat) (q : Nat) : List Value := (List.range q).map (fun j => Value.map (Y (F j)))
theorem picksM_succ (Y : Nat → Option Nat) (F : Nat → Nat) (q : Nat) : picksM Y F (q + 1) = picksM Y F q ++ [.map (Y (F q))] := by unfold picksM; rw [List.range_succ, List.map_append]; rfl
set_option maxHeartbeats 1000000 in
theorem pickM_any (gt n ct : Nat) (Y : Nat → Option Nat) (aa : Option Addr) (q ca : Nat) (F : Nat → Nat) (w : World) (h1 : ∀ i, i < n → w.cell? ⟨gt, i, none⟩ = some (.map (Y i))) (h2 : Rd .i64 w aa q (fun j => (F j : Int))) (hF : ∀ j, j < q → F j < n) (hq : q ≤ 1000) (hn : n ≤ 1000) :
    Calls Try.prog 30 #[.slice (some ⟨gt, 0, none⟩) n ct, .slice aa q ca] w fun e w' => ∃ v, e = .returned v ∧ w'.ownsRow w.heap.size 67 1 v q (picksM Y F q) ∧ Below w.heap.size w w' := by
  have HR : Hid ((∀ i, i < n → w.cell? ⟨gt, i, none⟩ = some (.map (Y i))) ∧ Rd .i64 w aa q (fun j => (F j : Int)) ∧ ∀ j, j < q → F j < n) := ⟨h1, h2, hF⟩
  clear h1 h2 hF
  obtain ⟨i0, hi, hz0, hz1, hz2⟩ := info_parts infoM
  have HI : Hid (Try.prog.info? 67 = some i0 ∧ i0.zero = some (.map none) ∧ i0.size = 1 ∧ i0.bytes = 8) := ⟨hi, hz0, hz1, hz2⟩
  clear hi hz0 hz1 hz2
  go_enter Try.func30, Try.ntmps30
  go_wp2
  go_loopw [5, 7, 10] (fun u _ i wr => ∃ k : Nat, k ≤ q ∧ i = .int .i64 k ∧ wr.ownsRow w.heap.size 67 1 u k (picksM Y F k) ∧ Below w.heap.size w wr) (fun _ _ i _ => q - (intOf i).toNat)
  case atStart => exact ⟨0, Nat.zero_le _, rfl, ⟨rfl, .inl ⟨rfl, rfl⟩⟩, Below.refl _ _⟩
  case round =>
    obtain ⟨k, hk, rfl, hown, hbr⟩ := hrel
    have HO : Hid (wr.ownsRow w.heap.size 67 1 u5 k (picksM Y F k) ∧ Below w.heap.size w wr) := ⟨hown, hbr⟩
    have hsz := hbr.size
    clear hown hbr
    by_cases hlt : k < q
    · rcases HR.out.2.1 with h0 | ⟨ba, oa, ea, hca⟩
      · omega
      subst ea
      have c1 : wr.cell? ⟨ba, oa + k, none⟩ = some (.int .i64 (F k : Int)) := (HO.out.2.cell (World.block_lt_of_cell? _ _ (hca k hlt))).trans (hca k hlt)
      have hFk := HR.out.2.2 k hlt
      have c2 : wr.cell? ⟨gt, F k, none⟩ = some (.map (Y (F k))) := (HO.out.2.cell (World.block_lt_of_cell? _ _ (HR.out.1 _ hFk))).trans (HR.out.1 _ hFk)
      obtain ⟨fk, hfk⟩ : ∃ fk, fk = F k := ⟨_, rfl⟩
      rw [← hfk] at c1 c2 hFk
      have HF2 : Hid (fk = F k) := hfk
      clear hca hfk
      have k0 : (0 : Int) ≤ (k : Int) := by omega
      have k1 : (k : Int) < (q : Int) := by omega
      have f0 : (0 : Int) ≤ (fk : Int) := by omega
      have f1 : (fk : Int) < (n : Int) := by omega
      go_wp2_with (at_builtin; refine wpList_append_own _ rfl _ _ 60 rfl w.heap.size 67 i0 (.map none) 1 8 (by kernel_rfl) HI.out.1 HI.out.2.1 HI.out.2.2.1 HI.out.2.2.2 rfl (by decide) u5 k (picksM Y F k) rfl (HO.out.1.alloc _) ⟨wr.heap.size, 0, none⟩ 1 1 [.map (Y fk)] rfl rfl (new_cells _ [.map (Y fk)] _) (fun u hu => by simp at hu; subst hu; rfl) (by unfold maxLen; omega) (by omega) (by simp; omega) ?_)
      intro v' w1 ho hg _
      have HX : Hid (w1.ownsRow w.heap.size 67 1 v' (k + 1) (picksM Y F (k + 1)) ∧ Below w.heap.size w w1) := by
        rw [picksM_succ, ← HF2.out]
        exact ⟨ho, (HO.out.2.alloc hsz _).grown hg (by simp; omega) (fun b e => (HO.out.1.lt b e).1)⟩
      clear ho hg HO c1 c2
      go_wp2
      go_roundw
      case rel => exact ⟨k + 1, by omega, by go_num, HX.out⟩
      case measure => simp [intOf]; omega
    · have e : k = q := by omega
      subst e
      have l1 : ¬ (k : Int) < (k : Int) := by omega
      go_wp2
      go_ret
      exact ⟨_, rfl, HO.out⟩
set_option maxHeartbeats 400000 in
theorem lastM_any (gt n ct : Nat) (y : Option Nat) (w : World) (h : w.cell? ⟨gt, n, none⟩ = some (.map y)) (hn : n ≤ 1000) : Calls Try.prog 33 #[.slice (some ⟨gt, 0, none⟩) (n + 1) ct] w fun e w' => e = .returned (.map y) ∧ w' = w := by
  have hw : IntKind.i64.wrap (((n + 1 : Nat) : Int) - 1) = (n : Int) := by rw [IntKind.wrap_i64]; omega
  have hw2 : IntKind.i64.wrap ((n : Int) + 1 - 1) = (n : Int) := by rw [IntKind.wrap_i64]; omega
  go_enter Try.func33, Try.ntmps33
  go_wp2
  go_ret
  exact ⟨rfl, rfl⟩
end Go.Proofs.Ythcclkeeekppmaa
