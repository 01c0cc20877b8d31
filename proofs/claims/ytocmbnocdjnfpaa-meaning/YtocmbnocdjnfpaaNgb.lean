import Derived.Test.YtocmbnocdjnfpaaNg8
import Derived.Test.YtocmbnocdjnfpaaNg9
import Derived.Test.YtocmbnocdjnfpaaNga
import Derived.Test.YtocmbnocdjnfpaaPpN0
import Derived.Test.YtocmbnocdjnfpaaPaL
import Derived.Test.YtocmbnocdjnfpaaPaV
namespace Go.Proofs.Ytocmbnocdjnfpaa
open Go.RowKit Go.Deep
set_option linter.unusedVariables false
set_option maxRecDepth 100000

theorem kids_uniq {A : Nat → Nat} {b o c n j r r' : Nat} {ks ks' : List Value} (h : KidsOf A b o c n j r ks) (h' : KidsOf A b o c n j r' ks') : ks' = ks := by
  rcases h with ⟨h0, _, rfl⟩ | ⟨h1, h2, rfl⟩ | ⟨h1, _, s, h2, h3, rfl⟩ <;> rcases h' with ⟨g0, _, rfl⟩ | ⟨g1, g2, rfl⟩ | ⟨g1, _, s', g2, g3, rfl⟩ <;> first | (exfalso; omega) | rfl | skip
  · rw [h2.uniq g2]
  · rw [h2.uniq g2]
theorem kids_ex {A : Nat → Nat} (b o c m : Nat) (h : Begins A (m + 1) 0) (ha : A m ≤ 2) : ∃ r ks, KidsOf A b o c (m + 1) (A m) r ks := by
  rcases kids_math (by omega) h (by exact ha) with ⟨e, _⟩ | ⟨e, q⟩ | ⟨e, s, _, q1, q2⟩
  · rw [Nat.add_sub_cancel] at e
    exact ⟨m, [], .inl ⟨e, rfl, rfl⟩⟩
  · rw [Nat.add_sub_cancel] at e
    exact ⟨0, _, .inr (.inl ⟨e, q, rfl⟩)⟩
  · rw [Nat.add_sub_cancel] at e
    exact ⟨0, _, .inr (.inr ⟨e, rfl, s, q1, q2, rfl⟩)⟩
theorem kids_two {A : Nat → Nat} {b o c n r : Nat} {b0 b1 : Option Addr} {n0 n1 c0 c1 : Nat} (h : KidsOf A b o c n 2 r [.slice b0 n0 c0, .slice b1 n1 c1]) : n0 + n1 = n - 1 := by
  rcases h with ⟨h0, _, _⟩ | ⟨h1, h2, _⟩ | ⟨h1, _, s, h2, h3, h4⟩
  · omega
  · omega
  · injection h4 with e1 e2
    injection e2 with e2 _
    injection e1 with _ e1 _
    injection e2 with _ e2 _
    have := h2.1
    omega
theorem len_two {ks : List Value} (h : ks.length = 2) : ∃ a b, ks = [a, b] := by
  match ks, h with
  | [a, b], _ => exact ⟨a, b, rfl⟩
theorem RetM.congr {w w' : World} {m m' : Nat} {P P' : ByteArray → Prop} {e : Ending} (h : RetM w m P e w') (hm : m ≤ m') (hP : ∀ x, P x ↔ P' x) : RetM w m' P' e w' := by
  obtain ⟨v, rfl, hl, hb⟩ := h.lst
  exact (hl.congr hP hm).ret hb
set_option maxHeartbeats 2000000 in
theorem l6Mean_any {N : Nat} {I : Nat → Int} {X R : Nat → ByteArray} (hv : GdN N I X R) (fa : Option Addr) (fc : Nat) (fs : List Fc) (h3 : fs.length ≤ 300) : ∀ (f b o base m c : Nat) (bd : Bool) (g : ByteArray) (w : World), RdN w (some ⟨b, o, none⟩) (m + 1) (fun i => I (base + i)) (fun i => X (base + i)) (fun i => R (base + i)) → RdF w fa fs → m + 1 ≤ f → f ≤ 100 → m + 1 ≤ c → c ≤ 9223372036854775807 → base + m < N → Begins (fun i => arOf (I (base + i))) (m + 1) 0 →
    Calls Try.prog 61 #[.slice (some ⟨b, o, none⟩) (m + 1) c, .slice fa fs.length fc, .bool bd, .string g] w (RetM w (600 * (m + 1)) (MS I X R fs (base + m) bd g))
  | 0, b, o, base, m, c, bd, g, w, _, _, hf, _, _, _, _, _ => absurd hf (by omega)
  | f + 1, b, o, base, m, c, bd, g, w, hR, hF, hf, hf2, hc, hcm, hN, hb => by
    have IH := l6Mean_any hv fa fc fs h3 f
    obtain ⟨r, ks, hko⟩ := kids_ex b o c m hb (arOf_le _)
    have hkd : ∀ W, Below w.heap.size w W → Calls Try.prog 77 #[.slice (some ⟨b, o, none⟩) (m + 1) c] W fun e w' => ∃ go cpo, e = .returned (.slice (some ⟨go, 0, none⟩) ks.length cpo) ∧ (∀ i x, ks[i]? = some x → w'.cell? ⟨go, i, none⟩ = some x) ∧ Below W.heap.size W w' := fun W hW => by
      refine (l6Kids_any b o m c (fun i => I (base + i)) (fun i => X (base + i)) (fun i => R (base + i)) W (hR.below hW) (by omega) hc hcm hb).mono ?_
      rintro e w' ⟨v, r', ks', rfl, hko', hka, hb2⟩
      obtain ⟨go, cpo, rfl, hks⟩ := hka
      have e := kids_uniq hko hko'
      subst e
      exact ⟨go, cpo, rfl, hks, hb2⟩
    have hM : MnA w b o (m + 1) c (I (base + m)) (X (base + m)) (R (base + m)) ks fa fs.length fc fs := ⟨l6Root_any b o m c _ _ _ w hR (by omega), hkd, hF, rfl, h3⟩
    have hkt := kids_text hko hR hc hb
    have hlen := hko.len
    have hK : ∀ i, i < arOf (I (base + m)) → ∃ ad n' c', ks[i]? = some (.slice ad (n' + 1) c') ∧ n' + 1 ≤ m ∧ opf (arI I) (base + m) i < base + m ∧ KidM w (.slice ad (n' + 1) c') fa fs.length fc (600 * (n' + 1)) (fun bd g => MS I X R fs (opf (arI I) (base + m) i) bd g) := fun i hi => by
      obtain ⟨o', n', c', base', q1, q2, q3, q4, q5, q6, q7, q8⟩ := hkt i hi
      refine ⟨_, n', c', q1, q4, by omega, fun W bd g hW => ?_⟩
      rw [← q7]
      exact IH b o' base' n' c' bd g W (q2.below hW) (hF.below hW) (by omega) (by omega) q5 (by omega) (by omega) q3
    have hk9 := (hv (base + m) hN).1
    have hEq := MS_eq (I := I) (X := X) (R := R) (fs := fs) (i := base + m) hk9 (fun q => by
      obtain ⟨_, _, _, _, _, q2, _⟩ := hK 0 (by omega)
      exact q2) (fun q => by
      obtain ⟨_, _, _, _, _, q2, _⟩ := hK 1 (by omega)
      exact q2) bd g
    clear hkt hkd IH
    obtain ⟨k, hk⟩ : ∃ k, k = I (base + m) := ⟨_, rfl⟩
    rw [← hk] at hM hK hk9 hEq hlen hko
    clear hk
    have h9 : k = 1 ∨ k = 2 ∨ k = 3 ∨ k = 4 ∨ k = 5 ∨ k = 6 ∨ k = 7 ∨ k = 8 ∨ k = 9 := by omega
    rcases h9 with rfl | rfl | rfl | rfl | rfl | rfl | rfl | rfl | rfl
    · obtain rfl : ks = [] := List.length_eq_zero_iff.1 hlen
      refine (mean_1 b o (m + 1) c _ _ fa fs.length fc fs bd g w hM).mono fun e w' hr => hr.congr (by omega) (fun x => ?_)
      rw [hEq]
      exact nodeM_congr (by omega) (fun q => absurd q (by decide)) (fun q => absurd q (by decide)) x
    · obtain rfl : ks = [] := List.length_eq_zero_iff.1 hlen
      refine (mean_2 b o (m + 1) c _ _ fa fs.length fc fs bd g w hM).mono fun e w' hr => hr.congr (by omega) (fun x => ?_)
      rw [hEq]
      exact nodeM_congr (by omega) (fun q => absurd q (by decide)) (fun q => absurd q (by decide)) x
    · obtain ⟨ad, n', c', q1, q2, q3, q4⟩ := hK 0 (by decide)
      obtain ⟨v0, rfl⟩ := List.length_eq_one_iff.1 hlen
      injection q1 with q1
      subst q1
      refine (mean_3 b o (m + 1) c _ _ _ fa fs.length fc fs _ _ bd g w hM q4 (by omega)).mono fun e w' hr => hr.congr (by omega) (fun x => ?_)
      rw [hEq]
      exact nodeM_congr (by omega) (fun _ x => Iff.rfl) (fun q => absurd q (by decide)) x
    · obtain ⟨ad, n', c', q1, q2, q3, q4⟩ := hK 0 (by decide)
      obtain ⟨v0, rfl⟩ := List.length_eq_one_iff.1 hlen
      injection q1 with q1
      subst q1
      refine (mean_4 b o (m + 1) c _ _ _ fa fs.length fc fs _ _ bd g w hM q4 (by omega)).mono fun e w' hr => hr.congr (by omega) (fun x => ?_)
      rw [hEq]
      exact nodeM_congr (by omega) (fun _ x => Iff.rfl) (fun q => absurd q (by decide)) x
    · obtain ⟨ad, n', c', q1, q2, q3, q4⟩ := hK 0 (by decide)
      obtain ⟨v0, rfl⟩ := List.length_eq_one_iff.1 hlen
      injection q1 with q1
      subst q1
      refine (mean_5 b o (m + 1) c _ _ _ fa fs.length fc fs _ _ bd g w hM q4 (by omega)).mono fun e w' hr => hr.congr (by omega) (fun x => ?_)
      rw [hEq]
      exact nodeM_congr (by omega) (fun _ x => Iff.rfl) (fun q => absurd q (by decide)) x
    · obtain ⟨ad, n', c', q1, q2, q3, q4⟩ := hK 0 (by decide)
      obtain ⟨ad1, n1, c1, p1, p2, p3, p4⟩ := hK 1 (by decide)
      obtain ⟨v0, v1, rfl⟩ := len_two hlen
      injection q1 with q1
      subst q1
      injection p1 with p1
      subst p1
      have hsum := kids_two hko
      refine (mean_6 b o (m + 1) c _ _ _ _ fa fs.length fc fs _ _ _ _ bd g w hM q4 p4 (by omega) (by omega)).mono fun e w' hr => hr.congr (by omega) (fun x => ?_)
      rw [hEq]
      exact nodeM_congr (by omega) (fun _ x => Iff.rfl) (fun _ x => Iff.rfl) x
    · obtain ⟨ad, n', c', q1, q2, q3, q4⟩ := hK 0 (by decide)
      obtain ⟨ad1, n1, c1, p1, p2, p3, p4⟩ := hK 1 (by decide)
      obtain ⟨v0, v1, rfl⟩ := len_two hlen
      injection q1 with q1
      subst q1
      injection p1 with p1
      subst p1
      have hsum := kids_two hko
      refine (mean_7 b o (m + 1) c _ _ _ _ fa fs.length fc fs _ _ _ _ bd g w hM q4 p4 (by omega) (by omega)).mono fun e w' hr => hr.congr (by omega) (fun x => ?_)
      rw [hEq]
      exact nodeM_congr (by omega) (fun _ x => Iff.rfl) (fun _ x => Iff.rfl) x
    · obtain ⟨ad, n', c', q1, q2, q3, q4⟩ := hK 0 (by decide)
      obtain ⟨ad1, n1, c1, p1, p2, p3, p4⟩ := hK 1 (by decide)
      obtain ⟨v0, v1, rfl⟩ := len_two hlen
      injection q1 with q1
      subst q1
      injection p1 with p1
      subst p1
      have hsum := kids_two hko
      refine (mean_8 b o (m + 1) c _ _ _ _ fa fs.length fc fs _ _ _ _ bd g w hM q4 p4 (by omega) (by omega)).mono fun e w' hr => hr.congr (by omega) (fun x => ?_)
      rw [hEq]
      exact nodeM_congr (by omega) (fun _ x => Iff.rfl) (fun _ x => Iff.rfl) x
    · obtain ⟨ad, n', c', q1, q2, q3, q4⟩ := hK 0 (by decide)
      obtain ⟨v0, rfl⟩ := List.length_eq_one_iff.1 hlen
      injection q1 with q1
      subst q1
      refine (mean_9 b o (m + 1) c _ _ _ fa fs.length fc fs _ _ bd g w hM q4).mono fun e w' hr => hr.congr (by omega) (fun x => ?_)
      rw [hEq]
      exact nodeM_congr (by omega) (fun _ x => Iff.rfl) (fun q => absurd q (by decide)) x
end Go.Proofs.Ytocmbnocdjnfpaa

namespace Go.Proofs.Ytocmbnocdjnfpaa
open Go.RowKit Go.Deep
set_option linter.unusedVariables false
set_option maxRecDepth 100000

/-- What a path means over facts: nothing if it isn't valid or there are too many. -/
def MnP (n : Nat) (I : Nat → Int) (X R : Nat → ByteArray) (fs : List Fc) (x : ByteArray) : Prop := VPth n I X R ∧ fs.length ≤ 300 ∧ MS I X R fs (n - 1) false { data := #[] } x
set_option maxHeartbeats 2000000 in
theorem specMe (a : Option Addr) (n c : Nat) (I : Nat → Int) (X R : Nat → ByteArray) (fa : Option Addr) (fc : Nat) (fs : List Fc) (w : World) (h : RdN w a n I X R) (hF : RdF w fa fs) (hn : n ≤ 1048576) (hc : n ≤ c) (hcm : c ≤ 9223372036854775807) (hl : fs.length ≤ 1048576) :
    Calls Try.prog 30 #[.agg #[.slice a n c], .slice fa fs.length fc] w (RetM w 60000 (MnP n I X R fs)) := by
  have HV : Hid (∀ W, Below w.heap.size w W → Calls Try.prog 10 #[.agg #[.slice a n c]] W (AnsN W (VPth n I X R))) := fun W hW => specVP a n c I X R W (h.below hW) hn hc hcm
  have HR : Hid (RdN w a n I X R ∧ RdF w fa fs) := ⟨h, hF⟩
  have HB0 : Hid (Below w.heap.size w (w.alloc (.cells #[.slice a n c] 29))) := below_alloc _ _
  obtain ⟨fn, hfn⟩ : ∃ fn, fn = fs.length := ⟨_, rfl⟩
  rw [← hfn] at hl ⊢
  have HN : Hid (fn = fs.length) := hfn
  clear h hF hfn
  go_enter Try.func30, Try.ntmps30
  go_wp2_with fail
  refine (HV.out _ HB0.out).mono ?_
  rintro e w1 ⟨bv1, rfl, hbv, hb1⟩
  have HB1 : Hid (Below w.heap.size w w1) := HB0.out.trans (hb1.mono HB0.out.size)
  have hbx : w1.cell? ⟨w.heap.size, 0, none⟩ = some (.slice a n c) := by
    rw [hb1.cell (by simp)]
    simp
  have hlt : w.heap.size < w1.heap.size := by have := hb1.size; simp at this; omega
  clear hb1 HV HB0
  have HNo : Hid (¬ (VPth n I X R ∧ fn ≤ 300) → RetM w 60000 (MnP n I X R fs) (.returned (.slice (some ⟨w1.heap.size, 0, none⟩) 0 0)) (w1.alloc (.cells #[] 9))) := fun q => by
    refine ((LstA.nil w1 (MnP n I X R fs) (fun x hx => q ⟨hx.1, by rw [HN.out]; exact hx.2.1⟩)).congr (fun _ => Iff.rfl) (by omega)).ret (HB1.out.alloc HB1.out.size _)
  cases bv1 with
  | false =>
    have HF := HNo.out (fun q => by have := hbv.2 q.1; cases this)
    have HF2 : Hid (RetM w 60000 (MnP n I X R fs) (.returned (.slice (some ⟨w1.heap.size, 0, none⟩) 0 0)) (w1.alloc (.cells #[] 9))) := HF
    clear hbv HNo HF
    go_wp2
    go_ret
    exact HF2.out
  | true =>
    have hv : VPth n I X R := hbv.1 rfl
    by_cases h3 : fn ≤ 300
    · obtain ⟨m, hm⟩ : ∃ m, n = m + 1 := ⟨n - 1, by have := hv.1; omega⟩
      subst hm
      have i1 : ¬ (300 : Int) < (fn : Int) := by omega
      obtain ⟨b, o, ea⟩ : ∃ b o, a = some ⟨b, o, none⟩ := by
        rcases HR.out.1 with h0 | ⟨b, o, e, _⟩
        · omega
        · exact ⟨b, o, e⟩
      subst ea
      have HBq : Hid (Below w.heap.size w (w1.alloc (.cells #[] 9))) := HB1.out.alloc HB1.out.size _
      have HS : Hid (Calls Try.prog 61 #[.slice (some ⟨b, o, none⟩) (m + 1) c, .slice fa fn fc, .bool false, .string { data := #[] }] (w1.alloc (.cells #[] 9)) (RetM (w1.alloc (.cells #[] 9)) (600 * (m + 1)) (MS I X R fs m false { data := #[] }))) := by
        have q := l6Mean_any hv.gd fa fc fs (by rw [← HN.out]; exact h3) (m + 1) b o 0 m c false { data := #[] } (w1.alloc (.cells #[] 9)) (by simpa only [Nat.zero_add] using HR.out.1.below HBq.out) (HR.out.2.below HBq.out) (Nat.le_refl _) (by have := hv.1; omega) hc hcm (by omega) (by simpa only [Nat.zero_add] using hv.2.2.1)
        rw [Nat.zero_add, ← HN.out] at q
        exact q
      have HVh : Hid (VPth (m + 1) I X R ∧ m + 1 ≤ 100) := ⟨hv, hv.1.2⟩
      clear hbv hv HNo
      go_wp2_with fail
      refine HS.out.mono ?_
      intro e w2 hr
      obtain ⟨v2, rfl, hl2, hb2⟩ := hr.lst
      obtain ⟨a2, c2, L, rfl, hr2, hA2, hm2, hn2, hc2, hc3⟩ := hl2
      have HB2 : Hid (Below (w1.alloc (.cells #[] 9)).heap.size (w1.alloc (.cells #[] 9)) w2) := hb2
      have HL : Hid (RdG w2 a2 L ∧ Asc L ∧ (∀ x, x ∈ L ↔ MS I X R fs m false { data := #[] } x) ∧ L.length ≤ 60000) := ⟨hr2, hA2, hm2, by have := HVh.out.2; omega⟩
      have HO : Hid (w2.ownsRow w1.heap.size 9 1 (.slice (some ⟨w1.heap.size, 0, none⟩) 0 0) 0 []) := own_below (own_empty w1 9 w1.heap.size 1 (Nat.le_refl _)) hb2
      have hz2 : w1.heap.size ≤ w2.heap.size := by have := hb2.size; simp at this; omega
      clear hr hr2 hA2 hm2 hn2 hb2 hc2 hc3 HS
      go_wp2_with (at_builtin; refine wpList_append_strs rfl _ _ rfl w1.heap.size (.slice (some ⟨w1.heap.size, 0, none⟩) 0 0) 0 [] rfl HO.out a2 L.length c2 L rfl rfl HL.out.1 (by have := HL.out.2.2.2; omega) hz2 ?_)
      intro v3 w3 ho3 hg3 _
      have HF : Hid (RetM w 60000 (MnP (m + 1) I X R fs) (.returned v3) w3) := by
        have ho4 : w3.ownsRow w1.heap.size 9 1 v3 L.length (strL L) := by simpa using ho3
        have hbb : Below w1.heap.size w1 w3 := ((below_alloc w1 _).trans (HB2.out.mono (by simp))).grown hg3 hz2 (fun g e => by simp [Value.ownBlock] at e; omega)
        refine (LstA.own ho4 HL.out.2.1 (fun x => ?_) HL.out.2.2.2).ret (HB1.out.trans (hbb.mono HB1.out.size))
        rw [HL.out.2.2.1]
        unfold MnP
        rw [Nat.add_sub_cancel, ← HN.out]
        exact ⟨fun q => ⟨HVh.out.1, h3, q⟩, fun q => q.2.2⟩
      clear ho3 hg3 HL HO
      go_wp2
      go_ret
      exact HF.out
    · have i1 : (300 : Int) < (fn : Int) := by omega
      have HF2 : Hid (RetM w 60000 (MnP n I X R fs) (.returned (.slice (some ⟨w1.heap.size, 0, none⟩) 0 0)) (w1.alloc (.cells #[] 9))) := HNo.out (fun q => h3 q.2)
      clear hbv hv HNo
      go_wp2
      go_ret
      exact HF2.out
end Go.Proofs.Ytocmbnocdjnfpaa
