import Derived.Test.YthcclkeeekppmaaPaL
namespace Go.Proofs.Ythcclkeeekppmaa
open Go.RowKit Go.Deep
set_option linter.unusedVariables false
set_option maxRecDepth 100000

/-- Where the subtree that ends ahead of e begins. -/
def bgGo (A : Nat → Nat) (e : Nat) : Nat → Nat
  | 0 => 0
  | j + 1 => if need A e j = 0 then j else bgGo A e j
def bgF (A : Nat → Nat) (e : Nat) : Nat := bgGo A e e
theorem bgGo_of {A : Nat → Nat} {e s : Nat} (h : Begins A e s) : ∀ j, s < j → j ≤ e → bgGo A e j = s
  | 0, h0, _ => absurd h0 (Nat.not_lt_zero _)
  | j + 1, h0, h1 => by
    unfold bgGo
    by_cases e1 : j = s
    · subst e1; rw [if_pos h.2.1]
    · have := h.2.2 j (by omega) (by omega)
      rw [if_neg (by omega)]
      exact bgGo_of h j (by omega) (by omega)
theorem bgF_of {A : Nat → Nat} {e s : Nat} (h : Begins A e s) : bgF A e = s := bgGo_of h e h.1 (Nat.le_refl _)

theorem dep_shift (A : Nat → Nat) (s : Nat) : ∀ j, dep (fun i => A (s + i)) j = dep A (s + j) - dep A s
  | 0 => by show (0 : Int) = dep A s - dep A s; omega
  | j + 1 => by
    rw [dep_succ, dep_shift A s j, show s + (j + 1) = (s + j) + 1 by omega, dep_succ]
    omega
theorem Begins.shift {A : Nat → Nat} {e s : Nat} (h : Begins A e s) : Begins (fun i => A (s + i)) (e - s) 0 := by
  obtain ⟨h1, h2, h3⟩ := h
  unfold need at h2 h3
  have hse : s + (e - s) = e := by omega
  refine ⟨by omega, ?_, fun j h4 h5 => ?_⟩
  · unfold need
    rw [dep_shift, dep_shift, hse, Nat.add_zero]
    omega
  · unfold need
    rw [dep_shift, dep_shift, hse]
    have := h3 (s + j) (by omega) (by omega)
    omega

/-- A tree's height, f being at least its length. -/
def htF : Nat → (Nat → Nat) → Nat → Nat
  | 0, _, _ => 0
  | f + 1, A, n => if A (n - 1) = 0 then 1 else if A (n - 1) = 1 then 1 + htF f A (n - 1) else 1 + max (htF f A (bgF A (n - 1))) (htF f (fun i => A (bgF A (n - 1) + i)) (n - 1 - bgF A (n - 1)))

theorem htF_le : ∀ f A n, htF f A n ≤ f
  | 0, _, _ => Nat.le_refl _
  | f + 1, A, n => by
    unfold htF
    have h1 := htF_le f A (n - 1)
    have h2 := htF_le f A (bgF A (n - 1))
    have h3 := htF_le f (fun i => A (bgF A (n - 1) + i)) (n - 1 - bgF A (n - 1))
    split
    · omega
    · split
      · omega
      · omega

theorem RdN.shift {w : World} {b o n : Nat} {I : Nat → Int} {X R : Nat → ByteArray} (h : RdN w (some ⟨b, o, none⟩) n I X R) (s : Nat) : RdN w (some ⟨b, o + s * 3, none⟩) (n - s) (fun i => I (s + i)) (fun i => X (s + i)) (fun i => R (s + i)) := by
  rcases h with h | ⟨b', o', e, hc⟩
  · exact Or.inl (by omega)
  · injection e with e
    injection e with e1 e2
    subst e1 e2
    refine Or.inr ⟨b, o + s * 3, rfl, fun i hi => ?_⟩
    have := hc (s + i) (by omega)
    rw [show o + (s + i) * 3 = o + s * 3 + i * 3 by omega] at this
    exact this

/-- The greatest of the first i. -/
def mxF (kh : Nat → Nat) : Nat → Nat
  | 0 => 0
  | i + 1 => max (mxF kh i) (kh i)

/-- What the walk is told of the root's operands. -/
theorem kids_info {A : Nat → Nat} {b o c m q r : Nat} {ks : List Value} {I : Nat → Int} {X R : Nat → ByteArray} {w : World} (hA : A = fun i => arOf (I i)) (hq : q = A m) (h : KidsOf A b o c (m + 1) q r ks) (hR : RdN w (some ⟨b, o, none⟩) (m + 1) I X R) (hc : m + 1 ≤ c) (hb : Begins A (m + 1) 0) (f : Nat) :
    ∃ kh : Nat → Nat, htF (f + 1) A (m + 1) = 1 + mxF kh q ∧ (∀ i, kh i ≤ f) ∧ ∀ i, i < q → ∃ o' n' c' I' X' R', ks[i]? = some (.slice (some ⟨b, o', none⟩) (n' + 1) c') ∧ RdN w (some ⟨b, o', none⟩) (n' + 1) I' X' R' ∧ Begins (fun i => arOf (I' i)) (n' + 1) 0 ∧ n' + 1 ≤ m ∧ n' + 1 ≤ c' ∧ c' ≤ c ∧ kh i = htF f (fun i => arOf (I' i)) (n' + 1) := by
  have hh : htF (f + 1) A (m + 1) = if A m = 0 then 1 else if A m = 1 then 1 + htF f A m else 1 + max (htF f A (bgF A m)) (htF f (fun i => A (bgF A m + i)) (m - bgF A m)) := by
    show (if A (m + 1 - 1) = 0 then 1 else _) = _
    rw [Nat.add_sub_cancel]
  rw [hh, ← hq]
  rcases h with ⟨h0, _, _⟩ | ⟨h1, h2, h3⟩ | ⟨h1, _, s, h2, h3, h4⟩
  · refine ⟨fun _ => 0, ?_, fun _ => Nat.zero_le _, fun i hi => absurd hi (by omega)⟩
    rw [if_pos h0, h0]
    rfl
  · rw [Nat.add_sub_cancel] at h2 h3
    have hr0 : r = 0 := by
      rcases kids_math (by omega) hb (by rw [hA]; exact arOf_le _) with ⟨e, _⟩ | ⟨_, e⟩ | ⟨e, _⟩
      · rw [Nat.add_sub_cancel] at e; omega
      · rw [Nat.add_sub_cancel] at e; exact h2.uniq e
      · rw [Nat.add_sub_cancel] at e; omega
    subst hr0
    refine ⟨fun _ => htF f A m, ?_, fun _ => htF_le _ _ _, fun i hi => ?_⟩
    · rw [if_neg (by omega), if_pos h1, h1]
      show _ = 1 + max 0 (htF f A m)
      rw [Nat.zero_max]
    · have hi0 : i = 0 := by omega
      subst hi0
      have hm := h2.1
      refine ⟨o, m - 1, c, I, X, R, ?_, hR.take (by omega), ?_, by omega, by omega, Nat.le_refl _, ?_⟩
      · rw [h3, show m - 1 + 1 = m by omega]; simp
      · rw [show m - 1 + 1 = m by omega, ← hA]; exact h2
      · rw [show m - 1 + 1 = m by omega, ← hA]
  · rw [Nat.add_sub_cancel] at h2 h4
    have hs := h2.1
    have hs0 := h3.1
    rw [bgF_of h2]
    refine ⟨fun i => if i = 0 then htF f A s else htF f (fun i => A (s + i)) (m - s), ?_, fun i => ?_, fun i hi => ?_⟩
    · rw [if_neg (by omega), if_neg (by omega), h1]
      show 1 + _ = 1 + max (max 0 _) _
      simp
    · dsimp only
      split <;> exact htF_le _ _ _
    · have hi2 : i = 0 ∨ i = 1 := by omega
      rcases hi2 with rfl | rfl
      · refine ⟨o, s - 1, c, I, X, R, ?_, hR.take (by omega), ?_, by omega, by omega, Nat.le_refl _, ?_⟩
        · rw [h4, show s - 1 + 1 = s by omega]; rfl
        · rw [show s - 1 + 1 = s by omega, ← hA]; exact h3
        · rw [show s - 1 + 1 = s by omega, ← hA]; rfl
      · refine ⟨o + s * 3, m - s - 1, c - s, fun i => I (s + i), fun i => X (s + i), fun i => R (s + i), ?_, ?_, ?_, by omega, by omega, by omega, ?_⟩
        · rw [h4, show m - s - 1 + 1 = m - s by omega]; rfl
        · rw [show m - s - 1 + 1 = m - s by omega]
          exact (hR.shift s).take (by omega)
        · rw [show m - s - 1 + 1 = m - s by omega]
          have := h2.shift
          rw [hA] at this
          exact this
        · rw [show m - s - 1 + 1 = m - s by omega, hA]
          rfl

set_option maxHeartbeats 2000000 in
theorem l6Height_any : ∀ (f : Nat) (b o m c : Nat) (I : Nat → Int) (X R : Nat → ByteArray) (w : World), RdN w (some ⟨b, o, none⟩) (m + 1) I X R → m + 1 ≤ f → f ≤ 1048576 → m + 1 ≤ c → c ≤ 9223372036854775807 → Begins (fun i => arOf (I i)) (m + 1) 0 →
    Calls Try.prog 27 #[.slice (some ⟨b, o, none⟩) (m + 1) c] w fun e w' => e = .returned (.int .i64 (htF f (fun i => arOf (I i)) (m + 1))) ∧ Below w.heap.size w w'
  | 0, b, o, m, c, I, X, R, w, _, hf, _, _, _, _ => absurd hf (by omega)
  | f + 1, b, o, m, c, I, X, R, w, hR, hf, hf2, hc, hcm, hb => by
    have IH : Hid (∀ (b o m c : Nat) (I : Nat → Int) (X R : Nat → ByteArray) (w : World), RdN w (some ⟨b, o, none⟩) (m + 1) I X R → m + 1 ≤ f → f ≤ 1048576 → m + 1 ≤ c → c ≤ 9223372036854775807 → Begins (fun i => arOf (I i)) (m + 1) 0 →
      Calls Try.prog 27 #[.slice (some ⟨b, o, none⟩) (m + 1) c] w fun e w' => e = .returned (.int .i64 (htF f (fun i => arOf (I i)) (m + 1))) ∧ Below w.heap.size w w') := l6Height_any f
    obtain ⟨A, hA⟩ : ∃ A : Nat → Nat, A = fun i => arOf (I i) := ⟨_, rfl⟩
    have HK : Hid (Calls Try.prog 57 #[.slice (some ⟨b, o, none⟩) (m + 1) c] w (KidsRet (fun i => arOf (I i)) b o c m (arOf (I m)) w)) := l6Kids_any b o m c I X R w hR (by omega) hc hcm hb
    rw [← hA] at HK hb ⊢
    have HR : Hid (RdN w (some ⟨b, o, none⟩) (m + 1) I X R) := hR
    have HB : Hid (Begins A (m + 1) 0) := hb
    have HA : Hid (A = fun i => arOf (I i)) := hA
    obtain ⟨H, hH⟩ : ∃ H, H = htF (f + 1) A (m + 1) := ⟨_, rfl⟩
    rw [← hH]
    have HHH : Hid (H = htF (f + 1) A (m + 1)) := hH
    clear hR hb hA hH
    go_enter Try.func27, Try.ntmps27
    go_wp2_with fail
    refine HK.out.mono ?_
    rintro e w1 ⟨v, r, ks, rfl, hko, hka, hb1⟩
    obtain ⟨go, cpo, rfl, hks⟩ := hka
    have hlen := hko.len
    obtain ⟨kh, hk1, hk2, hk3⟩ := kids_info HA.out (by rw [HA.out]) hko HR.out hc HB.out f
    have HKH : Hid (H = 1 + mxF kh (arOf (I m)) ∧ (∀ i, kh i ≤ f) ∧ ∀ i, i < arOf (I m) → ∃ o' n' c' I' X' R', ks[i]? = some (.slice (some ⟨b, o', none⟩) (n' + 1) c') ∧ RdN w (some ⟨b, o', none⟩) (n' + 1) I' X' R' ∧ Begins (fun i => arOf (I' i)) (n' + 1) 0 ∧ n' + 1 ≤ m ∧ n' + 1 ≤ c' ∧ c' ≤ c ∧ kh i = htF f (fun i => arOf (I' i)) (n' + 1)) := ⟨HHH.out.trans hk1, hk2, hk3⟩
    have HKS : Hid (∀ i x, ks[i]? = some x → w1.cell? ⟨go, i, none⟩ = some x) := hks
    have HB1 : Hid (Below w.heap.size w w1) := hb1
    obtain ⟨q, hq⟩ : ∃ q, q = arOf (I m) := ⟨_, rfl⟩
    rw [← hq] at HKH hlen
    have hq2 : q ≤ 2 := by rw [hq]; exact arOf_le _
    rw [hlen]
    have z1 := hb1.size
    clear hko hks hb1 hk1 hk2 hk3 HK hlen hq
    go_wp2
    go_loopw [4, 5, 6] (fun mo i _ wr => ∃ k : Nat, k ≤ q ∧ i = .int .i64 k ∧ mo = .int .i64 (mxF kh k) ∧ Below w1.heap.size w1 wr) (fun _ i _ _ => q - (intOf i).toNat)
    case atStart => exact ⟨0, Nat.zero_le _, rfl, rfl, Below.refl _ _⟩
    case round =>
      obtain ⟨k, hk, rfl, rfl, hbr⟩ := hrel
      have HBR : Hid (Below w1.heap.size w1 wr) := hbr
      have hmx : mxF kh k ≤ f := by
        have h0 : ∀ k, mxF kh k ≤ f := by
          intro k
          induction k with
          | zero => exact Nat.zero_le _
          | succ k ih =>
            have := HKH.out.2.1 k
            show max (mxF kh k) (kh k) ≤ f
            omega
        exact h0 k
      clear hbr
      by_cases hlt : k < q
      · obtain ⟨o', n', c', I', X', R', h1, h2, h3, h4, h5, h6, h7⟩ := HKH.out.2.2 k hlt
        have hc1 : wr.cell? ⟨go, k, none⟩ = some (.slice (some ⟨b, o', none⟩) (n' + 1) c') := (HBR.out.cell (p := ⟨go, k, none⟩) (World.block_lt_of_cell? _ _ (HKS.out k _ h1))).trans (HKS.out k _ h1)
        have HC : Hid (Calls Try.prog 27 #[.slice (some ⟨b, o', none⟩) (n' + 1) c'] wr fun e w' => e = .returned (.int .i64 (kh k)) ∧ Below wr.heap.size wr w') := by
          rw [h7]
          exact IH.out b o' n' c' I' X' R' wr ((h2.below HB1.out).below HBR.out) (by omega) (by omega) h5 (by omega) h3
        have hkk : kh k ≤ f := HKH.out.2.1 k
        have ik : (k : Int) < (q : Int) := by omega
        have ik0 : (0 : Int) ≤ (k : Int) := by omega
        clear h1 h2 h3 h4 h5 h6 h7
        go_wp2_with fail
        refine HC.out.mono ?_
        rintro e w2 ⟨rfl, hb2⟩
        have HX : Hid (Below w1.heap.size w1 w2) := HBR.out.trans (hb2.mono HBR.out.size)
        have wk : IntKind.i64.wrap ((k : Int) + 1) = (k : Int) + 1 := by rw [IntKind.wrap_i64]; omega
        have HM : Hid (mxF kh (k + 1) = max (mxF kh k) (kh k)) := rfl
        clear hb2 hc1 HC
        by_cases hgt : mxF kh k < kh k
        · have hgt1 : ((mxF kh k : Nat) : Int) < ((kh k : Nat) : Int) := by omega
          go_wp2
          go_roundw
          case rel => exact ⟨k + 1, by omega, by go_num, by rw [HM.out, Nat.max_eq_right (by omega)], HX.out⟩
          case measure => simp [intOf]; omega
        · have hgt1 : ¬ ((mxF kh k : Nat) : Int) < ((kh k : Nat) : Int) := by omega
          go_wp2
          go_roundw
          case rel => exact ⟨k + 1, by omega, by go_num, by rw [HM.out, Nat.max_eq_left (by omega)], HX.out⟩
          case measure => simp [intOf]; omega
      · have e : k = q := by omega
        subst e
        have wm : IntKind.i64.wrap ((mxF kh k : Nat) + 1 : Int) = ((mxF kh k : Nat) : Int) + 1 := by rw [IntKind.wrap_i64]; omega
        have HE : Hid (((H : Nat) : Int) = ((mxF kh k : Nat) : Int) + 1) := by
          show _ = _
          rw [HKH.out.1]
          omega
        have HZ : Hid (Below w.heap.size w wr) := HB1.out.trans (HBR.out.mono z1)
        go_wp2
        go_ret
        exact ⟨by rw [HE.out]; rfl, HZ.out⟩
end Go.Proofs.Ythcclkeeekppmaa
