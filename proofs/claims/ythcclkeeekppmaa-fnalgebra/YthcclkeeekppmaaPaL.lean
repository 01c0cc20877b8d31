import Derived.Test.YthcclkeeekppmaaPaK
namespace Go.Proofs.Ythcclkeeekppmaa
open Go.RowKit Go.Deep
set_option linter.unusedVariables false
set_option maxRecDepth 100000

theorem KidsOf.len {A : Nat → Nat} {b o c n j r : Nat} {ks : List Value} (h : KidsOf A b o c n j r ks) : ks.length = j := by
  rcases h with ⟨rfl, _, rfl⟩ | ⟨rfl, _, rfl⟩ | ⟨rfl, _, s, _, _, rfl⟩ <;> rfl
theorem KidsOf.one {A : Nat → Nat} {b o c n j r : Nat} {ks : List Value} (h : KidsOf A b o c n j r ks) : ∀ u ∈ ks, u.oneCell' = true := by
  rcases h with ⟨rfl, _, rfl⟩ | ⟨rfl, _, rfl⟩ | ⟨rfl, _, s, _, _, rfl⟩
  · intro u hu
    simp at hu
  · intro u hu
    simp at hu
    subst hu
    rfl
  · intro u hu
    simp at hu
    rcases hu with rfl | rfl
    · rfl
    · rfl
theorem kidsAt_ofRow {w : World} {B k : Nat} {e : TypeId} {v : Value} {ks : List Value} (h : w.ownsRow B e 1 v k ks) (hk : k = ks.length) (h0 : 0 < k) : KidsAt w v ks := by
  rcases h.2 with ⟨_, hk0⟩ | ⟨g, cap, cur, hv, hg, hh, h1, h2, h3, h4⟩
  · omega
  · subst hk
    subst hv
    refine ⟨g, cap, rfl, fun i x hx => ?_⟩
    have hi : i < ks.length := (List.getElem?_eq_some_iff.1 hx).1
    rw [h.cellAt i (by omega), hx]

theorem owns_geN {w : World} {B k : Nat} {e : TypeId} {z : Nat} {v : Value} {xs : List Value} (h : w.ownsRow B e z v k xs) : ∀ g, v.ownBlock = some g → B ≤ g := by
  intro g eg
  rcases h.2 with ⟨hv, _⟩ | ⟨g2, cap, cur, hv, hB, _⟩
  · rw [hv] at eg; simp [Value.ownBlock] at eg
  · rw [hv] at eg
    simp [Value.ownBlock] at eg
    omega
theorem owns_shapeN {w : World} {B : Nat} {e : TypeId} {size : Nat} {v : Value} {n : Nat} {xs : List Value} (h : w.ownsRow B e size v n xs) : ∃ p q, v = .slice p n q := by
  rcases h.2 with ⟨hv, hn⟩ | ⟨g, cap, cur, hv, _⟩
  · subst hn; exact ⟨none, 0, hv⟩
  · exact ⟨_, cap, hv⟩

/-- One operand more. -/
theorem kids_next {A : Nat → Nat} {b o c m q j r : Nat} {ks : List Value} (HM : (q = 0 ∧ m + 1 = 1) ∨ (q = 1 ∧ Begins A m 0) ∨ (q = 2 ∧ ∃ s, 0 < s ∧ Begins A m s ∧ Begins A s 0)) (h : KidsOf A b o c (m + 1) j r ks) (hj : j < q) :
    ∃ s, Begins A r s ∧ r ≤ m ∧ KidsOf A b o c (m + 1) (j + 1) s (.slice (some ⟨b, o + s * 3, none⟩) (r - s) (c - s) :: ks) := by
  rcases h with ⟨rfl, hr, rfl⟩ | ⟨rfl, hr, rfl⟩ | ⟨rfl, _, s, _, _, rfl⟩
  · rw [Nat.add_sub_cancel] at hr
    subst hr
    rcases HM with ⟨h1, _⟩ | ⟨_, h2⟩ | ⟨_, s, _, h2, _⟩
    · omega
    · exact ⟨0, h2, Nat.le_refl _, Or.inr (Or.inl ⟨rfl, by rw [Nat.add_sub_cancel]; exact h2, by rw [Nat.add_sub_cancel]⟩)⟩
    · exact ⟨s, h2, Nat.le_refl _, Or.inr (Or.inl ⟨rfl, by rw [Nat.add_sub_cancel]; exact h2, by rw [Nat.add_sub_cancel]⟩)⟩
  · rw [Nat.add_sub_cancel] at hr
    rcases HM with ⟨h1, _⟩ | ⟨h1, _⟩ | ⟨_, s, _, h2, h3⟩
    · omega
    · omega
    · have e := h2.uniq hr
      subst e
      refine ⟨0, h3, by have := hr.1; omega, Or.inr (Or.inr ⟨rfl, rfl, s, by rw [Nat.add_sub_cancel]; exact h2, h3, ?_⟩)⟩
      simp
  · rcases HM with ⟨h1, _⟩ | ⟨h1, _⟩ | ⟨h1, _⟩ <;> omega

/-- What l6Kids hands back. -/
def KidsRet (A : Nat → Nat) (b o c m q : Nat) (w : World) (e : Ending) (w' : World) : Prop :=
  ∃ v r ks, e = .returned v ∧ KidsOf A b o c (m + 1) q r ks ∧ KidsAt w' v ks ∧ Below w.heap.size w w'

set_option maxHeartbeats 2000000 in
theorem l6Kids_any (b o m c : Nat) (I : Nat → Int) (X R : Nat → ByteArray) (w : World) (h : RdN w (some ⟨b, o, none⟩) (m + 1) I X R) (hn : m ≤ 1048576) (hc : m + 1 ≤ c) (hcm : c ≤ 9223372036854775807) (ht : Begins (fun i => arOf (I i)) (m + 1) 0) :
    Calls Try.prog 57 #[.slice (some ⟨b, o, none⟩) (m + 1) c] w (KidsRet (fun i => arOf (I i)) b o c m (arOf (I m)) w) := by
  obtain ⟨A, hA⟩ : ∃ A : Nat → Nat, A = fun i => arOf (I i) := ⟨_, rfl⟩
  obtain ⟨q, hq⟩ : ∃ q, q = arOf (I m) := ⟨_, rfl⟩
  rw [← hA] at ht
  rw [← hA, ← hq]
  have HM := kids_math (by omega) ht (by rw [hA]; exact arOf_le _)
  rw [Nat.add_sub_cancel, show A m = q by rw [hA, hq]] at HM
  have HMM : Hid ((q = 0 ∧ m + 1 = 1) ∨ (q = 1 ∧ Begins A m 0) ∨ (q = 2 ∧ ∃ s, 0 < s ∧ Begins A m s ∧ Begins A s 0)) := HM
  have HA : Hid (A = fun i => arOf (I i)) := hA
  have HQ : Hid (q = arOf (I m)) := hq
  have HR : Hid (RdN w (some ⟨b, o, none⟩) (m + 1) I X R) := h
  have hq2 : q ≤ 2 := by rw [hq]; exact arOf_le _
  have hcell : w.cell? ⟨b, o + m * 3, none⟩ = some (.int .i64 (I m)) := by
    rcases h with h | ⟨b', o', e, hcc⟩
    · omega
    · injection e with e
      injection e with e1 e2
      subst e1 e2
      exact (hcc m (by omega)).1
  have hcell2 : ∀ O, (w.alloc O).cell? ⟨b, o + m * 3, none⟩ = some (.int .i64 (I m)) := fun O => ((below_alloc w O).cell (p := ⟨b, o + m * 3, none⟩) (World.block_lt_of_cell? _ _ hcell)).trans hcell
  have e1 : IntKind.i64.wrap (((m + 1 : Nat) : Int) - 1) = (m : Int) := by rw [IntKind.wrap_i64]; omega
  have e1' : IntKind.i64.wrap ((m : Int) + 1 - 1) = (m : Int) := by rw [IntKind.wrap_i64]; omega
  have em : IntKind.i64.wrap (m : Int) = (m : Int) := by rw [IntKind.wrap_i64]; omega
  have im : (m : Int) < ((m + 1 : Nat) : Int) := by omega
  have im' : (m : Int) < (m : Int) + 1 := by omega
  have im0 : (0 : Int) ≤ (m : Int) := by omega
  have hsl : ∀ w : World, (Instr.sliceAt 23 (.slice (some ⟨b, o, none⟩) (m + 1) c) none (some (.int .i64 (m : Int))) none).run Try.prog w = .ok (.slice (some ⟨b, o, none⟩) m c) w := runToN b o (m + 1) c m (by omega)
  clear h hA hq ht HM
  go_enter Try.func57, Try.ntmps57
  go_wp2_with fail
  refine (l6Arity_any (I m) _).mono ?_
  rintro e w1 ⟨rfl, hw1⟩
  subst hw1
  rw [← HQ.out]
  clear hcell hcell2
  go_wp2
  go_loopw [3, 4, 5, 6] (fun rest out k _ wr => ∃ (j r : Nat) (ks : List Value), j ≤ q ∧ k = .int .i64 ((q - j : Nat) : Int) ∧ rest = .slice (some ⟨b, o, none⟩) r c ∧ KidsOf A b o c (m + 1) j r ks ∧ KidsAt wr out ks ∧ Below w.heap.size w wr) (fun _ _ k _ _ => (intOf k).toNat)
  case atStart =>
    refine ⟨0, m, [], Nat.zero_le _, by simp, rfl, Or.inl ⟨rfl, by omega, rfl⟩, ⟨_, 0, rfl, fun i x hx => by simp at hx⟩, below_alloc _ _⟩
  case round =>
    obtain ⟨j, r, ks, hj, rfl, rfl, hko, hka, hb⟩ := hrel
    obtain ⟨go, cpo, rfl, hks⟩ := hka
    have HKO : Hid (KidsOf A b o c (m + 1) j r ks) := hko
    have HKS : Hid (∀ i x, ks[i]? = some x → wr.cell? ⟨go, i, none⟩ = some x) := hks
    have HB : Hid (Below w.heap.size w wr) := hb
    have hz := hb.size
    have HLEN : Hid (ks.length = j) := hko.len
    clear hko hks hb
    by_cases hlt : j < q
    · obtain ⟨s, hs, hrm, hnext⟩ := kids_next HMM.out HKO.out hlt
      have HS : Hid (Begins A r s ∧ KidsOf A b o c (m + 1) (j + 1) s (.slice (some ⟨b, o + s * 3, none⟩) (r - s) (c - s) :: ks)) := ⟨hs, hnext⟩
      have hsr : s < r := hs.1
      have hgt : (0 : Int) < ((q - j : Nat) : Int) := by omega
      have hgt' : decide ((0 : Int) < ((q - j : Nat) : Int)) = true := decide_eq_true hgt
      clear hs hnext
      go_wp2_with fail
      refine (l6From_any (some ⟨b, o, none⟩) r c I X R wr ((HR.out.below HB.out).take (by omega)) (by omega)).mono ?_
      rintro e w2 ⟨hw2, hfr⟩
      subst hw2
      rw [← HA.out] at hfr
      have he : e = .returned (.int .i64 (s : Int)) := by
        rcases hfr with ⟨s', h1, h2⟩ | ⟨h1, _⟩
        · rw [h1.uniq HS.out.1] at h2; exact h2
        · exact absurd ⟨s, HS.out.1⟩ h1
      subst he
      clear hfr
      have hslA : ∀ w : World, (Instr.sliceAt 23 (.slice (some ⟨b, o, none⟩) r c) (some (.int .i64 (s : Int))) none none).run Try.prog w = .ok (.slice (some ⟨b, o + s * 3, none⟩) (r - s) (c - s)) w := runFromN b o r c s (by omega) (by omega) (by omega)
      have hslB : ∀ w : World, (Instr.sliceAt 23 (.slice (some ⟨b, o, none⟩) r c) none (some (.int .i64 (s : Int))) none).run Try.prog w = .ok (.slice (some ⟨b, o, none⟩) s c) w := runToN b o r c s (by omega)
      have ek : IntKind.i64.wrap (((q - j : Nat) : Int) - 1) = ((q - (j + 1) : Nat) : Int) := by rw [IntKind.wrap_i64]; omega
      have HO : Hid ((w2.alloc (.cells #[.slice (some ⟨b, o + s * 3, none⟩) (r - s) (c - s)] 23)).ownsRow w2.heap.size 23 1 (.slice (some ⟨w2.heap.size, 0, none⟩) 1 1) 1 [.slice (some ⟨b, o + s * 3, none⟩) (r - s) (c - s)]) := World.ownsRow_lit w2 (e := 23) (size := 1) #[.slice (some ⟨b, o + s * 3, none⟩) (r - s) (c - s)] 1 (Nat.le_refl _) (by unfold maxLen; omega) rfl
      have HN : Hid (∀ i x, ks[i]? = some x → (w2.alloc (.cells #[.slice (some ⟨b, o + s * 3, none⟩) (r - s) (c - s)] 23)).cell? ((⟨go, 0, none⟩ : Addr).add i) = some x) := by
        intro i x hx
        have h1 := HKS.out i x hx
        rw [addN3, Nat.zero_add]
        exact ((below_alloc w2 _).cell (p := ⟨go, i, none⟩) (World.block_lt_of_cell? _ _ h1)).trans h1
      have hz9 : w2.heap.size ≤ (w2.alloc (.cells #[.slice (some ⟨b, o + s * 3, none⟩) (r - s) (c - s)] 23)).heap.size := by simp
      obtain ⟨i0, hi, hz0, hz1, hz2⟩ := info_parts infoPns
      have hj2 : ks.length ≤ 2 := by have := HLEN.out; omega
      go_wp2_with (at_builtin; refine wpList_append_own _ rfl _ _ 103 rfl w2.heap.size 23 i0 (.slice none 0 0) 1 24 underPss hi hz0 hz1 hz2 rfl (by decide) _ 1 _ rfl HO.out ⟨go, 0, none⟩ ks.length cpo ks rfl (by omega) HN.out HKO.out.one (by unfold maxLen; omega) (by omega) hz9 ?_)
      intro v' w3 hown3 hgr3 _
      have HX : Hid (KidsAt w3 v' (.slice (some ⟨b, o + s * 3, none⟩) (r - s) (c - s) :: ks) ∧ Below w.heap.size w w3) := by
        refine ⟨kidsAt_ofRow hown3 (by simp; omega) (by omega), ?_⟩
        have hb2 : Below w2.heap.size w2 w3 := Below.grown (below_alloc w2 (.cells #[.slice (some ⟨b, o + s * 3, none⟩) (r - s) (c - s)] 23)) hgr3 hz9 (owns_geN HO.out)
        exact HB.out.trans (hb2.mono hz)
      obtain ⟨pv, qv, hvv⟩ := owns_shapeN hown3
      subst hvv
      clear hown3 hgr3 HO HN
      go_wp2
      go_roundw
      case rel => exact ⟨j + 1, s, _, by omega, rfl, rfl, HS.out.2, HX.out.1, HX.out.2⟩
      case measure => simp [intOf]; omega
    · have e : j = q := by omega
      subst e
      have hgt : ¬ (0 : Int) < ((j - j : Nat) : Int) := by omega
      go_wp2
      go_ret
      exact ⟨_, r, ks, rfl, HKO.out, ⟨go, cpo, rfl, HKS.out⟩, HB.out⟩
end Go.Proofs.Ythcclkeeekppmaa
