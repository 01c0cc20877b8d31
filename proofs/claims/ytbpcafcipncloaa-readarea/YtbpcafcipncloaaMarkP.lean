import Derived.Test.YtbpcafcipncloaaMarkB
import Derived.Test.YtbpcafcipncloaaOwnP
namespace Go.Proofs.Ytbpcafcipncloaa
open Go.RowKit Go.Deep

/-- w' is w but for the row of writes and their bytes. -/
structure OnlyP (gC m : Nat) (L : Nat → Nat) (A : Nat → Option Addr) (w w' : World) : Prop where
  os : w'.os = w.os
  tape : w'.tape = w.tape
  output : w'.output = w.output
  size : w'.heap.size = w.heap.size
  block : ∀ g, g ≠ gC → (∀ i, i < m → L i ≠ 0 → A i ≠ some ⟨g, 0, none⟩) → w'.heap[g]? = w.heap[g]?

theorem OnlyP.refl (gC m : Nat) (L : Nat → Nat) (A : Nat → Option Addr) (w : World) : OnlyP gC m L A w w := ⟨rfl, rfl, rfl, rfl, fun _ _ _ => rfl⟩

theorem OnlyP.below {B gC m : Nat} {L : Nat → Nat} {A : Nat → Option Addr} {w w' : World} (h : OnlyP gC m L A w w') (hC : B ≤ gC) (hA : ∀ i, i < m → L i ≠ 0 → ∀ x, A i = some x → B ≤ x.block) : Below B w w' :=
  ⟨h.os, h.tape, h.output, by rw [h.size]; exact Nat.le_refl _, fun k hk => h.block k (by omega) (fun i hi hl e => by have := hA i hi hl _ e; simp at this; omega)⟩

theorem OwnPA.setSec {w : World} {B gC m : Nat} {S : Nat → Int} {L : Nat → Nat} {F : Nat → Nat → Int} {A : Nat → Option Addr} {C : Nat → Nat} (h : OwnPA w B gC m S L F A C) (k : Nat) (v : Int) :
    OwnPA (w.setCell ⟨gC, k * 2, none⟩ (.int .i64 v)) B gC m (fun i => if i = k then v else S i) L F A C := by
  refine ⟨h.le, (h.row.set (k * 2) _).congr (fun c _ => ?_), fun i hi => ?_, h.apart⟩
  · by_cases e : c = k * 2
    · subst e; simp [pendCell_even]
    · rw [if_neg e]
      unfold pendCell
      by_cases e2 : c % 2 = 0
      · have : ¬ c / 2 = k := by omega
        simp [e2, this]
      · rw [if_neg e2, if_neg e2]
  · rcases h.each i hi with h0 | ⟨g, hA, hg, hr⟩
    · exact Or.inl h0
    · have hne : g ≠ gC := hr.ne h.row (by decide)
      exact Or.inr ⟨g, hA, hg, hr.of_block (Below.heap_setCell _ _ _ _ hne)⟩

theorem OwnPA.setBytes {w w2 : World} {B gC m : Nat} {S : Nat → Int} {L : Nat → Nat} {F : Nat → Nat → Int} {A : Nat → Option Addr} {C : Nat → Nat} (h : OwnPA w B gC m S L F A C) (k : Nat) (hk : k < m) (f' : Nat → Int)
    (hb : OwnB w2 B (A k) (L k) f') (ho : OnlyAt (A k) w w2) (hz : L k = 0 → w2 = w) :
    OwnPA w2 B gC m S L (fun i => if i = k then f' else F i) A C := by
  by_cases hl : L k = 0
  · have e := hz hl
    subst e
    refine ⟨h.le, h.row, fun i hi => ?_, h.apart⟩
    by_cases e : i = k
    · subst e; exact Or.inl hl
    · simp only [if_neg e]; exact h.each i hi
  · have hbk := h.each k hk
    rcases hbk with h0 | ⟨g, hA, hg, hr⟩
    · exact absurd h0 hl
    · have hne : g ≠ gC := hr.ne h.row (by decide)
      refine ⟨h.le, h.row.of_block (ho.block gC (fun x e => by rw [hA] at e; injection e with e; subst e; exact hne)), fun i hi => ?_, h.apart⟩
      by_cases e : i = k
      · subst e; simp only [if_true]; exact hb
      · simp only [if_neg e]
        refine (h.each i hi).only ho (fun hn x y hx hy => ?_)
        intro hxy
        rcases h.each i hi with h0 | ⟨g', hA', _, _⟩
        · exact hn h0
        · rw [hA] at hy; injection hy with hy; subst hy
          rw [hA'] at hx; injection hx with hx; subst hx
          simp at hxy
          subst hxy
          exact h.apart i k hi hk e hn hl (by rw [hA, hA'])

theorem OnlyP.setSec {gC m : Nat} {L : Nat → Nat} {A : Nat → Option Addr} {w w' : World} (h : OnlyP gC m L A w w') (k : Nat) (v : Value) : OnlyP gC m L A w (w'.setCell ⟨gC, k, none⟩ v) :=
  ⟨h.os, h.tape, h.output, by rw [← h.size]; simp [World.setCell], fun g hg hA => by rw [← h.block g hg hA]; exact Below.heap_setCell _ _ _ _ hg⟩

theorem OnlyP.setBytes {gC m : Nat} {L : Nat → Nat} {A : Nat → Option Addr} {w w' w2 : World} (h : OnlyP gC m L A w w') (k : Nat) (hk : k < m) (hz : L k = 0 → w2 = w') (ho : OnlyAt (A k) w' w2) (hA0 : L k ≠ 0 → ∃ g, A k = some ⟨g, 0, none⟩) : OnlyP gC m L A w w2 := by
  by_cases hl : L k = 0
  · rw [hz hl]; exact h
  · refine ⟨ho.os.trans h.os, ho.tape.trans h.tape, ho.output.trans h.output, ho.size.trans h.size, fun g hg hA => ?_⟩
    rw [← h.block g hg hA]
    refine ho.block g (fun x hx e => ?_)
    obtain ⟨g', hg'⟩ := hA0 hl
    rw [hg'] at hx
    injection hx with hx
    subst hx
    simp at e
    subst e
    exact hA k hk hl hg'

set_option maxHeartbeats 2000000 in
theorem markPendS_row (gC m cap B : Nat) (S : Nat → Int) (L : Nat → Nat) (F : Nat → Nat → Int) (A : Nat → Option Addr) (C : Nat → Nat) (w : World) (k0 : Int) (h : OwnPA w B gC m S L F A C) (hm : m ≤ 1048576) (hL : ∀ i, i < m → L i ≤ 1048576) (h0 : 0 ≤ k0) (h1 : k0 ≤ 1099511627776) :
    Calls Try.prog 46 #[.slice (some ⟨gC, 0, none⟩) m cap, .int .i64 k0] w fun e w' => e = .returned (.int .i64 (koff L k0 m)) ∧
      OwnPA w' B gC m (fun i => koff L k0 i) L (fun i j => IntKind.u8.wrap (koff L k0 i + 1 + j)) A C ∧ OnlyP gC m L A w w' := by
  go_enter Try.func46, Try.ntmps46
  go_wp2
  go_loopw [1, 5] (fun q i wr => ∃ k : Nat, k ≤ m ∧ i = .int .i64 k ∧ q = .int .i64 (koff L k0 k) ∧ OwnPA wr B gC m (fun i => if i < k then koff L k0 i else S i) L (fun i j => if i < k then IntKind.u8.wrap (koff L k0 i + 1 + j) else F i j) A C ∧ OnlyP gC m L A w wr) (fun _ i _ => m - (intOf i).toNat)
  case atStart => exact ⟨0, Nat.zero_le _, rfl, rfl, by simpa using h, OnlyP.refl _ _ _ _ _⟩
  case round =>
    obtain ⟨k, hk, rfl, rfl, hown, honly⟩ := hrel
    clear h
    have hk1 := koff_ge L k0 k
    have hk2 := koff_le L k0 m 1048576 hL k hk
    by_cases hlt : k < m
    · have hq1 : 0 ≤ koff L k0 k := by omega
      have hq2 : koff L k0 k ≤ 2305843009213693952 := by
        have : (k : Int) * (1 + ((1048576 : Nat) : Int)) ≤ 1048576 * (1 + ((1048576 : Nat) : Int)) := Int.mul_le_mul_of_nonneg_right (by omega) (by omega)
        omega
      have hc1 := hown.row.cell (i := k * 2) (by omega)
      have hc2 := hown.row.cell (i := k * 2 + 1) (by omega)
      rw [pendCell_even] at hc1
      rw [pendCell_odd] at hc2
      simp only [Nat.lt_irrefl, if_false] at hc1
      have hf1 := hown.row.frozen (k * 2)
      have HS : Hid (koff L k0 (k + 1) = koff L k0 k + 1 + L k) := rfl
      have HO : Hid (OwnPA (wr.setCell ⟨gC, k * 2, none⟩ (.int .i64 (koff L k0 k))) B gC m (fun i => if i = k then koff L k0 k else if i < k then koff L k0 i else S i) L (fun i j => if i < k then IntKind.u8.wrap (koff L k0 i + 1 + j) else F i j) A C) := hown.setSec k (koff L k0 k)
      have HP := honly.setSec (k * 2) (.int .i64 (koff L k0 k))
      have HL := hL k hlt
      clear hown honly hk1 hk2
      go_wp2_with fail
      refine (markByteS_own (A k) (L k) (C k) B _ _ (koff L k0 k + 1) (HO.out.each k hlt) (by omega) (by omega) (by omega)).mono ?_
      rintro e w2 ⟨rfl, hb2, ho2, hz2⟩
      have HX : Hid (OwnPA w2 B gC m (fun i => if i < k + 1 then koff L k0 i else S i) L (fun i j => if i < k + 1 then IntKind.u8.wrap (koff L k0 i + 1 + j) else F i j) A C ∧ OnlyP gC m L A w w2) := by
        have q1 := HO.out.setBytes k hlt _ hb2 ho2 hz2
        refine ⟨⟨q1.le, q1.row.congr (fun c hc => ?_), fun i hi => ?_, q1.apart⟩, HP.setBytes k hlt hz2 ho2 (fun hl => ?_)⟩
        · unfold pendCell
          by_cases e2 : c % 2 = 0
          · by_cases e3 : c / 2 = k
            · subst e3; simp [e2]
            · by_cases e4 : c / 2 < k
              · have : c / 2 < k + 1 := by omega
                simp [e2, e3, e4, this]
              · have : ¬ c / 2 < k + 1 := by omega
                simp [e2, e3, e4, this]
          · rw [if_neg e2, if_neg e2]
        · refine (q1.each i hi).congr (fun j _ => ?_)
          by_cases e3 : i = k
          · subst e3; simp
          · by_cases e4 : i < k
            · have : i < k + 1 := by omega
              simp [e3, e4, this]
            · have : ¬ i < k + 1 := by omega
              simp [e3, e4, this]
        · rcases HO.out.each k hlt with h0 | ⟨g, hA, _, _⟩
          · exact absurd h0 hl
          · exact ⟨g, hA⟩
      clear hb2 ho2 hz2 HO HP hc1 hc2 hf1
      go_wp2
      go_roundw
      case rel => exact ⟨k + 1, by omega, by go_num, by rw [HS.out], HX.out⟩
      case measure => simp [intOf]; omega
    · have e : k = m := by omega
      subst e
      go_wp2
      go_ret
      refine ⟨rfl, ?_, honly⟩
      refine ⟨hown.le, hown.row.congr (fun c hc => ?_), fun i hi => ?_, hown.apart⟩
      · unfold pendCell
        by_cases e2 : c % 2 = 0
        · have : c / 2 < k := by omega
          simp [e2, this]
        · rw [if_neg e2, if_neg e2]
      · have := hown.each i hi
        simpa [hi] using this
end Go.Proofs.Ytbpcafcipncloaa
