import Derived.Test.YtocmbnocdjnfpaaPaH
import Derived.Test.YtocmbnocdjnfpaaVpLaw
namespace Go.Proofs.Ytocmbnocdjnfpaa
open Go.RowKit Go.Deep
set_option linter.unusedVariables false
set_option maxRecDepth 100000

/-- A valid path. -/
def VPth (n : Nat) (I : Nat → Int) (X R : Nat → ByteArray) : Prop :=
  (1 ≤ n ∧ n ≤ 100) ∧ (∀ i, i < n → gnB (I i) (X i) (R i) = true) ∧ Begins (fun i => arOf (I i)) n 0 ∧ htF 100 (fun i => arOf (I i)) n ≤ 64

theorem AnsN.no {w w' : World} {P : Prop} (h : ¬ P) (hb : Below w.heap.size w w') : AnsN w P (.returned (.bool false)) w' := ⟨false, rfl, ⟨(fun e => by cases e), fun e => absurd e h⟩, hb⟩
theorem AnsN.yes {w w' : World} {P : Prop} (h : P) (hb : Below w.heap.size w w') : AnsN w P (.returned (.bool true)) w' := ⟨true, rfl, ⟨fun _ => h, fun _ => rfl⟩, hb⟩

set_option maxHeartbeats 2000000 in
theorem specVP (a : Option Addr) (n c : Nat) (I : Nat → Int) (X R : Nat → ByteArray) (w : World) (h : RdN w a n I X R) (hn : n ≤ 1048576) (hc : n ≤ c) (hcm : c ≤ 9223372036854775807) :
    Calls Try.prog 10 #[.agg #[.slice a n c]] w (AnsN w (VPth n I X R)) := by
  have HR : Hid (RdN w a n I X R) := h
  clear h
  by_cases h1 : n < 1
  · have i1 : (n : Int) < 1 := by omega
    have i1' : decide ((n : Int) < 1) = true := decide_eq_true i1
    have HN : Hid (¬ VPth n I X R) := fun h => by have := h.1; omega
    go_enter Try.func10, Try.ntmps10
    go_wp2
    go_ret
    exact AnsN.no HN.out (below_alloc _ _)
  · have i1 : ¬ (n : Int) < 1 := by omega
    have i1' : decide ((n : Int) < 1) = false := decide_eq_false i1
    by_cases h2 : 100 < n
    · have i2 : (100 : Int) < (n : Int) := by omega
      have i2' : decide ((100 : Int) < (n : Int)) = true := decide_eq_true i2
      have HN : Hid (¬ VPth n I X R) := fun h => by have := h.1; omega
      go_enter Try.func10, Try.ntmps10
      go_wp2
      go_ret
      exact AnsN.no HN.out (below_alloc _ _)
    · have i2 : ¬ (100 : Int) < (n : Int) := by omega
      have i2' : decide ((100 : Int) < (n : Int)) = false := decide_eq_false i2
      obtain ⟨b, o, hcell⟩ : ∃ b o, a = some ⟨b, o, none⟩ := by
        rcases HR.out with h | ⟨b, o, e, _⟩
        · omega
        · exact ⟨b, o, e⟩
      subst hcell
      have HC : Hid (∀ W : World, Below w.heap.size w W → ∀ i, i < n → W.cell? ⟨b, o + i * 3, none⟩ = some (.int .i64 (I i)) ∧ W.cell? ⟨b, o + i * 3 + 1, none⟩ = some (.string (X i)) ∧ W.cell? ⟨b, o + i * 3 + 2, none⟩ = some (.string (R i))) := by
        intro W hW i hi
        rcases HR.out.below hW with h | ⟨b', o', e, hcc⟩
        · omega
        · injection e with e
          injection e with e1 e2
          subst e1 e2
          exact hcc i hi
      go_enter Try.func10, Try.ntmps10
      go_wp2
      go_loopw [3] (fun i wr => ∃ k : Nat, k ≤ n ∧ i = .int .i64 k ∧ (∀ j, j < k → gnB (I j) (X j) (R j) = true) ∧ Below (w.heap.size + 1) (w.alloc (.cells #[.slice (some ⟨b, o, none⟩) n c] 29)) wr) (fun i _ => n - (intOf i).toNat)
      case atStart => exact ⟨0, Nat.zero_le _, rfl, fun j hj => absurd hj (Nat.not_lt_zero _), Below.refl _ _⟩
      case round =>
        obtain ⟨k, hk, rfl, hg, hb⟩ := hrel
        have HG : Hid (∀ j, j < k → gnB (I j) (X j) (R j) = true) := hg
        have HB : Hid (Below (w.heap.size + 1) (w.alloc (.cells #[.slice (some ⟨b, o, none⟩) n c] 29)) wr) := hb
        have HBW : Hid (Below w.heap.size w wr) := (below_alloc _ _).trans (hb.mono (by omega))
        obtain ⟨x0, xz⟩ := pbox hb
        clear hg hb
        by_cases hlt : k < n
        · obtain ⟨c0, c1, c2⟩ := HC.out wr HBW.out k hlt
          have ik : (k : Int) < (n : Int) := by omega
          have ik0 : (0 : Int) ≤ (k : Int) := by omega
          go_wp2_with fail
          refine (l6GoodNode_any (I k) (X k) (R k) wr).mono ?_
          rintro e w2 ⟨he, hb2⟩
          have HB2 : Hid (Below (w.heap.size + 1) (w.alloc (.cells #[.slice (some ⟨b, o, none⟩) n c] 29)) w2) := HB.out.trans (hb2.mono (by omega))
          clear hb2 c0 c1 c2 x0
          cases hgk : gnB (I k) (X k) (R k) with
          | false =>
            rw [hgk] at he
            subst he
            have HN : Hid (¬ VPth n I X R) := fun h => by have := h.2.1 k hlt; rw [hgk] at this; cases this
            have HZ : Hid (Below w.heap.size w w2) := (below_alloc _ _).trans (HB2.out.mono (by omega))
            go_wp2
            go_ret
            exact AnsN.no HN.out HZ.out
          | true =>
            rw [hgk] at he
            subst he
            have HG2 : Hid (∀ j, j < k + 1 → gnB (I j) (X j) (R j) = true) := fun j hj => by
              by_cases e : j = k
              · subst e; exact hgk
              · exact HG.out j (by omega)
            obtain ⟨x0, xz2⟩ := pbox HB2.out
            go_wp2
            go_roundw
            case rel => exact ⟨k + 1, by omega, by go_num, HG2.out, HB2.out⟩
            case measure => simp [intOf]; omega
        · have e : k = n := by omega
          subst e
          obtain ⟨m, rfl⟩ : ∃ m, k = m + 1 := ⟨k - 1, by omega⟩
          go_wp2_with fail
          refine (l6From_any (some ⟨b, o, none⟩) (m + 1) c I X R wr (HR.out.below HBW.out) (by omega)).mono ?_
          rintro e w2 ⟨hw2, hfr⟩
          subst hw2
          by_cases hbg : Begins (fun i => arOf (I i)) (m + 1) 0
          · have he : e = .returned (.int .i64 0) := by
              rcases hfr with ⟨s', h1, h2⟩ | ⟨h1, _⟩
              · rw [h1.uniq hbg] at h2; exact h2
              · exact absurd ⟨0, hbg⟩ h1
            subst he
            clear hfr
            go_wp2_with fail
            refine (l6Height_any 100 b o m c I X R w2 (HR.out.below HBW.out) (by omega) (by omega) (by omega) hcm hbg).mono ?_
            rintro e w3 ⟨rfl, hb3⟩
            have HZ : Hid (Below w.heap.size w w3) := HBW.out.trans (hb3.mono HBW.out.size)
            have HBG : Hid (Begins (fun i => arOf (I i)) (m + 1) 0) := hbg
            obtain ⟨Ht, hHt⟩ : ∃ Ht, Ht = htF 100 (fun i => arOf (I i)) (m + 1) := ⟨_, rfl⟩
            have HHT : Hid (Ht = htF 100 (fun i => arOf (I i)) (m + 1)) := hHt
            rw [← hHt]
            clear hb3 hbg hHt
            by_cases h64 : Ht ≤ 64
            · have i64 : ((Ht : Nat) : Int) ≤ 64 := by omega
              have i64' : decide (((Ht : Nat) : Int) ≤ 64) = true := decide_eq_true i64
              go_wp2
              go_ret
              exact AnsN.yes ⟨⟨by omega, by omega⟩, HG.out, HBG.out, by rw [← HHT.out]; exact h64⟩ HZ.out
            · have i64 : ¬ ((Ht : Nat) : Int) ≤ 64 := by omega
              have i64' : decide (((Ht : Nat) : Int) ≤ 64) = false := decide_eq_false i64
              go_wp2
              go_ret
              exact AnsN.no (fun h => h64 (by rw [HHT.out]; exact h.2.2.2)) HZ.out
          · have hne : ∃ s : Int, e = .returned (.int .i64 s) ∧ s ≠ 0 := by
              rcases hfr with ⟨s', h1, h2⟩ | ⟨_, h2⟩
              · refine ⟨s', h2, fun e0 => hbg ?_⟩
                have hs' : s' = 0 := by omega
                rw [hs'] at h1
                exact h1
              · exact ⟨-1, h2, by decide⟩
            obtain ⟨s, rfl, hs0⟩ := hne
            have hs1 : (s == 0) = false := by simp; exact hs0
            have HN : Hid (¬ VPth (m + 1) I X R) := fun h => hbg h.2.2.1
            clear hfr hbg
            go_wp2
            go_ret
            exact AnsN.no HN.out HBW.out
end Go.Proofs.Ytocmbnocdjnfpaa
