import Derived.Test.YthcclkeeekppmaaPnT
import Derived.Test.YthcclkeeekppmaaPaH
import Derived.Test.YthcclkeeekppmaaPlS
import Derived.Deep.CutBlock
import Derived.RangeFuncNested
import Derived.RangeFuncBound
import Derived.RangeFuncCalls
import Derived.RangeFuncLeaves
import Derived.Shelf.Abstract
import Derived.Shelf.RegionOpen
import Derived.OwnWalkIn
import Derived.TacticsInMore
import Derived.LoopNIn
import Derived.LoopIn
namespace Go.Proofs.Ythcclkeeekppmaa
open Go.RowKit Go.Deep
set_option linter.unusedVariables false
set_option maxRecDepth 100000

/-- A bool that tells whether P. -/
def AnsN (w : World) (P : Prop) (e : Ending) (w' : World) : Prop := ∃ b, e = .returned (.bool b) ∧ (b = true ↔ P) ∧ Below w.heap.size w w'

theorem pbox {W w' : World} {v0 : Value} {t : TypeId} (hb : Below (W.heap.size + 1) (W.alloc (.cells #[v0] t)) w') : w'.cell? ⟨W.heap.size, 0, none⟩ = some v0 ∧ W.heap.size < w'.heap.size := by
  have hs := hb.size
  refine ⟨?_, by simp at hs; omega⟩
  rw [hb.cell (by simp)]
  simp
end Go.Proofs.Ythcclkeeekppmaa

namespace Go.Proofs.Ythcclkeeekppmaa
open Go.RowKit Go.Deep
set_option linter.unusedVariables false
set_option maxRecDepth 100000

/-- A valid path. -/
def VPth (n : Nat) (I : Nat → Int) (X R : Nat → ByteArray) : Prop :=
  (1 ≤ n ∧ n ≤ 100) ∧ (∀ i, i < n → gnB (I i) (X i) (R i) = true) ∧ Begins (fun i => arOf (I i)) n 0 ∧ htF 100 (fun i => arOf (I i)) n ≤ 64

theorem AnsN.no {w w' : World} {P : Prop} (h : ¬ P) (hb : Below w.heap.size w w') : AnsN w P (.returned (.bool false)) w' := ⟨false, rfl, ⟨(fun e => by cases e), fun e => absurd e h⟩, hb⟩
theorem AnsN.yes {w w' : World} {P : Prop} (h : P) (hb : Below w.heap.size w w') : AnsN w P (.returned (.bool true)) w' := ⟨true, rfl, ⟨fun _ => h, fun _ => rfl⟩, hb⟩

set_option maxHeartbeats 2000000 in
theorem specVP (a : Option Addr) (n c : Nat) (I : Nat → Int) (X R : Nat → ByteArray) (w : World) (h : RdN w a n I X R) (hn : n ≤ 1048576) (hc : n ≤ c) (hcm : c ≤ 9223372036854775807) :
    Calls Try.prog 6 #[.agg #[.slice a n c]] w (AnsN w (VPth n I X R)) := by
  have HR : Hid (RdN w a n I X R) := h
  clear h
  by_cases h1 : n < 1
  · have i1 : (n : Int) < 1 := by omega
    have i1' : decide ((n : Int) < 1) = true := decide_eq_true i1
    have HN : Hid (¬ VPth n I X R) := fun h => by have := h.1; omega
    go_enter Try.func6, Try.ntmps6
    go_wp2
    go_ret
    exact AnsN.no HN.out (below_alloc _ _)
  · have i1 : ¬ (n : Int) < 1 := by omega
    have i1' : decide ((n : Int) < 1) = false := decide_eq_false i1
    by_cases h2 : 100 < n
    · have i2 : (100 : Int) < (n : Int) := by omega
      have i2' : decide ((100 : Int) < (n : Int)) = true := decide_eq_true i2
      have HN : Hid (¬ VPth n I X R) := fun h => by have := h.1; omega
      go_enter Try.func6, Try.ntmps6
      go_wp2
      go_ret
      exact AnsN.no HN.out (below_alloc _ _)
    · have i2 : ¬ (100 : Int) < (n : Int) := by omega
      have i2' : decide ((100 : Int) < (n : Int)) = false := decide_eq_false i2
      obtain ⟨b, o, hcell⟩ : ∃ b o, a = some ⟨b, o, none⟩ := by
        rcases HR.out with h | ⟨b, o, e, _⟩
        · omega
        · exact ⟨b, o, e⟩
      subst hcell
      have HC : Hid (∀ W : World, Below w.heap.size w W → ∀ i, i < n → W.cell? ⟨b, o + i * 3, none⟩ = some (.int .i64 (I i)) ∧ W.cell? ⟨b, o + i * 3 + 1, none⟩ = some (.string (X i)) ∧ W.cell? ⟨b, o + i * 3 + 2, none⟩ = some (.string (R i))) := by
        intro W hW i hi
        rcases HR.out.below hW with h | ⟨b', o', e, hcc⟩
        · omega
        · injection e with e
          injection e with e1 e2
          subst e1 e2
          exact hcc i hi
      go_enter Try.func6, Try.ntmps6
      go_wp2
      go_loopw [3] (fun i wr => ∃ k : Nat, k ≤ n ∧ i = .int .i64 k ∧ (∀ j, j < k → gnB (I j) (X j) (R j) = true) ∧ Below (w.heap.size + 1) (w.alloc (.cells #[.slice (some ⟨b, o, none⟩) n c] 25)) wr) (fun i _ => n - (intOf i).toNat)
      case atStart => exact ⟨0, Nat.zero_le _, rfl, fun j hj => absurd hj (Nat.not_lt_zero _), Below.refl _ _⟩
      case round =>
        obtain ⟨k, hk, rfl, hg, hb⟩ := hrel
        have HG : Hid (∀ j, j < k → gnB (I j) (X j) (R j) = true) := hg
        have HB : Hid (Below (w.heap.size + 1) (w.alloc (.cells #[.slice (some ⟨b, o, none⟩) n c] 25)) wr) := hb
        have HBW : Hid (Below w.heap.size w wr) := (below_alloc _ _).trans (hb.mono (by omega))
        obtain ⟨x0, xz⟩ := pbox hb
        clear hg hb
        by_cases hlt : k < n
        · obtain ⟨c0, c1, c2⟩ := HC.out wr HBW.out k hlt
          have ik : (k : Int) < (n : Int) := by omega
          have ik0 : (0 : Int) ≤ (k : Int) := by omega
          go_wp2_with fail
          refine (l6GoodNode_any (I k) (X k) (R k) wr).mono ?_
          rintro e w2 ⟨he, hb2⟩
          have HB2 : Hid (Below (w.heap.size + 1) (w.alloc (.cells #[.slice (some ⟨b, o, none⟩) n c] 25)) w2) := HB.out.trans (hb2.mono (by omega))
          clear hb2 c0 c1 c2 x0
          cases hgk : gnB (I k) (X k) (R k) with
          | false =>
            rw [hgk] at he
            subst he
            have HN : Hid (¬ VPth n I X R) := fun h => by have := h.2.1 k hlt; rw [hgk] at this; cases this
            have HZ : Hid (Below w.heap.size w w2) := (below_alloc _ _).trans (HB2.out.mono (by omega))
            go_wp2
            go_ret
            exact AnsN.no HN.out HZ.out
          | true =>
            rw [hgk] at he
            subst he
            have HG2 : Hid (∀ j, j < k + 1 → gnB (I j) (X j) (R j) = true) := fun j hj => by
              by_cases e : j = k
              · subst e; exact hgk
              · exact HG.out j (by omega)
            obtain ⟨x0, xz2⟩ := pbox HB2.out
            go_wp2
            go_roundw
            case rel => exact ⟨k + 1, by omega, by go_num, HG2.out, HB2.out⟩
            case measure => simp [intOf]; omega
        · have e : k = n := by omega
          subst e
          obtain ⟨m, rfl⟩ : ∃ m, k = m + 1 := ⟨k - 1, by omega⟩
          go_wp2_with fail
          refine (l6From_any (some ⟨b, o, none⟩) (m + 1) c I X R wr (HR.out.below HBW.out) (by omega)).mono ?_
          rintro e w2 ⟨hw2, hfr⟩
          subst hw2
          by_cases hbg : Begins (fun i => arOf (I i)) (m + 1) 0
          · have he : e = .returned (.int .i64 0) := by
              rcases hfr with ⟨s', h1, h2⟩ | ⟨h1, _⟩
              · rw [h1.uniq hbg] at h2; exact h2
              · exact absurd ⟨0, hbg⟩ h1
            subst he
            clear hfr
            go_wp2_with fail
            refine (l6Height_any 100 b o m c I X R w2 (HR.out.below HBW.out) (by omega) (by omega) (by omega) hcm hbg).mono ?_
            rintro e w3 ⟨rfl, hb3⟩
            have HZ : Hid (Below w.heap.size w w3) := HBW.out.trans (hb3.mono HBW.out.size)
            have HBG : Hid (Begins (fun i => arOf (I i)) (m + 1) 0) := hbg
            obtain ⟨Ht, hHt⟩ : ∃ Ht, Ht = htF 100 (fun i => arOf (I i)) (m + 1) := ⟨_, rfl⟩
            have HHT : Hid (Ht = htF 100 (fun i => arOf (I i)) (m + 1)) := hHt
            rw [← hHt]
            clear hb3 hbg hHt
            by_cases h64 : Ht ≤ 64
            · have i64 : ((Ht : Nat) : Int) ≤ 64 := by omega
              have i64' : decide (((Ht : Nat) : Int) ≤ 64) = true := decide_eq_true i64
              go_wp2
              go_ret
              exact AnsN.yes ⟨⟨by omega, by omega⟩, HG.out, HBG.out, by rw [← HHT.out]; exact h64⟩ HZ.out
            · have i64 : ¬ ((Ht : Nat) : Int) ≤ 64 := by omega
              have i64' : decide (((Ht : Nat) : Int) ≤ 64) = false := decide_eq_false i64
              go_wp2
              go_ret
              exact AnsN.no (fun h => h64 (by rw [HHT.out]; exact h.2.2.2)) HZ.out
          · have hne : ∃ s : Int, e = .returned (.int .i64 s) ∧ s ≠ 0 := by
              rcases hfr with ⟨s', h1, h2⟩ | ⟨_, h2⟩
              · refine ⟨s', h2, fun e0 => hbg ?_⟩
                have hs' : s' = 0 := by omega
                rw [hs'] at h1
                exact h1
              · exact ⟨-1, h2, by decide⟩
            obtain ⟨s, rfl, hs0⟩ := hne
            have hs1 : (s == 0) = false := by simp; exact hs0
            have HN : Hid (¬ VPth (m + 1) I X R) := fun h => hbg h.2.2.1
            clear hfr hbg
            go_wp2
            go_ret
            exact AnsN.no HN.out HBW.out
end Go.Proofs.Ythcclkeeekppmaa

namespace Go.Proofs.Ythcclkeeekppmaa
open Go.RowKit Go.Deep
set_option linter.unusedVariables false
set_option maxRecDepth 100000

/-- What readPath gives. -/
def PathRet (C : (Nat → Bool) → (Nat → ByteArray) → Prop) (w : World) (n : Nat) (I : Nat → Int) (X R : Nat → ByteArray) (e : Ending) (w' : World) : Prop :=
  Below w.heap.size w w' ∧
  ((¬ VPth n I X R ∧ ∃ v, e = .returned (.tuple #[v, .bool false])) ∨
  (VPth n I X R ∧ ∃ g c AA CC Bd Lb, e = .returned (.tuple #[.slice (some ⟨g, 0, none⟩) n c, .bool true]) ∧ w.heap.size ≤ g ∧ n ≤ c ∧ c ≤ 9223372036854775807 ∧ C Bd Lb ∧
    PlAt w' g n (plF I X R AA CC Bd Lb (fun i => (hM (arI I) 100 i : Int))) ∧ (∀ i, i < n → OwnI w' w.heap.size (AA i) (arOf (I i)) (fun j => (opf (arI I) i j : Int))) ∧ (∀ i, i < n → arOf (I i) ≤ CC i ∧ CC i ≤ 9223372036854775807)))

/-- The box of a node. -/
def NBox (w : World) (b : Nat) (k : Int) (s t : ByteArray) : Prop := w.cell? ⟨b, 0, none⟩ = some (.int .i64 k) ∧ w.cell? ⟨b, 1, none⟩ = some (.string s) ∧ w.cell? ⟨b, 2, none⟩ = some (.string t)
theorem NBox.below {w w' : World} {b : Nat} {k : Int} {s t : ByteArray} (h : NBox w b k s t) (hb : Below w.heap.size w w') : NBox w' b k s t := by
  obtain ⟨h1, h2, h3⟩ := h
  refine ⟨?_, ?_, ?_⟩
  · rw [hb.cell (World.block_lt_of_cell? _ _ h1)]; exact h1
  · rw [hb.cell (World.block_lt_of_cell? _ _ h2)]; exact h2
  · rw [hb.cell (World.block_lt_of_cell? _ _ h3)]; exact h3

/-- What is asked of measure. -/
def MeasureOk : Prop := ∀ (g n c B : Nat) (I : Nat → Int) (X R : Nat → ByteArray) (AA : Nat → Option Addr) (CC : Nat → Nat) (Bd : Nat → Bool) (Lb : Nat → ByteArray) (w : World),
  PlAt w g n (plF I X R AA CC Bd Lb (fun _ => 0)) → (∀ i, i < n → OwnI w B (AA i) (arOf (I i)) (fun j => (opf (arI I) i j : Int))) → (∀ i, i < n → arOf (I i) ≤ CC i ∧ CC i ≤ 9223372036854775807) → StackOk (arI I) n → n ≤ 100 → 0 < n →
  Calls Try.prog 61 #[.slice (some ⟨g, 0, none⟩) n c] w fun e w' => e = .returned (.tuple #[]) ∧ PlAt w' g n (plF I X R AA CC Bd Lb (fun i => (hM (arI I) 100 i : Int))) ∧ w.grownBy w' (some g)
/-- What is asked of bindContexts. -/
def BindOk (C : Nat → (Nat → Int) → (Nat → ByteArray) → (Nat → Bool) → (Nat → ByteArray) → Prop) : Prop := ∀ (g n c B : Nat) (I : Nat → Int) (X R : Nat → ByteArray) (AA : Nat → Option Addr) (CC : Nat → Nat) (H : Nat → Int) (w : World),
  PlAt w g n (plF I X R AA CC (fun _ => false) (fun _ => { data := #[] }) H) → (∀ i, i < n → OwnI w B (AA i) (arOf (I i)) (fun j => (opf (arI I) i j : Int))) → (∀ i, i < n → arOf (I i) ≤ CC i ∧ CC i ≤ 9223372036854775807) → StackOk (arI I) n → n ≤ 100 → 0 < n → B ≤ w.heap.size →
  Calls Try.prog 62 #[.slice (some ⟨g, 0, none⟩) n c] w fun e w' => e = .returned (.tuple #[]) ∧ ∃ Bd Lb, C n I X Bd Lb ∧ PlAt w' g n (plF I X R AA CC Bd Lb H) ∧ w.grownBy w' (some g)
/-- What is asked of last. -/
def LastOk : Prop := ∀ (g n c : Nat) (f : Nat → Plc) (w : World), PlAt w g n f → 0 < n → n ≤ 100 →
  Calls Try.prog 63 #[.slice (some ⟨g, 0, none⟩) n c] w fun e w' => e = .returned (.agg #[.int .i64 (f (n - 1)).kind, .string (f (n - 1)).s, .string (f (n - 1)).t, .bool (f (n - 1)).bound, .string (f (n - 1)).label, .slice (f (n - 1)).ad (f (n - 1)).cnt (f (n - 1)).cap, .int .i64 (f (n - 1)).height]) ∧ Below w.heap.size w w'

/-- The operands that impl.operandCount counts. -/
def ocOf (k : Int) : Nat := if 1 ≤ k ∧ k ≤ 9 then arOf k else 1
theorem ocOf_le (k : Int) : ocOf k ≤ 2 := by
  have := arOf_le k
  unfold ocOf
  split <;> omega
theorem opCount_all (k : Int) (w : World) : Calls Try.prog 58 #[.int .i64 k] w fun e w' => e = .returned (.int .i64 (ocOf k)) ∧ w' = w := by
  by_cases h : 1 ≤ k ∧ k ≤ 9
  · rw [show ocOf k = arOf k from if_pos h]; exact opCount_any k w h
  · rw [show ocOf k = 1 from if_neg h]; exact opCount_none k w h
theorem ocOf_good {k : Int} {s t : ByteArray} (h : gnB k s t = true) : ocOf k = arOf k := by
  by_cases e : 1 ≤ k ∧ k ≤ 9
  · exact if_pos e
  · rw [arOf_none e] at h; cases h
theorem not_vp {n : Nat} {I : Nat → Int} {X R : Nat → ByteArray} {k : Nat} (hk : k < n) (h : ¬ (arOf (I k) : Int) ≤ dep (arI I) k) : ¬ VPth n I X R := fun hv => by
  have h1 := (whole_iff (fun i => arOf (I i)) n (by omega)).1 hv.2.2.1
  exact h (h1.1 k hk)

theorem OwnI.grownP {w w' : World} {B : Nat} {a : Option Addr} {n : Nat} {f : Nat → Int} {g m : Nat} {F : Nat → Plc} (h : OwnI w B a n f) (hp : PlAt w g m F) (hg : w.grownBy w' (some g)) : OwnI w' B a n f := by
  rcases h with h | ⟨q, rfl, hq, hr⟩
  · exact Or.inl h
  · refine Or.inr ⟨q, rfl, hq, hr.of_block (hg.block q hr.lt (fun e => ?_))⟩
    injection e with e
    exact hp.ne hr (by decide) e

theorem vp_height {n : Nat} {I : Nat → Int} (hn : 0 < n) (hok : StackOk (arI I) n) (hd : dep (arI I) n = 1) : Begins (fun i => arOf (I i)) n 0 ∧ htF 100 (fun i => arOf (I i)) n = hM (arI I) 100 (n - 1) := by
  have hb : Begins (arI I) n 0 := (whole_iff (arI I) n hn).2 ⟨hok, hd⟩
  refine ⟨hb, ?_⟩
  have h1 := htF_hM hok (arI_le I) 100 (n - 1) 0 (by omega) (by rw [show n - 1 + 1 = n by omega]; exact hb)
  rw [show n - 1 + 1 - 0 = n by omega] at h1
  have e : (fun q => arI I (0 + q)) = fun i => arOf (I i) := by funext q; rw [Nat.zero_add]; rfl
  rw [e] at h1
  exact h1

theorem field_pl (a b d f : Value) (e : Value) (c : Value) (h : Value) (w : World) : (Instr.field 65 (.agg #[a, b, c, d, e, f, h]) 3).run Try.prog w = .ok h w := by kernel_rfl

set_option maxHeartbeats 4000000 in
theorem readPath_any (C : Nat → (Nat → Int) → (Nat → ByteArray) → (Nat → Bool) → (Nat → ByteArray) → Prop) (hME : MeasureOk) (hBI : BindOk C) (hLA : LastOk) (a : Option Addr) (n c : Nat) (I : Nat → Int) (X R : Nat → ByteArray) (w : World) (h : RdN w a n I X R) (hn : n ≤ 1048576) (hc : n ≤ c) (hcm : c ≤ 9223372036854775807) :
    Calls Try.prog 28 #[.agg #[.slice a n c]] w (PathRet (C n I X) w n I X R) := by
  have HR : Hid (RdN w a n I X R) := h
  have HME : Hid MeasureOk := hME
  have HBI : Hid (BindOk C) := hBI
  have HLA : Hid LastOk := hLA
  clear h hME hBI hLA
  by_cases h2 : 100 < n
  · have i2 : (100 : Int) < (n : Int) := by omega
    have i2' : decide ((100 : Int) < (n : Int)) = true := decide_eq_true i2
    have HN : Hid (¬ VPth n I X R) := fun h => by have := h.1; omega
    go_enter Try.func28, Try.ntmps28
    go_wp2
    refine bodyPost_ret (v := .tuple #[.slice none 0 0, .bool false]) (by simp [results, Try.results28, go_sem]) rfl ⟨below_alloc _ _, .inl ⟨HN.out, _, rfl⟩⟩
  · have i2 : ¬ (100 : Int) < (n : Int) := by omega
    have i2' : decide ((100 : Int) < (n : Int)) = false := decide_eq_false i2
    have HC : Hid (∀ W : World, Below w.heap.size w W → ∀ i, i < n → ∃ b o, a = some ⟨b, o, none⟩ ∧ W.cell? ⟨b, o + i * 3, none⟩ = some (.int .i64 (I i)) ∧ W.cell? ⟨b, o + i * 3 + 1, none⟩ = some (.string (X i)) ∧ W.cell? ⟨b, o + i * 3 + 2, none⟩ = some (.string (R i))) := by
      intro W hW i hi
      rcases HR.out.below hW with h | ⟨b', o', e, hcc⟩
      · omega
      · exact ⟨b', o', e, hcc i hi⟩
    go_enter Try.func28, Try.ntmps28
    go_wp2
    go_loopw [4, 5, 16] (fun t o i wr => ∃ k d : Nat, ∃ AA CC S, k ≤ n ∧ i = .int .i64 k ∧ (∀ j, j < k → gnB (I j) (X j) (R j) = true) ∧ PlSt wr (w.heap.size + 1) I X R k k t o d AA CC S ∧ d ≤ k ∧ Below (w.heap.size + 1) (w.alloc (.cells #[.slice a n c] 25)) wr) (fun _ _ i _ => n - (intOf i).toNat)
    case atStart => exact ⟨0, 0, _, _, _, Nat.zero_le _, rfl, fun j hj => absurd hj (Nat.not_lt_zero _), PlSt.start _ _ _ _ _, Nat.le_refl _, Below.refl _ _⟩
    case round =>
      obtain ⟨k, d, AA, CC, S, hk, rfl, hg, hst, hdk, hb⟩ := hrel
      have HG : Hid (∀ j, j < k → gnB (I j) (X j) (R j) = true) := hg
      obtain ⟨p4, c4, rfl⟩ := owns_shapeN hst.row
      obtain ⟨p5, c5, rfl⟩ := owns_shapeN hst.stk
      have HST : Hid (PlSt wr (w.heap.size + 1) I X R k k (.slice p4 k c4) (.slice p5 d c5) d AA CC S) := hst
      have HB : Hid (Below (w.heap.size + 1) (w.alloc (.cells #[.slice a n c] 25)) wr) := hb
      have HBW : Hid (Below w.heap.size w wr) := (below_alloc _ _).trans (hb.mono (by omega))
      obtain ⟨x0, xz⟩ := pbox hb
      clear hg hb hst
      by_cases hlt : k < n
      · obtain ⟨b, o, rfl, c0, c1, c2⟩ := HC.out wr HBW.out k hlt
        have ik : (k : Int) < (n : Int) := by omega
        have ik0 : (0 : Int) ≤ (k : Int) := by omega
        go_upto_region 8 with fail
        have S1 : Hid ((NBox (wr.alloc (Obj.cells #[.int .i64 (I k), .string (X k), .string (R k)] 35)) wr.heap.size (I k) (X k) (R k) ∧ wr.heap.size < (wr.alloc (Obj.cells #[.int .i64 (I k), .string (X k), .string (R k)] 35)).heap.size ∧ w.heap.size + 1 ≤ wr.heap.size) ∧ PlSt (wr.alloc (Obj.cells #[.int .i64 (I k), .string (X k), .string (R k)] 35)) (w.heap.size + 1) I X R k k (.slice p4 k c4) (.slice p5 d c5) d AA CC S ∧ Below (w.heap.size + 1) (w.alloc (.cells #[.slice (some ⟨b, o, none⟩) n c] 25)) (wr.alloc (Obj.cells #[.int .i64 (I k), .string (X k), .string (R k)] 35))) :=
          ⟨⟨⟨by simp, by simp, by simp⟩, by simp, by omega⟩, HST.out.below (below_alloc _ _), HB.out.trans ((below_alloc _ _).mono (by omega))⟩
        have HNB : Hid ((Value.slice p4 k c4).ownBlock ≠ some wr.heap.size ∧ (Value.slice p5 d c5).ownBlock ≠ some wr.heap.size) := ⟨fun e => by have := (HST.out.row.lt _ e).2; omega, fun e => by have := (HST.out.stk.lt _ e).2; omega⟩
        clear HST HB HBW x0 c0 c1 c2 HC
        generalize (wr.alloc (Obj.cells #[.int .i64 (I k), .string (X k), .string (R k)] 35)) = W at S1 ⊢
        clear xz
        generalize wr.heap.size = nb at S1 HNB ⊢
        have hdd := S1.out.2.1.dd
        obtain ⟨⟨y0, y1, y2⟩, yz, yb⟩ := S1.out.1
        have hoc := ocOf_le (I k)
        have wd : IntKind.i64.wrap ((d : Int) - (ocOf (I k) : Int)) = (d : Int) - (ocOf (I k) : Int) := by rw [IntKind.wrap_i64]; omega
        go_wp2_with fail
        refine (opCount_all (I k) W).mono ?_
        rintro e w2 ⟨rfl, hw2⟩
        subst hw2
        go_wp2_with fail
        refine (isNode_any (I k) (X k) (R k) w2).mono ?_
        rintro e w3 ⟨he, hb3⟩
        have S3 : Hid ((NBox w3 nb (I k) (X k) (R k) ∧ nb < w3.heap.size ∧ w.heap.size + 1 ≤ nb) ∧ PlSt w3 (w.heap.size + 1) I X R k k (.slice p4 k c4) (.slice p5 d c5) d AA CC S ∧ Below (w.heap.size + 1) (w.alloc (.cells #[.slice (some ⟨b, o, none⟩) n c] 25)) w3) := by
          have := hb3.size
          exact ⟨⟨S1.out.1.1.below hb3, by omega, yb⟩, S1.out.2.1.below hb3, S1.out.2.2.trans (hb3.mono (by omega))⟩
        clear hb3 y0 y1 y2 S1
        cases hgk : gnB (I k) (X k) (R k) with
        | false =>
          rw [hgk] at he
          subst he
          have HN : Hid (¬ VPth n I X R) := fun h => by have := h.2.1 k hlt; rw [hgk] at this; cases this
          have HZ : Hid (Below w.heap.size w w3) := (below_alloc _ _).trans (S3.out.2.2.mono (by omega))
          go_wp2
          refine bodyPost_ret (v := .tuple #[.slice none 0 0, .bool false]) (by simp [results, Try.results28, go_sem]) rfl ⟨HZ.out, .inl ⟨HN.out, _, rfl⟩⟩
        | true =>
          rw [hgk] at he
          subst he
          have eoc := ocOf_good hgk
          rw [eoc] at wd hoc ⊢
          clear eoc
          by_cases hda : d < arOf (I k)
          · have iz : (d : Int) - (arOf (I k) : Int) < 0 := by omega
            have iz' : decide ((d : Int) - (arOf (I k) : Int) < 0) = true := decide_eq_true iz
            have HN : Hid (¬ VPth n I X R) := not_vp hlt (by rw [hdd]; omega)
            have HZ : Hid (Below w.heap.size w w3) := (below_alloc _ _).trans (S3.out.2.2.mono (by omega))
            clear hdd
            go_wp2
            refine bodyPost_ret (v := .tuple #[.slice none 0 0, .bool false]) (by simp [results, Try.results28, go_sem]) rfl ⟨HZ.out, .inl ⟨HN.out, _, rfl⟩⟩
          · have iz : ¬ (d : Int) - (arOf (I k) : Int) < 0 := by omega
            have iz' : decide ((d : Int) - (arOf (I k) : Int) < 0) = false := decide_eq_false iz
            have HG2 : Hid (∀ j, j < k + 1 → gnB (I j) (X j) (R j) = true) := fun j hj => by
              by_cases e : j = k
              · subst e; exact hgk
              · exact HG.out j (by omega)
            clear hdd hgk HG
            go_upto_region 11 with fail
            obtain ⟨l, hl⟩ : ∃ l : Nat, (d : Int) - (arOf (I k) : Int) = (l : Int) := ⟨d - arOf (I k), by omega⟩
            rw [hl] at ⊢
            have il0 : (0 : Int) ≤ (l : Int) := by omega
            have ild : (l : Int) ≤ (d : Int) := by omega
            obtain ⟨⟨y0, y1, y2⟩, yz, _⟩ := S3.out.1
            clear iz iz' wd
            have hdl : d - l = arOf (I k) := by omega
            have HRD : Hid (Rd .i64 w3.drew (if c5 = l then p5 else Option.map (fun x => x.add l) p5) (arOf (I k)) (fun j => ((opf (arI I) k j : Nat) : Int))) := by
              have h1 := rd_slice (S3.out.2.1.stk) (l := l) (by omega)
              unfold slAd at h1
              simp only [Nat.mul_one] at h1
              rw [hdl] at h1
              have h2 : Rd .i64 w3 (if c5 = l then p5 else Option.map (fun x => x.add l) p5) (arOf (I k)) (fun j => ((opf (arI I) k j : Nat) : Int)) := by
                rcases h1 with h1 | ⟨g, q, e, h1⟩
                · exact Or.inl h1
                · refine Or.inr ⟨g, q, e, fun i hi => ?_⟩
                  rw [h1 i hi]
                  have h3 := S3.out.2.1.opnd (by omega) (j := i) hi
                  rw [show d - arOf (I k) = l by omega] at h3
                  show some (Value.int .i64 ((S (l + i) : Nat) : Int)) = _
                  rw [h3]
              exact h2
            have HC : Hid (∀ w4 : World, Below w3.drew.heap.size w3.drew w4 → w4.cell? ⟨nb, 0, none⟩ = some (.int .i64 (I k)) ∧ w4.cell? ⟨nb, 1, none⟩ = some (.string (X k)) ∧ w4.cell? ⟨nb, 2, none⟩ = some (.string (R k))) := fun w4 hb4 => S3.out.1.1.below ((Below.refl _ _).drew.trans hb4)
            obtain ⟨sa, hsa⟩ : ∃ sa, (if c5 = l then p5 else Option.map (fun x => x.add l) p5) = sa := ⟨_, rfl⟩
            rw [hsa] at HRD
            have HD : Hid (∀ (w4 w5 : World) (O : Obj), Below w3.drew.heap.size w3.drew w4 → (w4.alloc O).grownBy w5 (Value.slice p4 k c4).ownBlock → w5.cell? ⟨nb, 0, none⟩ = some (.int .i64 (I k)) ∧ w5.cell? ⟨nb, 1, none⟩ = some (.string (X k)) ∧ w5.cell? ⟨nb, 2, none⟩ = some (.string (R k))) := by
              intro w4 w5 O hb4 hg5
              have hs : nb < w4.heap.size := by
                have h1 : w3.heap.size ≤ w4.heap.size := hb4.size
                omega
              obtain ⟨q0, q1, q2⟩ := HC.out w4 hb4
              have hne : (Value.slice p4 k c4).ownBlock ≠ some nb := HNB.out.1
              exact ⟨(grown_cellP hg5 (x := ⟨nb, 0, none⟩) hs hne).trans q0, (grown_cellP hg5 (x := ⟨nb, 1, none⟩) hs hne).trans q1, (grown_cellP hg5 (x := ⟨nb, 2, none⟩) hs hne).trans q2⟩
            have HT : Hid (∀ w4 : World, Below w3.drew.heap.size w3.drew w4 → Below w3.heap.size w3 w4) := fun w4 hb4 => (Below.refl _ _).drew.trans hb4
            have hk2 : k ≤ 1048576 := by omega
            have hz3 : w.heap.size + 1 ≤ w3.heap.size := by omega
            go_region_held3 (fun w' => w'.cell? ⟨nb, 0, none⟩ = some (.int .i64 (I k)) ∧ w'.cell? ⟨nb, 1, none⟩ = some (.string (X k)) ∧ w'.cell? ⟨nb, 2, none⟩ = some (.string (R k))) (go_keep)
              (first
              | (go_at_call 60; refine (copyInts_any _ (arOf (I k)) (c5 - l) (fun j => ((opf (arI I) k j : Nat) : Int)) w3.drew HRD.out (by omega)).mono ?_; rintro e w4 ⟨a6, c6, rfl, ho4, hb4, hc6, hcm6⟩; obtain ⟨u0, u1, u2⟩ := HC.out w4 hb4)
              | (refine step_append_pl (by rfl) (.tmp 34) (.tmp 41) (by rfl) (w.heap.size + 1) k (.slice p4 k c4) (plRow (plF I X R AA CC (fun _ => false) (fun _ => { data := #[] }) (fun _ => 0)) k) ⟨I k, X k, R k, false, { data := #[] }, a6, arOf (I k), c6, 0⟩ (by rfl) (plS_below S3.out.2.1.row (HT.out w4 hb4)) (by rfl) hk2 (Nat.le_trans hz3 (HT.out w4 hb4).size) ?_; intro v5 w5 hr5 hg5; obtain ⟨u0, u1, u2⟩ := HD.out w4 w5 _ hb4 hg5))
            obtain ⟨p7, c7, rfl⟩ := owns_shapeN hr5
            have S5 : Hid (PlSt w5 (w.heap.size + 1) I X R (k + 1) k (.slice p7 (k + 1) c7) (.slice p5 d c5) d (fun i => if i = k then a6 else AA i) (fun i => if i = k then c6 else CC i) S ∧ Below (w.heap.size + 1) (w.alloc (.cells #[.slice (some ⟨b, o, none⟩) n c] 25)) w5 ∧ w.heap.size + 1 ≤ w5.heap.size) := by
              have q1 := HT.out w4 hb4
              have q2 := q1.size
              have q3 := hg5.size
              simp at q3
              refine ⟨S3.out.2.1.push hz3 (q1.trans ((below_alloc _ _).mono q2)) (ho4.below (below_alloc _ _)) hc6 hcm6 hr5 hg5, ?_, by omega⟩
              exact ((S3.out.2.2.trans (q1.mono hz3)).alloc (by omega) _).grown hg5 (by simp; omega) (fun g e => (S3.out.2.1.row.lt g e).1)
            clear hr5 hg5 ho4 hb4 u0 u1 u2 y0 y1 y2 S3 HD HC HRD HT hsa HNB
            have hz5 := S5.out.2.2
            have ilc : (l : Int) ≤ (c5 : Int) := by
              have : d ≤ c5 := by
                rcases S5.out.1.stk.2 with ⟨e, _⟩ | ⟨g, cap, cur, e, _, _, h1, _⟩
                · injection e with _ e2 e3; omega
                · injection e with _ e2 e3; omega
              omega
            have hs0 : (if c5 = 0 then p5 else Option.map (fun x => x.add 0) p5) = p5 := by
              split
              · rfl
              · cases p5 with
                | none => rfl
                | some x => simp [Addr.add]
            have HN1 : Hid (∀ j u, [Value.int .i64 (k : Int)][j]? = some u → (w5.alloc (.cells #[.int .i64 (k : Int)] 3)).cell? ((⟨w5.heap.size, 0, none⟩ : Addr).add j) = some u) := cell_one_new w5 (.int .i64 (k : Int)) 3
            have HCU : Hid ((w5.alloc (.cells #[.int .i64 (k : Int)] 3)).ownsRow (w.heap.size + 1) 3 1 (.slice p5 l c5) l (intRow (fun j => ((S j : Nat) : Int)) l)) := plS_below (owns_cut S5.out.1.stk (by omega)) (below_alloc _ _)
            obtain ⟨i0, hi, hz0, hz1, hz2⟩ := info_parts Try.info3
            go_wp2_with (at_builtin; refine wpList_append_own_at _ rfl _ _ 63 rfl (w.heap.size + 1) 3 i0 (.int .i64 0) 1 8 Try.underlying63 hi hz0 hz1 hz2 rfl (by decide) (.slice p5 l c5) l _ rfl HCU.out ⟨w5.heap.size, 0, none⟩ 1 1 [.int .i64 (k : Int)] rfl rfl HN1.out (by intro u hu; simp at hu; subst hu; rfl) (by unfold maxLen; omega) (by omega) (by simp; omega) ?_)
            intro v8 w8 hr8 hg8 _ hat8
            obtain ⟨p8, c8, rfl⟩ := owns_shapeN hr8
            have S8 : Hid (PlSt w8 (w.heap.size + 1) I X R (k + 1) (k + 1) (.slice p7 (k + 1) c7) (.slice p8 (l + 1) c8) (l + 1) (fun i => if i = k then a6 else AA i) (fun i => if i = k then c6 else CC i) (fun j => if j = l then k else S j) ∧ Below (w.heap.size + 1) (w.alloc (.cells #[.slice (some ⟨b, o, none⟩) n c] 25)) w8) := by
              have el : d - arOf (I k) = l := by omega
              have hob : (Value.slice p5 l c5).ownBlock = (Value.slice p5 d c5).ownBlock := by cases p5 <;> rfl
              rw [hob] at hg8 hat8
              have hat9 : (Value.slice p8 (l + 1) c8).ownBlock = (Value.slice p5 d c5).ownBlock ∨ (Value.slice p8 (l + 1) c8).ownBlock = some (w5.alloc (.cells #[.int .i64 (k : Int)] 3)).heap.size := by
                rcases hat8 with h | h
                · exact Or.inl h
                · exact Or.inr (by rw [h]; simp)
              have h1 := S5.out.1.put (k := k) (W1 := w5.alloc (.cells #[.int .i64 (k : Int)] 3)) (W2 := w8) (v' := .slice p8 (l + 1) c8) (below_alloc _ _) (by omega) (by rw [el]; exact hr8) hg8 hat9
              rw [el] at h1
              exact ⟨h1, (S5.out.2.1.alloc hz5 _).grown hg8 (by simp; omega) (fun g e => (S5.out.1.stk.lt g e).1)⟩
            clear hr8 hg8 hat8 HCU HN1 S5 hs0 ilc
            go_wp2
            go_roundw
            case rel => exact ⟨k + 1, l + 1, _, _, _, by omega, by go_num, HG2.out, S8.out.1, by omega, S8.out.2⟩
            case measure => simp [intOf]; omega
      · have e : k = n := by omega
        subst e
        have hdd := HST.out.dd
        by_cases h1 : d = 1
        · subst h1
          have hpos : 0 < k := by omega
          obtain ⟨g, c7, e4, hg7, hpl, hc7, hcm7⟩ := plAt_ofRow HST.out.row hpos
          injection e4 with e5 e6 e7
          subst e5 e7
          have HOK : Hid (StackOk (arI I) k ∧ dep (arI I) k = 1) := ⟨HST.out.ok, hdd⟩
          have HCP : Hid (∀ i, i < k → arOf (I i) ≤ CC i ∧ CC i ≤ 9223372036854775807) := HST.out.caps
          have HPL : Hid (PlAt wr g k (plF I X R AA CC (fun _ => false) (fun _ => { data := #[] }) (fun _ => 0))) := hpl
          clear hpl hdd
          go_wp2_with fail
          refine (HME.out g k c4 (w.heap.size + 1) I X R AA CC _ _ wr HPL.out HST.out.ops HCP.out HOK.out.1 (by omega) hpos).mono ?_
          rintro e w2 ⟨rfl, hp2, hg2⟩
          have T2 : Hid (PlAt w2 g k (plF I X R AA CC (fun _ => false) (fun _ => { data := #[] }) (fun i => (hM (arI I) 100 i : Int))) ∧ (∀ i, i < k → OwnI w2 (w.heap.size + 1) (AA i) (arOf (I i)) (fun j => (opf (arI I) i j : Int))) ∧ Below w.heap.size w w2 ∧ w.heap.size + 1 ≤ w2.heap.size) := by
            have q := hg2.size
            refine ⟨hp2, fun i hi => (HST.out.ops i hi).grownP HPL.out hg2, HBW.out.grown hg2 (by omega) (fun b e => by injection e with e; omega), by omega⟩
          clear hp2 hg2 HST HB HBW HPL x0
          go_wp2_with fail
          refine (HBI.out g k c4 (w.heap.size + 1) I X R AA CC _ w2 T2.out.1 T2.out.2.1 HCP.out HOK.out.1 (by omega) hpos T2.out.2.2.2).mono ?_
          rintro e w3 ⟨rfl, Bd, Lb, hC, hp3, hg3⟩
          have T3 : Hid (PlAt w3 g k (plF I X R AA CC Bd Lb (fun i => (hM (arI I) 100 i : Int))) ∧ (∀ i, i < k → OwnI w3 (w.heap.size + 1) (AA i) (arOf (I i)) (fun j => (opf (arI I) i j : Int))) ∧ Below w.heap.size w w3) := by
            have q := hg3.size
            have q2 := T2.out.2.2.2
            refine ⟨hp3, fun i hi => (T2.out.2.1 i hi).grownP T2.out.1 hg3, T2.out.2.2.1.grown hg3 (by omega) (fun b e => by injection e with e; omega)⟩
          have HCC : Hid (C k I X Bd Lb) := hC
          clear hp3 hg3 T2 hC
          go_wp2_with fail
          refine (HLA.out g k c4 _ w3 T3.out.1 hpos (by omega)).mono ?_
          rintro e w4 ⟨rfl, hb4⟩
          have T4 : Hid (PlAt w4 g k (plF I X R AA CC Bd Lb (fun i => (hM (arI I) 100 i : Int))) ∧ (∀ i, i < k → OwnI w4 (w.heap.size + 1) (AA i) (arOf (I i)) (fun j => (opf (arI I) i j : Int))) ∧ Below w.heap.size w w4) := by
            have q := T3.out.2.2.size
            exact ⟨T3.out.1.below hb4, fun i hi => (T3.out.2.1 i hi).below hb4, T3.out.2.2.trans (hb4.mono q)⟩
          clear hb4 T3
          generalize (plF I X R AA CC Bd Lb (fun i => (hM (arI I) 100 i : Int)) (k - 1)).kind = z0
          generalize (plF I X R AA CC Bd Lb (fun i => (hM (arI I) 100 i : Int)) (k - 1)).s = z1
          generalize (plF I X R AA CC Bd Lb (fun i => (hM (arI I) 100 i : Int)) (k - 1)).t = z2
          generalize (plF I X R AA CC Bd Lb (fun i => (hM (arI I) 100 i : Int)) (k - 1)).bound = z3
          generalize (plF I X R AA CC Bd Lb (fun i => (hM (arI I) 100 i : Int)) (k - 1)).label = z4
          generalize (plF I X R AA CC Bd Lb (fun i => (hM (arI I) 100 i : Int)) (k - 1)).ad = z5
          generalize (plF I X R AA CC Bd Lb (fun i => (hM (arI I) 100 i : Int)) (k - 1)).cnt = z6
          generalize (plF I X R AA CC Bd Lb (fun i => (hM (arI I) 100 i : Int)) (k - 1)).cap = z7
          rw [show (plF I X R AA CC Bd Lb (fun i => (hM (arI I) 100 i : Int)) (k - 1)).height = ((hM (arI I) 100 (k - 1) : Nat) : Int) from rfl]
          obtain ⟨hbg, hht⟩ := vp_height hpos HOK.out.1 HOK.out.2
          have HVP : Hid (VPth k I X R ↔ hM (arI I) 100 (k - 1) ≤ 64) := by
            constructor
            · intro hv
              rw [← hht]
              exact hv.2.2.2
            · intro h6
              exact ⟨⟨by omega, by omega⟩, HG.out, hbg, by rw [hht]; exact h6⟩
          clear hbg hht
          generalize hM (arI I) 100 (k - 1) = Ht at HVP ⊢
          have fl := field_pl (.int .i64 z0) (.string z1) (.bool z3) (.slice z5 z6 z7) (.string z4) (.string z2) (.int .i64 Ht)
          by_cases h64 : Ht ≤ 64
          · have i64 : ((Ht : Nat) : Int) ≤ 64 := by omega
            have i64' : decide (((Ht : Nat) : Int) ≤ 64) = true := decide_eq_true i64
            go_wp2
            refine bodyPost_ret (v := .tuple #[.slice (some ⟨g, 0, none⟩) k c4, .bool true]) (by simp [results, Try.results28, go_sem]) rfl ⟨T4.out.2.2, .inr ⟨HVP.out.2 h64, g, c4, AA, CC, Bd, Lb, rfl, by omega, hc7, hcm7, HCC.out, T4.out.1, fun i hi => (T4.out.2.1 i hi).mono (by omega), HCP.out⟩⟩
          · have i64 : ¬ ((Ht : Nat) : Int) ≤ 64 := by omega
            have i64' : decide (((Ht : Nat) : Int) ≤ 64) = false := decide_eq_false i64
            go_wp2
            refine bodyPost_ret (v := .tuple #[.slice (some ⟨g, 0, none⟩) k c4, .bool false]) (by simp [results, Try.results28, go_sem]) rfl ⟨T4.out.2.2, .inl ⟨fun hv => h64 (HVP.out.1 hv), _, rfl⟩⟩
        · have i1 : ¬ ((d : Int) = 1) := by omega
          have i1' : ((d : Int) == 1) = false := by simpa using i1
          have HN : Hid (¬ VPth k I X R) := fun hv => by
            have h3 := (whole_iff (fun i => arOf (I i)) k (by have := hv.1; omega)).1 hv.2.2.1
            have h4 : dep (arI I) k = 1 := h3.2
            omega
          have HZ : Hid (Below w.heap.size w wr) := HBW.out
          clear hdd
          go_wp2
          refine bodyPost_ret (v := .tuple #[.slice none 0 0, .bool false]) (by simp [results, Try.results28, go_sem]) rfl ⟨HZ.out, .inl ⟨HN.out, _, rfl⟩⟩
end Go.Proofs.Ythcclkeeekppmaa

namespace Go.Proofs.Ythcclkeeekppmaa
open Go.RowKit Go.Deep
set_option linter.unusedVariables false
set_option maxRecDepth 100000

set_option maxHeartbeats 1000000 in
theorem last_any : LastOk := by
  intro g n c f w h hn h100
  obtain ⟨m, rfl⟩ : ∃ m, n = m + 1 := ⟨n - 1, by omega⟩
  obtain ⟨c0, c1, c2, c3, c4, c5, c6⟩ := h.seven (i := m) (by omega)
  have wm : IntKind.i64.wrap (((m + 1 : Nat) : Int) - 1) = (m : Int) := by rw [IntKind.wrap_i64]; omega
  have im : (m : Int) < ((m + 1 : Nat) : Int) := by omega
  have im0 : (0 : Int) ≤ (m : Int) := by omega
  have hg := h.lt
  have hne : ¬ (g = w.heap.size) := by omega
  rw [show m + 1 - 1 = m by omega]
  generalize (f m).kind = z0 at *
  generalize (f m).s = z1 at *
  generalize (f m).t = z2 at *
  generalize (f m).bound = z3 at *
  generalize (f m).label = z4 at *
  generalize (f m).ad = z5 at *
  generalize (f m).cnt = z6 at *
  generalize (f m).cap = z7 at *
  generalize (f m).height = z8 at *
  clear h
  go_enter Try.func63, Try.ntmps63
  go_wp2
  refine bodyPost_ret (v := .agg #[.int .i64 z0, .string z1, .string z2, .bool z3, .string z4, .slice z5 z6 z7, .int .i64 z8]) (by simp [results, Try.results63, go_sem]) rfl ⟨rfl, ?_⟩
  exact below_alloc _ _
end Go.Proofs.Ythcclkeeekppmaa

namespace Go.Proofs.Ythcclkeeekppmaa
open Go.RowKit Go.Deep
set_option linter.unusedVariables false
set_option maxRecDepth 100000

/-- The heights while node k is being measured, j of its operands seen. -/
def hAt (A : Nat → Nat) (k : Nat) (m : Nat) (i : Nat) : Int := if i < k then (hM A 100 i : Int) else if i = k then (m : Int) else 0
theorem hAt_lt {A : Nat → Nat} {k m i : Nat} (h : i < k) : hAt A k m i = (hM A 100 i : Int) := if_pos h
theorem hAt_at (A : Nat → Nat) (k m : Nat) : hAt A k m k = (m : Int) := by unfold hAt; rw [if_neg (by omega), if_pos rfl]

theorem plF_setH {I : Nat → Int} {X R : Nat → ByteArray} {AA : Nat → Option Addr} {CC : Nat → Nat} {Bd : Nat → Bool} {Lb : Nat → ByteArray} {k m m' : Nat} {w : World} {g n : Nat}
    (h : PlAt w g n (plF I X R AA CC Bd Lb (hAt (arI I) k m))) : PlAt (w.setCell ⟨g, k * 7 + 6, none⟩ (.int .i64 (m' : Int))) g n (plF I X R AA CC Bd Lb (hAt (arI I) k m')) := by
  refine h.set k 6 _ (by decide) (fun j hj => ?_) ?_
  · unfold plF hAt
    rw [if_neg hj, if_neg hj]
  · unfold plF
    simp [Plc.cells, hAt_at]

theorem mxO_le {A : Nat → Nat} : ∀ (f i j : Nat), mxO A (hM A f) i j ≤ f
  | f, i, 0 => Nat.zero_le _
  | f, i, j + 1 => by
    have h1 := mxO_le (A := A) f i j
    have h2 := hM_le (A := A) f (opf A i j)
    show max _ _ ≤ f
    omega

/-- A node's height out of its operands'. -/
theorem hM_of {A : Nat → Nat} {n : Nat} (h : StackOk A n) (ha : ∀ i, A i ≤ 2) (hn : n ≤ 100) {i : Nat} (hi : i < n) : 1 + mxO A (hM A 100) i (A i) = hM A 100 i := by
  show _ = 1 + mxO A (hM A 99) i (A i)
  rw [mxO_congr]
  intro m hm
  have := opf_lt h hi (ha i) hm
  exact hM_fuel h ha 100 99 _ (by omega) (by omega) (by omega)

theorem PlAt.frozen {w : World} {g n : Nat} {f : Nat → Plc} (h : PlAt w g n f) (i : Nat) : w.frozen? ⟨g, i, none⟩ = false := by
  obtain ⟨cur, hh, _⟩ := h
  simp [World.frozen?, hh]
theorem PlAt.drew {w : World} {g n : Nat} {f : Nat → Plc} (h : PlAt w g n f) : PlAt w.drew g n f := h
theorem grown_set {w W : World} {g : Nat} (h : w.grownBy W (some g)) (i : Nat) (v : Value) : w.grownBy (W.setCell ⟨g, i, none⟩ v) (some g) :=
  ⟨h.os, h.tape, h.output, by have := h.size; simpa [World.setCell] using this, fun k hk hne => by
    rw [← h.block k hk hne]
    exact Below.heap_setCell _ _ _ _ (fun e => hne (by rw [e]))⟩
theorem grown_drew {w W : World} {r : Option Nat} (h : w.grownBy W r) : w.grownBy W.drew r := ⟨h.os, h.tape, h.output, h.size, h.block⟩

set_option maxHeartbeats 4000000 in
theorem measure_any : MeasureOk := by
  intro g n c B I X R AA CC Bd Lb w hP hO hcap hok hn hn0
  have HP0 : Hid (PlAt w g n (plF I X R AA CC Bd Lb (fun _ => 0))) := hP
  have HO : Hid (∀ W : World, w.grownBy W (some g) → ∀ i, i < n → Rd .i64 W (AA i) (arOf (I i)) (fun j => (opf (arI I) i j : Int))) := fun W hW i hi => ((hO i hi).grownP hP hW).rd
  have HCP : Hid (∀ i, i < n → arOf (I i) ≤ CC i ∧ CC i ≤ 9223372036854775807) := hcap
  have HOK : Hid (StackOk (arI I) n) := hok
  clear hP hO hcap hok
  go_enter Try.func61, Try.ntmps61
  go_wp2
  go_loopw [8] (fun i wr => ∃ k : Nat, k ≤ n ∧ i = .int .i64 k ∧ PlAt wr g n (plF I X R AA CC Bd Lb (hAt (arI I) k 0)) ∧ w.grownBy wr (some g)) (fun i _ => n - (intOf i).toNat)
  case atStart =>
    refine ⟨0, Nat.zero_le _, rfl, HP0.out.congr (fun i hi => ?_), ⟨rfl, rfl, rfl, Nat.le_refl _, fun _ _ _ => rfl⟩⟩
    unfold plF hAt
    rw [if_neg (by omega)]
    by_cases e : i = 0
    · rw [if_pos e]; rfl
    · rw [if_neg e]
  case round =>
    obtain ⟨k, hk, rfl, hp, hg⟩ := hrel
    by_cases hlt : k < n
    · have ik : (k : Int) < (n : Int) := by omega
      have ik0 : (0 : Int) ≤ (k : Int) := by omega
      obtain ⟨c0, c1, c2, c3, c4, c5, c6⟩ := hp.seven hlt
      have HP : Hid (PlAt wr g n (plF I X R AA CC Bd Lb (hAt (arI I) k 0))) := hp
      have HG : Hid (w.grownBy wr (some g)) := hg
      have e5 : wr.cell? ⟨g, k * 7 + 5, none⟩ = some (.slice (AA k) (arOf (I k)) (CC k)) := c5
      have hle := arOf_le (I k)
      clear hp hg c0 c1 c2 c3 c4 c5 c6
      go_wp2
      go_loopw [19] (fun j ws => ∃ q : Nat, q ≤ arOf (I k) ∧ j = .int .i64 q ∧ PlAt ws g n (plF I X R AA CC Bd Lb (hAt (arI I) k (mxO (arI I) (hM (arI I) 100) k q))) ∧ w.grownBy ws (some g)) (fun j _ => arOf (I k) - (intOf j).toNat)
      case atStart => exact ⟨0, Nat.zero_le _, rfl, HP.out, HG.out⟩
      case round =>
        obtain ⟨q, hq, rfl, hp, hg⟩ := hrel
        by_cases hql : q < arOf (I k)
        · have iq : (q : Int) < ((arOf (I k) : Nat) : Int) := by omega
          have iq0 : (0 : Int) ≤ (q : Int) := by omega
          have hxl := opf_lt HOK.out hlt (arI_le I k) (j := q) hql
          obtain ⟨b, o, hA, hcx⟩ : ∃ b o, AA k = some ⟨b, o, none⟩ ∧ wr.cell? ⟨b, o + q, none⟩ = some (.int .i64 ((opf (arI I) k q : Nat) : Int)) := by
            rcases HO.out wr hg k hlt with h | ⟨b, o, e, hc⟩
            · omega
            · exact ⟨b, o, e, hc q hql⟩
          obtain ⟨_, _, _, _, _, _, d6⟩ := hp.seven hlt
          obtain ⟨_, _, _, _, _, _, x6⟩ := hp.seven (i := opf (arI I) k q) (by omega)
          have y6 : wr.cell? ⟨g, k * 7 + 6, none⟩ = some (.int .i64 ((mxO (arI I) (hM (arI I) 100) k q : Nat) : Int)) := by rw [d6]; show some (Value.int .i64 (hAt _ _ _ _)) = _; rw [hAt_at]
          have z6 : wr.cell? ⟨g, opf (arI I) k q * 7 + 6, none⟩ = some (.int .i64 ((hM (arI I) 100 (opf (arI I) k q) : Nat) : Int)) := by rw [x6]; show some (Value.int .i64 (hAt _ _ _ _)) = _; rw [hAt_lt hxl]
          have HP2 : Hid (PlAt wr g n (plF I X R AA CC Bd Lb (hAt (arI I) k (mxO (arI I) (hM (arI I) 100) k q)))) := hp
          have HG2 : Hid (w.grownBy wr (some g)) := hg
          have HMX : Hid (mxO (arI I) (hM (arI I) 100) k (q + 1) = max (mxO (arI I) (hM (arI I) 100) k q) (hM (arI I) 100 (opf (arI I) k q))) := rfl
          clear hp hg d6 x6
          rw [hA]
          generalize opf (arI I) k q = x at hxl hcx z6 HMX
          generalize mxO (arI I) (hM (arI I) 100) k q = M0 at y6 HP2 HMX
          generalize hM (arI I) 100 x = M1 at z6 HMX
          have ix : (x : Int) < (n : Int) := by omega
          have ix0 : (0 : Int) ≤ (x : Int) := by omega
          obtain ⟨M2, hM2, hmx⟩ : ∃ M2 : Nat, max M0 M1 = M2 ∧ (if M0 < M1 then (M1 : Int) else (M0 : Int)) = (M2 : Int) := ⟨max M0 M1, rfl, by split <;> omega⟩
          rw [hM2] at HMX
          clear hM2
          have fz := HP2.out.frozen (k * 7 + 6)
          have HPN : Hid (PlAt (wr.drew.setCell ⟨g, k * 7 + 6, none⟩ (.int .i64 (M2 : Int))) g n (plF I X R AA CC Bd Lb (hAt (arI I) k (mxO (arI I) (hM (arI I) 100) k (q + 1)))) ∧ w.grownBy (wr.drew.setCell ⟨g, k * 7 + 6, none⟩ (.int .i64 (M2 : Int))) (some g)) := ⟨by rw [HMX.out]; exact plF_setH HP2.out.drew, grown_set (grown_drew HG2.out) _ _⟩
          go_upto_region 7 with fail
          go_region
          go_wp2
          go_roundw
          case rel => exact ⟨q + 1, by omega, by go_num, HPN.out⟩
          case measure => simp [intOf]; omega
        · have e : q = arOf (I k) := by omega
          have hml := mxO_le (A := arI I) 100 k q
          have HP2 : Hid (PlAt wr g n (plF I X R AA CC Bd Lb (hAt (arI I) k (mxO (arI I) (hM (arI I) 100) k q)))) := hp
          have HG2 : Hid (w.grownBy wr (some g)) := hg
          have HMX : Hid (1 + mxO (arI I) (hM (arI I) 100) k q = hM (arI I) 100 k) := by
            rw [e]
            exact hM_of HOK.out (arI_le I) hn hlt
          obtain ⟨_, _, _, _, _, _, d6⟩ := hp.seven hlt
          have y6 : wr.cell? ⟨g, k * 7 + 6, none⟩ = some (.int .i64 ((mxO (arI I) (hM (arI I) 100) k q : Nat) : Int)) := by rw [d6]; show some (Value.int .i64 (hAt _ _ _ _)) = _; rw [hAt_at]
          have fz := HP2.out.frozen (k * 7 + 6)
          clear hp hg d6
          generalize mxO (arI I) (hM (arI I) 100) k q = M0 at y6 HP2 HMX hml
          subst e
          have wM : IntKind.i64.wrap ((M0 : Int) + 1) = (M0 : Int) + 1 := by rw [IntKind.wrap_i64]; omega
          have HPN : Hid (PlAt (wr.setCell ⟨g, k * 7 + 6, none⟩ (.int .i64 ((M0 : Int) + 1))) g n (plF I X R AA CC Bd Lb (hAt (arI I) (k + 1) 0)) ∧ w.grownBy (wr.setCell ⟨g, k * 7 + 6, none⟩ (.int .i64 ((M0 : Int) + 1))) (some g)) := by
            refine ⟨?_, grown_set HG2.out _ _⟩
            have h1 := plF_setH (m' := 1 + M0) HP2.out
            rw [show (((1 + M0 : Nat) : Int)) = (M0 : Int) + 1 by omega] at h1
            refine h1.congr (fun i hi => ?_)
            unfold plF hAt
            by_cases e1 : i < k
            · rw [if_pos e1, if_pos (by omega)]
            · by_cases e2 : i = k
              · subst e2
                rw [if_neg e1, if_pos rfl, if_pos (by omega), HMX.out]
              · rw [if_neg e1, if_neg e2, if_neg (by omega)]
                by_cases e3 : i = k + 1
                · rw [if_pos e3]; rfl
                · rw [if_neg e3]
          go_wp2
          go_roundw
          case rel => exact ⟨k + 1, by omega, by go_num, HPN.out⟩
          case measure => simp [intOf]; omega
    · have e : k = n := by omega
      subst e
      have HPN : Hid (PlAt wr g k (plF I X R AA CC Bd Lb (fun i => (hM (arI I) 100 i : Int))) ∧ w.grownBy wr (some g)) := by
        refine ⟨hp.congr (fun i hi => ?_), hg⟩
        unfold plF hAt
        rw [if_pos hi]
      clear hp hg
      go_wp2
      go_end0
      exact ⟨rfl, HPN.out⟩
end Go.Proofs.Ythcclkeeekppmaa

namespace Go.Proofs.Ythcclkeeekppmaa
open Go.RowKit Go.Deep Go.Shelf
set_option linter.unusedVariables false
set_option maxRecDepth 100000
attribute [local go_sem] Oper.semAt_some

/-- What a round is handed: a node's number, and whatever context stands there. -/
def XP (n : Nat) : Type := { x : Nat × Bool × ByteArray // x.1 < n }
def encP (I : Nat → Int) (X R : Nat → ByteArray) (AA : Nat → Option Addr) (CC : Nat → Nat) (H : Nat → Int) {n : Nat} (x : XP n) : Array Value :=
  #[.int .i64 (x.1.1 : Int), .agg #[.int .i64 (I x.1.1), .string (X x.1.1), .string (R x.1.1), .bool x.1.2.1, .string x.1.2.2, .slice (AA x.1.1) (arOf (I x.1.1)) (CC x.1.1), .int .i64 (H x.1.1)]]

/-- The row of places whatever the contexts. -/
def AnyPl (W : World) (g n : Nat) (I : Nat → Int) (X R : Nat → ByteArray) (AA : Nat → Option Addr) (CC : Nat → Nat) (H : Nat → Int) : Prop := ∃ Bd Lb, PlAt W g n (plF I X R AA CC Bd Lb H)

/-- What a round keeps. -/
def KpB (Bs g n : Nat) (I : Nat → Int) (X R : Nat → ByteArray) (AA : Nat → Option Addr) (CC : Nat → Nat) (H : Nat → Int) (W W' : World) : Prop :=
  (∀ v, W.cell? ⟨Bs, 0, none⟩ = some v → W'.cell? ⟨Bs, 0, none⟩ = some v) ∧ (AnyPl W g n I X R AA CC H → AnyPl W' g n I X R AA CC H)

set_option maxHeartbeats 4000000 in
theorem bw1_in (F : Fence) (nn : Nat) (hf : F.fn 116) (hro : F.round = none) (hn : 1 ≤ nn) (l Bs g n c : Nat) (I : Nat → Int) (X R : Nat → ByteArray) (AA : Nat → Option Addr) (CC : Nat → Nat) (H : Nat → Int) (hn0 : n ≤ 100) (J Jx : List (XP n) → World → Prop)
    (hY : ∀ pre x W, J pre W → pre.length < n → YieldAt F (nn - 1) Try.prog l (encP I X R AA CC H x) W fun e W' =>
      (e = .returned (.bool true) ∧ J (pre ++ [x]) W' ∧ KpB Bs g n I X R AA CC H W W') ∨ (e = .returned (.bool false) ∧ Jx (pre ++ [x]) W'))
    (W : World) (hBs : W.cell? ⟨Bs, 0, none⟩ = some (.slice (some ⟨g, 0, none⟩) n c)) (hP : AnyPl W g n I X R AA CC H) (h0 : J [] W) :
    CallsIn F nn Try.prog 116 #[.func (.yield l) #[] #[], .pointer (some ⟨Bs, 0, none⟩)] W fun e W' => (∃ v, e = .returned v) ∧ ((∃ xs : List (XP n), True ∧ J xs W') ∨ (∃ pre : List (XP n), True ∧ Jx pre W')) := by
  have HY : Hid (∀ pre x W, J pre W → pre.length < n → YieldAt F (nn - 1) Try.prog l (encP I X R AA CC H x) W fun e W' =>
      (e = .returned (.bool true) ∧ J (pre ++ [x]) W' ∧ KpB Bs g n I X R AA CC H W W') ∨ (e = .returned (.bool false) ∧ Jx (pre ++ [x]) W')) := hY
  have HP : Hid (AnyPl W g n I X R AA CC H) := hP
  have wn : IntKind.i64.wrap ((n : Int) - 1) = (n : Int) - 1 := by rw [IntKind.wrap_i64]; omega
  clear hY hP
  refine callsIn_of_wp Try.func116 rfl hf ?_ hro
  simp only [Try.ntmps116, List.size_toArray, List.length_cons, List.length_nil, Nat.reduceAdd, Nat.reduceSub, Array.replicate_succ, Array.replicate_zero, List.push_toArray, List.append_toArray, List.nil_append, List.cons_append]
  gi_wp2
  gi_loopw [3] (fun i wr => ∃ (k : Nat) (pre : List (XP n)), k ≤ n ∧ i = .int .i64 ((k : Int) - 1) ∧ pre.length = n - k ∧ J pre wr ∧ wr.cell? ⟨Bs, 0, none⟩ = some (.slice (some ⟨g, 0, none⟩) n c) ∧ AnyPl wr g n I X R AA CC H) (fun i _ => (intOf i + 1).toNat)
  case atStart => exact ⟨n, [], Nat.le_refl _, rfl, by simp, h0, hBs, HP.out⟩
  case round =>
    obtain ⟨k, pre, hk, rfl, hpl, hJ, hb, hp⟩ := hrel
    cases k with
    | zero =>
      have i0 : ¬ ((0 : Int) ≤ ((0 : Nat) : Int) - 1) := by omega
      gi_wp2
      go_end0
      exact ⟨⟨_, rfl⟩, .inl ⟨pre, by first | exact hJ | exact ⟨trivial, hJ⟩⟩⟩
    | succ k =>
      obtain ⟨Bd, Lb, hpp⟩ := hp
      have ek : (((k + 1 : Nat) : Int)) - 1 = (k : Int) := by omega
      rw [ek]
      have ik0 : (0 : Int) ≤ (k : Int) := by omega
      have ikn : (k : Int) < (n : Int) := by omega
      have wk : IntKind.i64.wrap ((k : Int) - 1) = (k : Int) - 1 := by rw [IntKind.wrap_i64]; omega
      obtain ⟨c0, c1, c2, c3, c4, c5, c6⟩ := hpp.seven (i := k) (by omega)
      obtain ⟨fn, tmps, assign, body, hy, hR⟩ := HY.out pre (⟨(k, Bd k, Lb k), by show k < n; omega⟩ : XP n) wr hJ (by omega)
      unfold encP at hy
      dsimp only at hy
      have HPP : Hid (PlAt wr g n (plF I X R AA CC Bd Lb H)) := hpp
      clear hpp
      dsimp only [plF] at c0 c1 c2 c3 c4 c5 c6
      gi_wp2
      refine hR.mono ?_
      rintro e W3 (⟨rfl, hJ3, hk3⟩ | ⟨rfl, hJx3⟩)
      · have hb3 := hk3.1 _ hb
        have HP3 := hk3.2 ⟨Bd, Lb, HPP.out⟩
        gi_wp2
        go_roundw
        case rel => exact ⟨k, _, by omega, by first | rfl | rw [wk], by rw [List.length_append, hpl]; show n - (k + 1) + 1 = n - k; omega, hJ3, hb3, HP3⟩
        case measure => first | (simp [intOf]; done) | (simp [intOf]; omega)
      · gi_wp2
        refine bodyPost_ret (results_none rfl _ _ _) rfl ?_
        exact ⟨⟨_, rfl⟩, .inr ⟨_, by first | exact hJx3 | exact ⟨trivial, hJx3⟩⟩⟩

set_option maxHeartbeats 1000000 in
theorem bw_in (F : Fence) (nn : Nat) (hf : F.fn 99) (hro : F.round = none) (v : Value) (p : Option Addr) (k c : Nat) (hv : v = .slice p k c) (w : World) :
    CallsIn F nn Try.prog 99 #[.slice p k c] w fun e w' => e = .returned (.func (.func 116) #[] #[.pointer (some ⟨w.heap.size, 0, none⟩)]) ∧ w' = w.alloc (.cells #[.slice p k c] 57) := by
  refine callsIn_of_wp Try.func99 rfl hf ?_ hro
  simp only [Try.ntmps99, List.size_toArray, List.length_cons, List.length_nil, Nat.reduceAdd, Nat.reduceSub, Array.replicate_succ, Array.replicate_zero, List.push_toArray, List.append_toArray, List.nil_append, List.cons_append]
  gi_wp2
  go_ret
  exact ⟨rfl, rfl⟩

theorem bw_stops (F : Fence) (nn : Nat) (hf : F.fn 116) (hro : F.round = none) (hn : 1 ≤ nn) (Bs g n c : Nat) (I : Nat → Int) (X R : Nat → ByteArray) (AA : Nat → Option Addr) (CC : Nat → Nat) (H : Nat → Int) (hn0 : n ≤ 100) (w : World)
    (hc : w.cell? ⟨Bs, 0, none⟩ = some (.slice (some ⟨g, 0, none⟩) n c)) (hP : AnyPl w g n I X R AA CC H) :
    SeqStopsK F nn Try.prog 116 #[.pointer (some ⟨Bs, 0, none⟩)] (fun x : XP n => encP I X R AA CC H x) (KpB Bs g n I X R AA CC H) (fun _ => True) (fun _ => True) n w := fun l J Jx W hW _ _ hY h0 =>
  bw1_in F nn hf hro hn l Bs g n c I X R AA CC H hn0 J Jx hY W ((hW.cell (p := ⟨Bs, 0, none⟩) (World.block_lt_of_cell? _ _ hc)).trans hc) (by obtain ⟨Bd, Lb, h⟩ := hP; exact ⟨Bd, Lb, h.below hW⟩) h0
end Go.Proofs.Ythcclkeeekppmaa

namespace Go.Proofs.Ythcclkeeekppmaa
open Go.RowKit Go.Deep Go.Shelf
set_option linter.unusedVariables false
set_option maxRecDepth 100000
attribute [local go_sem] Oper.semAt_some

theorem plF_setC {I : Nat → Int} {X R : Nat → ByteArray} {AA : Nat → Option Addr} {CC : Nat → Nat} {Bd : Nat → Bool} {Lb : Nat → ByteArray} {H : Nat → Int} {x : Nat} {b : Bool} {l : ByteArray} {w : World} {g n : Nat}
    (h : PlAt w g n (plF I X R AA CC Bd Lb H)) : PlAt ((w.setCell ⟨g, x * 7 + 3, none⟩ (.bool b)).setCell ⟨g, x * 7 + 4, none⟩ (.string l)) g n (plF I X R AA CC (fun i => if i = x then b else Bd i) (fun i => if i = x then l else Lb i) H) := by
  have h1 : PlAt (w.setCell ⟨g, x * 7 + 3, none⟩ (.bool b)) g n (plF I X R AA CC (fun i => if i = x then b else Bd i) Lb H) := by
    refine h.set x 3 _ (by decide) (fun j hj => ?_) ?_
    · unfold plF; simp only [if_neg hj]
    · unfold plF; simp [Plc.cells]
  refine h1.set x 4 _ (by decide) (fun j hj => ?_) ?_
  · unfold plF; simp only [if_neg hj]
  · unfold plF; simp [Plc.cells]

section
variable {g n Bs : Nat} {I : Nat → Int} {X R : Nat → ByteArray} {AA : Nat → Option Addr} {CC : Nat → Nat} {H : Nat → Int} {w W W' : World} {row : Option Nat}

theorem blk_kept {k : Nat} {cs : Array Value} {t : TypeId} (h : W.heap[k]? = some (.cells cs t (0, 0))) (hg : W.grownBy W' row) (hr : ∀ r, row = some r → ∃ o : Obj, W.heap[r]? = some o ∧ o.isCells = false) : W'.heap[k]? = some (.cells cs t (0, 0)) := by
  refine (hg.block k (Array.getElem?_eq_some_iff.1 h).1 (fun e => ?_)).trans h
  obtain ⟨o, ho, hc⟩ := hr k e.symm
  rw [h] at ho
  injection ho with ho
  subst ho
  cases hc
theorem AnyPl.kept (h : AnyPl W g n I X R AA CC H) (hg : W.grownBy W' row) (hr : ∀ r, row = some r → ∃ o : Obj, W.heap[r]? = some o ∧ o.isCells = false) : AnyPl W' g n I X R AA CC H := by
  obtain ⟨Bd, Lb, cur, hh, h1, h2⟩ := h
  exact ⟨Bd, Lb, cur, blk_kept hh hg hr, h1, h2⟩
theorem kpB_of (hg : W.grownBy W' row) (hr : ∀ r, row = some r → ∃ o : Obj, W.heap[r]? = some o ∧ o.isCells = false) : KpB Bs g n I X R AA CC H W W' :=
  ⟨fun v hv => cell_kept hv hg hr, fun h => h.kept hg hr⟩
theorem KpB.refl (W : World) : KpB Bs g n I X R AA CC H W W := ⟨fun _ h => h, fun h => h⟩
theorem KpB.trans {A B C : World} (h : KpB Bs g n I X R AA CC H A B) (k : KpB Bs g n I X R AA CC H B C) : KpB Bs g n I X R AA CC H A C := ⟨fun v hv => k.1 v (h.1 v hv), fun q => k.2 (h.2 q)⟩
theorem kpB_alloc (W : World) (o : Obj) : KpB Bs g n I X R AA CC H W (W.alloc o) := kpB_of (World.grownBy_alloc W o none) (fun r e => by cases e)
theorem grown_more {w W W' : World} {row : Option Nat} {g B : Nat} (h : w.grownBy W (some g)) (hg : W.grownBy W' row) (hr : ∀ r, row = some r → B ≤ r) (hB : w.heap.size ≤ B) : w.grownBy W' (some g) :=
  ⟨hg.os.trans h.os, hg.tape.trans h.tape, hg.output.trans h.output, Nat.le_trans h.size hg.size, fun k hk hne => by
    rw [← h.block k hk hne]
    exact hg.block k (Nat.lt_of_lt_of_le hk h.size) (fun e => by have := hr k e.symm; omega)⟩
end

/-- What holds between two rounds. -/
structure BSt (w W : World) (g n c : Nat) (I : Nat → Int) (X R : Nat → ByteArray) (AA : Nat → Option Addr) (CC : Nat → Nat) (H : Nat → Int) : Prop where
  pl : AnyPl W g n I X R AA CC H
  gr : w.grownBy W (some g)
  b0 : W.heap[w.heap.size]? = some (.cells #[.slice (some ⟨g, 0, none⟩) n c] 57 (0, 0))
  b1 : W.heap[w.heap.size + 1]? = some (.cells #[.slice (some ⟨g, 0, none⟩) n c] 57 (0, 0))

section
variable {w W W' : World} {g n c B : Nat} {I : Nat → Int} {X R : Nat → ByteArray} {AA : Nat → Option Addr} {CC : Nat → Nat} {H : Nat → Int} {row : Option Nat}
theorem BSt.kept (h : BSt w W g n c I X R AA CC H) (hg : W.grownBy W' row) (hr : ∀ r, row = some r → B ≤ r ∧ ∃ o : Obj, W.heap[r]? = some o ∧ o.isCells = false) (hB : w.heap.size ≤ B) : BSt w W' g n c I X R AA CC H :=
  ⟨h.pl.kept hg (fun r e => (hr r e).2), grown_more h.gr hg (fun r e => (hr r e).1) hB, blk_kept h.b0 hg (fun r e => (hr r e).2), blk_kept h.b1 hg (fun r e => (hr r e).2)⟩
theorem BSt.alloc (h : BSt w W g n c I X R AA CC H) (o : Obj) : BSt w (W.alloc o) g n c I X R AA CC H :=
  h.kept (B := w.heap.size) (World.grownBy_alloc W o none) (fun r e => by cases e) (Nat.le_refl _)
/-- A context set. -/
theorem BSt.set (h : BSt w W g n c I X R AA CC H) (hg : g < w.heap.size) (x : Nat) (b : Bool) (l : ByteArray) : BSt w ((W.setCell ⟨g, x * 7 + 3, none⟩ (.bool b)).setCell ⟨g, x * 7 + 4, none⟩ (.string l)) g n c I X R AA CC H := by
  obtain ⟨Bd, Lb, hp⟩ := h.pl
  refine ⟨⟨_, _, plF_setC hp⟩, grown_set (grown_set h.gr _ _) _ _, ?_, ?_⟩
  · rw [Below.heap_setCell _ _ _ _ (by show w.heap.size ≠ g; omega), Below.heap_setCell _ _ _ _ (by show w.heap.size ≠ g; omega)]; exact h.b0
  · rw [Below.heap_setCell _ _ _ _ (by show w.heap.size + 1 ≠ g; omega), Below.heap_setCell _ _ _ _ (by show w.heap.size + 1 ≠ g; omega)]; exact h.b1
/-- A box of the round's own set. -/
theorem BSt.other (h : BSt w W g n c I X R AA CC H) {p : Addr} (hp : w.heap.size + 2 ≤ p.block) (hg : g < w.heap.size) (v : Value) : BSt w (W.setCell p v) g n c I X R AA CC H := by
  obtain ⟨Bd, Lb, hq⟩ := h.pl
  refine ⟨⟨_, _, hq.other (by omega) v⟩, ⟨h.gr.os, h.gr.tape, h.gr.output, by have := h.gr.size; simpa [World.setCell] using this, fun k hk hne => by rw [← h.gr.block k hk hne]; exact Below.heap_setCell _ _ _ _ (by omega)⟩, ?_, ?_⟩
  · rw [Below.heap_setCell _ _ _ _ (by omega)]; exact h.b0
  · rw [Below.heap_setCell _ _ _ _ (by omega)]; exact h.b1
theorem BSt.kp (h : BSt w W g n c I X R AA CC H) (h' : BSt w W' g n c I X R AA CC H) : KpB (w.heap.size + 1) g n I X R AA CC H W W' := by
  refine ⟨fun v hv => ?_, fun _ => h'.pl⟩
  have e1 : W.cell? ⟨w.heap.size + 1, 0, none⟩ = some (.slice (some ⟨g, 0, none⟩) n c) := by simp [World.cell?, h.b1]
  have e2 : W'.cell? ⟨w.heap.size + 1, 0, none⟩ = some (.slice (some ⟨g, 0, none⟩) n c) := by simp [World.cell?, h'.b1]
  rw [e2, ← e1]
  exact hv
end

set_option maxHeartbeats 8000000 in
theorem bind_in (F : Fence) (nn : Nat) (h3 : F.fn 62) (h4 : F.fn 99) (h5 : F.fn 116) (hro : F.round = none) (hnn : 6 ≤ nn)
    (g n c B : Nat) (I : Nat → Int) (X R : Nat → ByteArray) (AA : Nat → Option Addr) (CC : Nat → Nat) (H : Nat → Int) (w : World)
    (hP : AnyPl w g n I X R AA CC H) (hO : ∀ i, i < n → OwnI w B (AA i) (arOf (I i)) (fun j => (opf (arI I) i j : Int))) (hcap : ∀ i, i < n → arOf (I i) ≤ CC i ∧ CC i ≤ 9223372036854775807) (hok : StackOk (arI I) n) (hn : n ≤ 100) (hn0 : 0 < n) :
    CallsIn F nn Try.prog 62 #[.slice (some ⟨g, 0, none⟩) n c] w fun e w' => e = .returned (.tuple #[]) ∧ AnyPl w' g n I X R AA CC H ∧ w.grownBy w' (some g) := by
  have h1 : 1 ≤ nn := by omega
  have hgl : g < w.heap.size := by obtain ⟨Bd, Lb, h⟩ := hP; exact h.lt
  have HO : Hid (∀ W : World, w.grownBy W (some g) → ∀ i, i < n → Rd .i64 W (AA i) (arOf (I i)) (fun j => (opf (arI I) i j : Int))) := fun W hW i hi => by
    obtain ⟨Bd, Lb, h⟩ := hP
    exact ((hO i hi).grownP h hW).rd
  have HCP : Hid (∀ i, i < n → arOf (I i) ≤ CC i ∧ CC i ≤ 9223372036854775807) := hcap
  have HOK : Hid (StackOk (arI I) n) := hok
  have HP : Hid (AnyPl w g n I X R AA CC H) := hP
  clear hP hO hcap hok
  refine callsIn_of_wp_marks Try.func62 rfl h3 ?_ hro
  simp only [Try.ntmps62, List.size_toArray, List.length_cons, List.length_nil, Nat.reduceAdd, Nat.reduceSub, Array.replicate_succ, Array.replicate_zero, List.push_toArray, List.append_toArray, List.nil_append, List.cons_append]
  gi_wp2_with (gi_at_call 99; refine (bw_in F (nn - 1) h4 hro _ _ _ _ rfl _).mono ?_; rintro e w' ⟨rfl, rfl⟩)
  have HS0 : Hid (BSt w ((w.alloc (.cells #[.slice (some ⟨g, 0, none⟩) n c] 57)).alloc (.cells #[.slice (some ⟨g, 0, none⟩) n c] 57)) g n c I X R AA CC H ∧ ((w.alloc (.cells #[.slice (some ⟨g, 0, none⟩) n c] 57)).alloc (.cells #[.slice (some ⟨g, 0, none⟩) n c] 57)).heap.size = w.heap.size + 2) := by
    refine ⟨⟨?_, ?_, ?_, ?_⟩, by simp⟩
    · exact (HP.out.kept (World.grownBy_alloc _ _ none) (fun r e => by cases e)).kept (World.grownBy_alloc _ _ none) (fun r e => by cases e)
    · exact grown_more (B := w.heap.size) (grown_more (B := w.heap.size) ⟨rfl, rfl, rfl, Nat.le_refl _, fun _ _ _ => rfl⟩ (World.grownBy_alloc _ _ none) (fun r e => by cases e) (Nat.le_refl _)) (World.grownBy_alloc _ _ none) (fun r e => by cases e) (Nat.le_refl _)
    · exact (Below.heap_alloc _ _ _ (by simp)).trans (World.alloc_heap_new w _)
    · have := World.alloc_heap_new (w.alloc (.cells #[.slice (some ⟨g, 0, none⟩) n c] 57)) (.cells #[.slice (some ⟨g, 0, none⟩) n c] 57)
      rwa [World.size_alloc] at this
  generalize ((w.alloc (.cells #[.slice (some ⟨g, 0, none⟩) n c] 57)).alloc (.cells #[.slice (some ⟨g, 0, none⟩) n c] 57)) = W0 at HS0 ⊢
  have hsz := HS0.out.2
  have hcl : W0.cell? ⟨w.heap.size + 1, 0, none⟩ = some (.slice (some ⟨g, 0, none⟩) n c) := by simp [World.cell?, HS0.out.1.b1]
  refine wpIn_rangeFunc_ownH hro h1 (gf := 116) (lb := #[.pointer (some ⟨w.heap.size + 1, 0, none⟩)]) rfl h5 (enters_of Try.func116 (by kernel_rfl) rfl)
    (bw_stops F (nn - 1) h5 hro (by omega) (w.heap.size + 1) g n c I X R AA CC H hn W0 hcl HS0.out.1.pl) (fun h k => h.trans k) (fun W l o o' _ hl hc _ => kpB_of (grownBy_putObj' W l o') (fun r e => by cases e; exact ⟨o, hl, hc⟩)) (Below.refl _ _) (fun _ => rfl)
    (fun pre W => BSt w W g n c I X R AA CC H) (fun _ _ _ => False)
    (fun s A B row hs hg hr => hs.kept hg hr (by omega)) (fun _ _ _ _ _ hs _ _ => hs) HS0.out.1
    (fun x a' W => ∃ Bx, w.heap.size + 2 ≤ Bx ∧ W.heap[Bx]? = some (.cells #[.int .i64 (I x.1.1), .string (X x.1.1), .string (R x.1.1), .bool x.1.2.1, .string x.1.2.2, .slice (AA x.1.1) (arOf (I x.1.1)) (CC x.1.1), .int .i64 (H x.1.1)] 65 (0, 0)) ∧ a' = { tmps := #[.slice (some ⟨g, 0, none⟩) n c, .pointer (some ⟨w.heap.size, 0, none⟩), undef, .pointer (some ⟨Bx, 0, none⟩), undef, undef, undef, .slice (some ⟨g, 0, none⟩) n c, .func (.func 116) #[] #[.pointer (some ⟨w.heap.size + 1, 0, none⟩)], .int .i64 (x.1.1 : Int), .agg #[.int .i64 (I x.1.1), .string (X x.1.1), .string (R x.1.1), .bool x.1.2.1, .string x.1.2.2, .slice (AA x.1.1) (arOf (I x.1.1)) (CC x.1.1), .int .i64 (H x.1.1)], undef, undef, undef, undef, undef, undef, undef, undef, undef, undef, undef, undef, undef, undef, undef, undef, undef, undef, undef, undef, undef, undef, undef], defers := [] })
    (fun x a' _ A B row hs hg hr => by obtain ⟨Bx, h1, h2, h3⟩ := hs; exact ⟨Bx, h1, blk_kept h2 hg (fun r e => (hr r e).2), h3⟩)
    ?assign ?body ?done ?stop
  case assign =>
    rintro l pre ⟨⟨i, b, lb⟩, hi⟩ W K hs hK
    have HS : Hid (BSt w W g n c I X R AA CC H) := hs
    clear hs
    dsimp only [encP]
    gi_wp2
    have z := HS.out.gr.size
    have zz := (Array.getElem?_eq_some_iff.1 HS.out.b1).1
    exact hK _ _ ((KeepsOthers.alloc _ _).from _) (kpB_alloc _ _) (HS.out.alloc _) ⟨W.heap.size, by omega, World.alloc_heap_new W _, rfl⟩
  case body =>
    rintro l pre ⟨⟨i, b, lb⟩, hi⟩ a' W hl ⟨r, hr⟩ hs ⟨Bx, hBx, bX, rfl⟩ hlt
    have HS : Hid (BSt w W g n c I X R AA CC H) := hs
    have hzW := (Array.getElem?_eq_some_iff.1 hs.b1).1
    have hle := arOf_le (I i)
    have hbl := (Array.getElem?_eq_some_iff.1 bX).1
    have c0 : W.cell? ⟨Bx, 0, none⟩ = some (.int .i64 (I i)) := by simp [World.cell?, bX]
    have c1 : W.cell? ⟨Bx, 1, none⟩ = some (.string (X i)) := by simp [World.cell?, bX]
    have c3 : W.cell? ⟨Bx, 3, none⟩ = some (.bool b) := by simp [World.cell?, bX]
    have c4 : W.cell? ⟨Bx, 4, none⟩ = some (.string lb) := by simp [World.cell?, bX]
    have c5 : W.cell? ⟨Bx, 5, none⟩ = some (.slice (AA i) (arOf (I i)) (CC i)) := by simp [World.cell?, bX]
    have hne : ¬ (Bx = W.heap.size) := by omega
    dsimp only
    clear hs bX hr
    obtain ⟨m, hm⟩ : ∃ m, arOf (I i) = m := ⟨_, rfl⟩
    have HM : Hid (arOf (I i) = m) := hm
    rw [hm] at hle c5 ⊢
    clear hm
    by_cases h9 : I i = 9
    · have i9 : (I i == 9) = true := by simp [h9]
      have S1 : Hid (BSt w (W.alloc (.cells #[.bool true, .string (X i)] 62)) g n c I X R AA CC H ∧ KeepsOthers W (W.alloc (.cells #[.bool true, .string (X i)] 62)) ∧ (W.alloc (.cells #[.bool true, .string (X i)] 62)).heap[W.heap.size]? = some (.cells #[.bool true, .string (X i)] 62 (0, 0))) := ⟨HS.out.alloc _, KeepsOthers.alloc _ _, World.alloc_heap_new W _⟩
      gi_wp2
      gi_loopw [24] (fun j wr => ∃ q : Nat, q ≤ m ∧ j = .int .i64 q ∧ BSt w wr g n c I X R AA CC H ∧ KeepsOthers W wr ∧ wr.heap[W.heap.size]? = some (.cells #[.bool true, .string (X i)] 62 (0, 0))) (fun j _ => m - (intOf j).toNat)
      case atStart => exact ⟨0, Nat.zero_le _, rfl, S1.out.1, S1.out.2.1, S1.out.2.2⟩
      case round =>
        obtain ⟨q, hq, rfl, hs2, hko, hcx⟩ := hrel
        have S2 : Hid (BSt w wr g n c I X R AA CC H ∧ KeepsOthers W wr ∧ wr.heap[W.heap.size]? = some (.cells #[.bool true, .string (X i)] 62 (0, 0))) := ⟨hs2, hko, hcx⟩
        have x0 : wr.cell? ⟨w.heap.size, 0, none⟩ = some (.slice (some ⟨g, 0, none⟩) n c) := by simp [World.cell?, hs2.b0]
        have y0 : wr.cell? ⟨W.heap.size, 0, none⟩ = some (.bool true) := by simp [World.cell?, hcx]
        have y1 : wr.cell? ⟨W.heap.size, 1, none⟩ = some (.string (X i)) := by simp [World.cell?, hcx]
        clear hs2 hko hcx
        by_cases hql : q < m
        · have iq : (q : Int) < ((m : Nat) : Int) := by omega
          have iq0 : (0 : Int) ≤ (q : Int) := by omega
          have hxl := opf_lt HOK.out hi (arI_le I i) (j := q) (by show q < arOf (I i); rw [HM.out]; exact hql)
          obtain ⟨gb, go, hA, hcx⟩ : ∃ gb go, AA i = some ⟨gb, go, none⟩ ∧ wr.cell? ⟨gb, go + q, none⟩ = some (.int .i64 ((opf (arI I) i q : Nat) : Int)) := by
            rcases HO.out wr S2.out.1.gr i hi with h | ⟨gb, go, e, hc⟩
            · rw [HM.out] at h; omega
            · exact ⟨gb, go, e, hc q (by rw [HM.out]; exact hql)⟩
          rw [hA]
          generalize opf (arI I) i q = x at hxl hcx
          have ix : (x : Int) < (n : Int) := by omega
          have ix0 : (0 : Int) ≤ (x : Int) := by omega
          obtain ⟨f3, f4, d3, d4⟩ : wr.frozen? ⟨g, x * 7 + 3, none⟩ = false ∧ wr.frozen? ⟨g, x * 7 + 4, none⟩ = false ∧ (∃ v, wr.cell? ⟨g, x * 7 + 3, none⟩ = some v) ∧ (∃ v, wr.cell? ⟨g, x * 7 + 4, none⟩ = some v) := by
            obtain ⟨Bd, Lb, hp⟩ := S2.out.1.pl
            obtain ⟨_, _, _, d3, d4, _, _⟩ := hp.seven (i := x) (by omega)
            exact ⟨hp.frozen _, hp.frozen _, ⟨_, d3⟩, ⟨_, d4⟩⟩
          obtain ⟨v3, d3⟩ := d3
          obtain ⟨v4, d4⟩ := d4
          have S3 : Hid (BSt w ((wr.setCell ⟨g, x * 7 + 3, none⟩ (.bool true)).setCell ⟨g, x * 7 + 4, none⟩ (.string (X i))) g n c I X R AA CC H ∧ KeepsOthers W ((wr.setCell ⟨g, x * 7 + 3, none⟩ (.bool true)).setCell ⟨g, x * 7 + 4, none⟩ (.string (X i))) ∧ ((wr.setCell ⟨g, x * 7 + 3, none⟩ (.bool true)).setCell ⟨g, x * 7 + 4, none⟩ (.string (X i))).heap[W.heap.size]? = some (.cells #[.bool true, .string (X i)] 62 (0, 0))) := by
            refine ⟨S2.out.1.set hgl x _ _, (S2.out.2.1.trans (KeepsOthers.setCell _ _ _)).trans (KeepsOthers.setCell _ _ _), ?_⟩
            rw [Below.heap_setCell _ _ _ _ (by show W.heap.size ≠ g; omega), Below.heap_setCell _ _ _ _ (by show W.heap.size ≠ g; omega)]
            exact S2.out.2.2
          gi_wp2
          go_roundw
          case rel => exact ⟨q + 1, by omega, by go_num, S3.out⟩
          case measure => simp [intOf]; omega
        · have e : q = m := by omega
          subst e
          gi_wp2
          exact ⟨S2.out.2.1.from _, HS.out.kp S2.out.1, S2.out.1⟩
    · have i9 : (I i == 9) = false := by simp [h9]
      have S1 : Hid (BSt w (W.alloc (.cells #[.bool b, .string lb] 62)) g n c I X R AA CC H ∧ KeepsOthers W (W.alloc (.cells #[.bool b, .string lb] 62)) ∧ (W.alloc (.cells #[.bool b, .string lb] 62)).heap[W.heap.size]? = some (.cells #[.bool b, .string lb] 62 (0, 0))) := ⟨HS.out.alloc _, KeepsOthers.alloc _ _, World.alloc_heap_new W _⟩
      gi_wp2
      gi_loopw [24] (fun j wr => ∃ q : Nat, q ≤ m ∧ j = .int .i64 q ∧ BSt w wr g n c I X R AA CC H ∧ KeepsOthers W wr ∧ wr.heap[W.heap.size]? = some (.cells #[.bool b, .string lb] 62 (0, 0))) (fun j _ => m - (intOf j).toNat)
      case atStart => exact ⟨0, Nat.zero_le _, rfl, S1.out.1, S1.out.2.1, S1.out.2.2⟩
      case round =>
        obtain ⟨q, hq, rfl, hs2, hko, hcx⟩ := hrel
        have S2 : Hid (BSt w wr g n c I X R AA CC H ∧ KeepsOthers W wr ∧ wr.heap[W.heap.size]? = some (.cells #[.bool b, .string lb] 62 (0, 0))) := ⟨hs2, hko, hcx⟩
        have x0 : wr.cell? ⟨w.heap.size, 0, none⟩ = some (.slice (some ⟨g, 0, none⟩) n c) := by simp [World.cell?, hs2.b0]
        have y0 : wr.cell? ⟨W.heap.size, 0, none⟩ = some (.bool b) := by simp [World.cell?, hcx]
        have y1 : wr.cell? ⟨W.heap.size, 1, none⟩ = some (.string lb) := by simp [World.cell?, hcx]
        clear hs2 hko hcx
        by_cases hql : q < m
        · have iq : (q : Int) < ((m : Nat) : Int) := by omega
          have iq0 : (0 : Int) ≤ (q : Int) := by omega
          have hxl := opf_lt HOK.out hi (arI_le I i) (j := q) (by show q < arOf (I i); rw [HM.out]; exact hql)
          obtain ⟨gb, go, hA, hcx⟩ : ∃ gb go, AA i = some ⟨gb, go, none⟩ ∧ wr.cell? ⟨gb, go + q, none⟩ = some (.int .i64 ((opf (arI I) i q : Nat) : Int)) := by
            rcases HO.out wr S2.out.1.gr i hi with h | ⟨gb, go, e, hc⟩
            · rw [HM.out] at h; omega
            · exact ⟨gb, go, e, hc q (by rw [HM.out]; exact hql)⟩
          rw [hA]
          generalize opf (arI I) i q = x at hxl hcx
          have ix : (x : Int) < (n : Int) := by omega
          have ix0 : (0 : Int) ≤ (x : Int) := by omega
          obtain ⟨f3, f4, d3, d4⟩ : wr.frozen? ⟨g, x * 7 + 3, none⟩ = false ∧ wr.frozen? ⟨g, x * 7 + 4, none⟩ = false ∧ (∃ v, wr.cell? ⟨g, x * 7 + 3, none⟩ = some v) ∧ (∃ v, wr.cell? ⟨g, x * 7 + 4, none⟩ = some v) := by
            obtain ⟨Bd, Lb, hp⟩ := S2.out.1.pl
            obtain ⟨_, _, _, d3, d4, _, _⟩ := hp.seven (i := x) (by omega)
            exact ⟨hp.frozen _, hp.frozen _, ⟨_, d3⟩, ⟨_, d4⟩⟩
          obtain ⟨v3, d3⟩ := d3
          obtain ⟨v4, d4⟩ := d4
          have S3 : Hid (BSt w ((wr.setCell ⟨g, x * 7 + 3, none⟩ (.bool b)).setCell ⟨g, x * 7 + 4, none⟩ (.string lb)) g n c I X R AA CC H ∧ KeepsOthers W ((wr.setCell ⟨g, x * 7 + 3, none⟩ (.bool b)).setCell ⟨g, x * 7 + 4, none⟩ (.string lb)) ∧ ((wr.setCell ⟨g, x * 7 + 3, none⟩ (.bool b)).setCell ⟨g, x * 7 + 4, none⟩ (.string lb)).heap[W.heap.size]? = some (.cells #[.bool b, .string lb] 62 (0, 0))) := by
            refine ⟨S2.out.1.set hgl x _ _, (S2.out.2.1.trans (KeepsOthers.setCell _ _ _)).trans (KeepsOthers.setCell _ _ _), ?_⟩
            rw [Below.heap_setCell _ _ _ _ (by show W.heap.size ≠ g; omega), Below.heap_setCell _ _ _ _ (by show W.heap.size ≠ g; omega)]
            exact S2.out.2.2
          gi_wp2
          go_roundw
          case rel => exact ⟨q + 1, by omega, by go_num, S3.out⟩
          case measure => simp [intOf]; omega
        · have e : q = m := by omega
          subst e
          gi_wp2
          exact ⟨S2.out.2.1.from _, HS.out.kp S2.out.1, S2.out.1⟩
  case done =>
    rintro D ys W hD _ hs hK
    gi_wp2
    refine ⟨by simp, .inl ⟨_, _, rfl, run_takeDeferred hK, ?_⟩⟩
    have hq := hs.kept (grownBy_putObj' W D (.deferred none)) (fun r e => by cases e; exact ⟨hD, _, hK, rfl⟩) (by omega)
    exact ⟨_, results_none rfl _ _ _, rfl, hq.pl, hq.gr⟩
  case stop =>
    rintro D c' pre W _ _ h _
    exact h.elim
end Go.Proofs.Ythcclkeeekppmaa

namespace Go.Proofs.Ythcclkeeekppmaa
open Go.RowKit Go.Deep
set_option linter.unusedVariables false
set_option maxRecDepth 100000

/-- Nothing is said of the contexts. -/
def AnyC (_ : Nat) (_ : Nat → Int) (_ : Nat → ByteArray) (_ : Nat → Bool) (_ : Nat → ByteArray) : Prop := True

theorem bind_any : BindOk AnyC := by
  intro g n c B I X R AA CC H w hP hO hcap hok hn hn0 hB
  refine (callsIn_wide.1 (bind_in Fence.wide 6 trivial trivial trivial rfl (by omega) g n c B I X R AA CC H w ⟨_, _, hP⟩ hO hcap hok hn hn0)).mono ?_
  rintro e w' ⟨he, ⟨Bd, Lb, hp⟩, hg⟩
  exact ⟨he, Bd, Lb, trivial, hp, hg⟩

theorem readPath_w (a : Option Addr) (n c : Nat) (I : Nat → Int) (X R : Nat → ByteArray) (w : World) (h : RdN w a n I X R) (hn : n ≤ 1048576) (hc : n ≤ c) (hcm : c ≤ 9223372036854775807) :
    Calls Try.prog 28 #[.agg #[.slice a n c]] w (PathRet (AnyC n I X) w n I X R) := readPath_any AnyC measure_any bind_any last_any a n c I X R w h hn hc hcm

set_option maxHeartbeats 2000000 in
theorem implVP (a : Option Addr) (n c : Nat) (I : Nat → Int) (X R : Nat → ByteArray) (w : World) (h : RdN w a n I X R) (hn : n ≤ 1048576) (hc : n ≤ c) (hcm : c ≤ 9223372036854775807) :
    Calls Try.prog 42 #[.agg #[.slice a n c]] w (AnsN w (VPth n I X R)) := by
  have HR : Hid (RdN w a n I X R) := h
  clear h
  go_enter Try.func42, Try.ntmps42
  go_wp2_with fail
  refine (readPath_w a n c I X R _ (HR.out.below (below_alloc _ _)) hn hc hcm).mono ?_
  rintro e w1 ⟨hb, hr⟩
  have HB : Hid (Below w.heap.size w w1) := (below_alloc _ _).trans (hb.mono (by simp))
  clear hb
  rcases hr with ⟨hv, v, rfl⟩ | ⟨hv, g, c', AA, CC, Bd, Lb, rfl, -⟩
  · have HV : Hid (¬ VPth n I X R) := hv
    clear hv
    go_wp2
    go_ret
    exact AnsN.no HV.out HB.out
  · have HV : Hid (VPth n I X R) := hv
    clear hv
    go_wp2
    go_ret
    exact AnsN.yes HV.out HB.out
end Go.Proofs.Ythcclkeeekppmaa
