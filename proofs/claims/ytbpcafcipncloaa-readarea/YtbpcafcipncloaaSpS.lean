import Derived.Test.YtbpcafcipncloaaSpP
import Derived.Test.YtbpcafcipncloaaLateS
import Derived.Deep.RegionHeld3
namespace Go.Proofs.Ytbpcafcipncloaa
open Go.RowKit Go.Deep
set_option linter.unusedVariables false
set_option maxRecDepth 100000

/-- Two things, by number. -/
def two {α : Type} (x y : α) (i : Nat) : α := if i = 0 then x else y
/-- Five things, by number. -/
def five {α : Type} (x0 x1 x2 x3 x4 : α) (i : Nat) : α := if i = 0 then x0 else if i = 1 then x1 else if i = 2 then x2 else if i = 3 then x3 else x4

theorem rdS_two {W : World} {a0 a1 : Option Addr} {n0 n1 c0 c1 : Nat} {f0 f1 : Nat → Int} {t : TypeId} (h0 : Rd .u8 W a0 n0 f0) (h1 : Rd .u8 W a1 n1 f1) : RdS (W.alloc (.cells #[.slice a0 n0 c0, .slice a1 n1 c1] t)) W.heap.size 0 2 (two n0 n1) (two f0 f1) := by
  intro i hi
  match i, hi with
  | 0, _ => exact ⟨a0, c0, by simp [two], by simpa [two] using h0.below (below_alloc _ _)⟩
  | 1, _ => exact ⟨a1, c1, by simp [two], by simpa [two] using h1.below (below_alloc _ _)⟩

theorem rdS_five {W : World} {a0 a1 a2 a3 a4 : Option Addr} {n0 n1 n2 n3 n4 c0 c1 c2 c3 c4 : Nat} {f0 f1 f2 f3 f4 : Nat → Int} {t : TypeId} (h0 : Rd .u8 W a0 n0 f0) (h1 : Rd .u8 W a1 n1 f1) (h2 : Rd .u8 W a2 n2 f2) (h3 : Rd .u8 W a3 n3 f3) (h4 : Rd .u8 W a4 n4 f4) :
    RdS (W.alloc (.cells #[.slice a0 n0 c0, .slice a1 n1 c1, .slice a2 n2 c2, .slice a3 n3 c3, .slice a4 n4 c4] t)) W.heap.size 0 5 (five n0 n1 n2 n3 n4) (five f0 f1 f2 f3 f4) := by
  intro i hi
  match i, hi with
  | 0, _ => exact ⟨a0, c0, by simp [five], by simpa [five] using h0.below (below_alloc _ _)⟩
  | 1, _ => exact ⟨a1, c1, by simp [five], by simpa [five] using h1.below (below_alloc _ _)⟩
  | 2, _ => exact ⟨a2, c2, by simp [five], by simpa [five] using h2.below (below_alloc _ _)⟩
  | 3, _ => exact ⟨a3, c3, by simp [five], by simpa [five] using h3.below (below_alloc _ _)⟩
  | 4, _ => exact ⟨a4, c4, by simp [five], by simpa [five] using h4.below (below_alloc _ _)⟩

theorem seal_cat (f : Nat → Int) (j : Nat) (hj : j < 64) : catF (two 60 4) (two f (byteAt (crcV f))) 2 j = sealF f j := by
  show (if j < 60 then (if j < 0 then (0 : Int) else f (j - 0)) else byteAt (crcV f) (j - 60)) = if 60 ≤ j ∧ j < 60 + 4 then byteAt (crcV f) (j - 60) else f j
  by_cases h : j < 60
  · rw [if_pos h, if_neg (by omega), if_neg (by omega), Nat.sub_zero]
  · rw [if_neg h, if_pos (by omega)]

theorem catL_five : ∀ k, k ≤ 5 → catL (five 4 2 2 4 48) k ≤ 1048576 := by
  intro k hk
  match k, hk with
  | 0, _ => decide
  | 1, _ => decide
  | 2, _ => decide
  | 3, _ => decide
  | 4, _ => decide
  | 5, _ => decide

theorem byteAt_byte (ar : Int) (h0 : 0 ≤ ar) (h1 : ar < 2) : byteAt ar 0 = ar := by unfold byteAt; simp; omega

/-- The head of a super's sector, part by part. -/
theorem super_cat (gen ar fi : Int) (h0 : 0 ≤ ar) (h1 : ar < 2) (fq fa : Nat → Int) (hq0 : fq 0 = 81) (hq1 : fq 1 = 49) (ha0 : fa 0 = ar) (ha1 : fa 1 = 0) (j : Nat) (hj : j < 60) :
    catF (five 4 2 2 4 48) (five (byteAt gen) fq fa (byteAt fi) (fun _ => 0)) 5 j = superH gen ar fi j := by
  show (if j < 12 then (if j < 8 then (if j < 6 then (if j < 4 then (if j < 0 then (0 : Int) else byteAt gen (j - 0)) else fq (j - 4)) else fa (j - 6)) else byteAt fi (j - 8)) else 0) = if 8 ≤ j ∧ j < 8 + 4 then byteAt fi (j - 8) else (if 6 ≤ j ∧ j < 6 + 1 then byteAt ar (j - 6) else (if j = 4 + 1 then 49 else if j = 4 then 81 else (if 0 ≤ j ∧ j < 0 + 4 then byteAt gen (j - 0) else 0)))
  by_cases c1 : j < 4
  · rw [if_pos (by omega), if_pos (by omega), if_pos (by omega), if_pos c1, if_neg (by omega), if_neg (by omega), if_neg (by omega), if_neg (by omega), if_neg (by omega), if_pos (by omega)]
  · by_cases c2 : j < 6
    · rw [if_pos (by omega), if_pos (by omega), if_pos c2, if_neg c1, if_neg (by omega), if_neg (by omega)]
      by_cases e : j = 4
      · subst e
        rw [if_neg (by omega), if_pos rfl]
        exact hq0
      · have e : j = 5 := by omega
        subst e
        rw [if_pos rfl]
        exact hq1
    · by_cases c3 : j < 8
      · rw [if_pos (by omega), if_pos c3, if_neg c2, if_neg (by omega)]
        by_cases e : j = 6
        · subst e
          rw [if_pos (by omega)]
          show fa 0 = byteAt ar 0
          rw [ha0, byteAt_byte ar h0 h1]
        · have e : j = 7 := by omega
          subst e
          rw [if_neg (by omega), if_neg (by omega), if_neg (by omega), if_neg (by omega)]
          exact ha1
      · by_cases c4 : j < 12
        · rw [if_pos c4, if_neg c3, if_pos (by omega)]
        · rw [if_neg c4, if_neg (by omega), if_neg (by omega), if_neg (by omega), if_neg (by omega), if_neg (by omega)]

set_option maxHeartbeats 1000000 in
theorem l2Seal_any (a : Option Addr) (c : Nat) (f : Nat → Int) (w : World) (h : Rd .u8 w a 60 f) (hr : ∀ i, i < 60 → 0 ≤ f i ∧ f i < 256) :
    Calls Try.prog 67 #[.slice a 60 c] w fun e w' => RetOwn w e w' 64 (sealF f) := by
  have H : Hid (Rd .u8 w a 60 f) := h
  have HR : Hid (∀ i, i < 60 → 0 ≤ f i ∧ f i < 256) := hr
  have hcr := crcV_range f
  clear h hr
  go_enter Try.func67, Try.ntmps67
  go_wp2_with fail
  refine (specCrc_any a 60 c f w H.out HR.out (by omega)).mono ?_
  rintro e w0 ⟨rfl, rfl⟩
  have hcv : bits .xor .u32 (crcTo f 60) 4294967295 = crcV f := rfl
  rw [hcv]
  clear hcv
  generalize hq : crcV f = cv at *
  go_wp2_with fail
  refine (l2Put_any cv 4 w0 (by omega) (by omega) (by omega)).mono ?_
  rintro e w1 ⟨a1, c1, rfl, ho1, hb1, -, -⟩
  have RS : Hid (RdS (w1.alloc (.cells #[.slice a 60 c, .slice a1 4 c1] 24)) w1.heap.size 0 2 (two 60 4) (two f (byteAt cv))) := rdS_two (H.out.below hb1) ho1.rd
  have HB1 : Hid (Below w0.heap.size w0 w1) := hb1
  clear ho1 hb1
  go_wp2_with fail
  refine (l2Cat_any w1.heap.size 0 2 2 (two 60 4) (two f (byteAt cv)) _ RS.out (by omega) (fun k hk => ?_) (fun k hk => ?_)).mono ?_
  · match k, hk with
    | 0, _ => simp [catL]
    | 1, _ => simp [catL, two]
    | 2, _ => simp [catL, two]
  · unfold two; split <;> omega
  rintro e w2 ⟨a2, c2, rfl, ho2, hb2, hl2, hm2⟩
  have HX : Hid (RetOwn w0 (.returned (.slice a2 64 c2)) w2 64 (sealF f)) := by
    refine ⟨a2, c2, rfl, ?_, ?_, by simpa [catL, two] using hl2, hm2⟩
    · have q : OwnB w2 w0.heap.size a2 64 (catF (two 60 4) (two f (byteAt cv)) 2) := by
        have := ho2.mono (B' := w0.heap.size) (by have := HB1.out.size; simp; omega)
        simpa [catL, two] using this
      exact q.congr (fun i hi => by rw [← hq]; exact seal_cat f i hi)
    · exact (HB1.out.alloc HB1.out.size _).trans (hb2.mono (by have := HB1.out.size; simp; omega))
  clear ho2 hb2 hq
  go_wp2
  go_ret
  exact HX.out
end Go.Proofs.Ytbpcafcipncloaa
