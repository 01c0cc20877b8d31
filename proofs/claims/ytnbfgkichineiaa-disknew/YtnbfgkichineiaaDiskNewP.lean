import Derived.Test.YtnbfgkichineiaaZeros
import Derived.Test.YtnbfgkichineiaaHeldD
namespace Go.Proofs.Ytnbfgkichineiaa
open Go.RowKit Go.Deep

set_option maxHeartbeats 400000 in
theorem implNew_bad (n : Int) (w : World) (h : n < 16 ∨ 1024 < n) :
    Calls Try.prog 10 #[.int .i64 n] w fun e w' => e = .returned (.agg #[.slice none 0 0, .slice none 0 0, .int .i64 0, .bool false]) ∧ Below w.heap.size w w' := by
  rcases h with h | h
  · go_enter Try.func10, Try.ntmps10
    go_wp2
    exact bodyPost_ret (v := .agg #[.slice none 0 0, .slice none 0 0, .int .i64 0, .bool false]) (by simp [results, Try.results10, go_sem]) rfl ⟨rfl, (Below.refl _ _).alloc (Nat.le_refl _) _⟩
  · have h' : ¬ n < 16 := by omega
    go_enter Try.func10, Try.ntmps10
    go_wp2
    exact bodyPost_ret (v := .agg #[.slice none 0 0, .slice none 0 0, .int .i64 0, .bool false]) (by simp [results, Try.results10, go_sem]) rfl ⟨rfl, (Below.refl _ _).alloc (Nat.le_refl _) _⟩

set_option maxHeartbeats 400000 in
theorem specNew_bad (n : Int) (w : World) (h : n < 16 ∨ 1024 < n) :
    Calls Try.prog 9 #[.int .i64 n] w fun e w' => e = .returned (.agg #[.slice none 0 0, .slice none 0 0, .int .i64 0, .bool false]) ∧ Below w.heap.size w w' := by
  rcases h with h | h
  · go_enter Try.func9, Try.ntmps9
    go_wp2
    exact bodyPost_ret (v := .agg #[.slice none 0 0, .slice none 0 0, .int .i64 0, .bool false]) (by simp [results, Try.results9, go_sem]) rfl ⟨rfl, (Below.refl _ _).alloc (Nat.le_refl _) _⟩
  · have h' : ¬ n < 16 := by omega
    go_enter Try.func9, Try.ntmps9
    go_wp2
    exact bodyPost_ret (v := .agg #[.slice none 0 0, .slice none 0 0, .int .i64 0, .bool false]) (by simp [results, Try.results9, go_sem]) rfl ⟨rfl, (Below.refl _ _).alloc (Nat.le_refl _) _⟩

set_option maxHeartbeats 400000 in
theorem implNew_good (n : Nat) (w : World) (h1 : 16 ≤ n) (h2 : n ≤ 1024) :
    Calls Try.prog 10 #[.int .i64 n] w fun e w' => ∃ a c, e = .returned (.agg #[.slice a (n * 64) c, .slice none 0 0, .int .i64 (-1), .bool false]) ∧ OwnB w' w.heap.size a (n * 64) (fun _ => 0) ∧ Below w.heap.size w w' := by
  have hmk := run_make_row' (P := Try.prog) 22 5 (.int .u8 0) 1 Try.underlying22 Try.info5 rfl .i64 .i64 (n * 64) (by omega) (by omega)
  have e1 : ((n * 64 : Nat) : Int) = (n : Int) * 64 := by omega
  rw [e1] at hmk
  clear e1
  go_enter Try.func10, Try.ntmps10
  go_wp2
  refine bodyPost_ret (v := .agg #[.slice (some ⟨w.heap.size + 1, 0, none⟩) (n * 64) (n * 64), .slice none 0 0, .int .i64 (-1), .bool false]) (by simp [results, Try.results10, go_sem]) rfl ⟨_, _, rfl, ?_, ((Below.refl _ _).alloc (Nat.le_refl _) _).alloc (by simp) _⟩
  refine Or.inr ⟨w.heap.size + 1, rfl, by omega, ?_⟩
  have hr := World.rowIs_made (w.alloc (.cells #[.slice (some ⟨w.heap.size + 1, 0, none⟩) (n * 64) (n * 64), .slice none 0 0, .int .i64 (-1), .bool false] 25)) (.int .u8 0) (n * 64) 5
  have hs : (w.alloc (.cells #[.slice (some ⟨w.heap.size + 1, 0, none⟩) (n * 64) (n * 64), .slice none 0 0, .int .i64 (-1), .bool false] 25)).heap.size = w.heap.size + 1 := by simp
  rw [hs] at hr
  exact rowIn.ofIs hr

set_option maxHeartbeats 400000 in
theorem specNew_good (n : Nat) (w : World) (h1 : 16 ≤ n) (h2 : n ≤ 1024) :
    Calls Try.prog 9 #[.int .i64 n] w fun e w' => ∃ a c, e = .returned (.agg #[.slice a (n * 64) c, .slice none 0 0, .int .i64 (-1), .bool false]) ∧ OwnB w' w.heap.size a (n * 64) (fun _ => 0) ∧ Below w.heap.size w w' := by
  have hlo : ¬ (n : Int) < 16 := by omega
  have hhi : ¬ (1024 : Int) < (n : Int) := by omega
  go_enter Try.func9, Try.ntmps9
  go_wp2_with fail
  refine (zeros_at _ (n * 64) _ (by omega) (by omega)).mono ?_
  rintro e w1 ⟨a, c, rfl, ho, hb⟩
  have HO : Hid (OwnB w1 w.heap.size a (n * 64) (fun _ => 0)) := ho.mono (by simp)
  have hz : w.heap.size < w1.heap.size := by have := hb.size; simp at this; omega
  have HB : Hid (Below w.heap.size w w1) := ((Below.refl _ _).alloc (Nat.le_refl _) _).trans (hb.mono (by simp))
  obtain ⟨hc, hf⟩ := bcell hb
  have HO1 : Hid (OwnB w1 (w.heap.size + 1) a (n * 64) (fun _ => 0)) := ho.mono (by simp)
  clear ho hb
  go_wp2
  refine bodyPost_ret (v := .agg #[.slice a (n * 64) c, .slice none 0 0, .int .i64 (-1), .bool false]) (by simp [results, Try.results9, go_sem, hc]) rfl ⟨a, c, rfl, ?_, ?_⟩
  · exact ((((HO1.out.setOther (by simp) _).setOther (by simp) _).setOther (by simp) _).setOther (by simp) _).mono (by omega)
  · exact (((HB.out.setCell (by simp) _).setCell (by simp) _).setCell (by simp) _).setCell (by simp) _

theorem noP (w : World) (B : Nat) (a : Option Addr) (S : Nat → Int) (L : Nat → Nat) (F : Nat → Nat → Int) (A : Nat → Option Addr) : OwnP w B a 0 S L F A := Or.inl rfl

def n_bad (x : Int) : Prop := x < 16 ∨ 1024 < x

/-- What the rest of the law wants: two answers of impl and one of spec, of one content, impl's first in memory of its own. -/
theorem newLaw (x : Int) (n : Nat) (fuel : Int) (w : World) (hn : n ≤ 1048576)
    (hspec : ∀ W, Calls Try.prog 9 #[.int .i64 x] W fun e w' => ∃ a c, e = .returned (.agg #[.slice a n c, .slice none 0 0, .int .i64 fuel, .bool false]) ∧ OwnB w' W.heap.size a n (fun _ => 0) ∧ Below W.heap.size W w')
    (himpl : ∀ W, Calls Try.prog 10 #[.int .i64 x] W fun e w' => ∃ a c, e = .returned (.agg #[.slice a n c, .slice none 0 0, .int .i64 fuel, .bool false]) ∧ OwnB w' W.heap.size a n (fun _ => 0) ∧ Below W.heap.size W w') :
    Calls Try.prog 3 #[.int .i64 x] w fun e w' => e = .returned (.bool true) ∧ Below w.heap.size w w' := by
  have HS : Hid (∀ W, Calls Try.prog 9 #[.int .i64 x] W fun e w' => ∃ a c, e = .returned (.agg #[.slice a n c, .slice none 0 0, .int .i64 fuel, .bool false]) ∧ OwnB w' W.heap.size a n (fun _ => 0) ∧ Below W.heap.size W w') := hspec
  have HI : Hid (∀ W, Calls Try.prog 10 #[.int .i64 x] W fun e w' => ∃ a c, e = .returned (.agg #[.slice a n c, .slice none 0 0, .int .i64 fuel, .bool false]) ∧ OwnB w' W.heap.size a n (fun _ => 0) ∧ Below W.heap.size W w') := himpl
  clear hspec himpl
  go_enter Try.func3, Try.ntmps3
  go_wp2_with fail
  refine (HS.out _).mono ?_
  rintro e w1 ⟨a1, c1, rfl, ho1, hb1⟩
  have H1 : Hid (Rd .u8 w1 a1 n (fun _ => 0) ∧ Below w.heap.size w w1) := ⟨ho1.rd, hb1⟩
  clear ho1 hb1
  go_wp2_with fail
  refine (HI.out _).mono ?_
  rintro e w2 ⟨a2, c2, rfl, ho2, hb2⟩
  have E1 : ∀ O, (w1.alloc O).heap.size = w1.heap.size + 1 := fun O => by simp
  rw [E1] at ho2 hb2
  clear E1
  have H2 : Hid (OwnB w2 (w1.heap.size + 1) a2 n (fun _ => 0)) := ho2
  obtain ⟨x0, x1, x2, x3, xz⟩ := box4 hb2
  have K2 : Hid (Below (w1.heap.size + 1) (w1.alloc _) w2) := hb2
  clear ho2 hb2
  go_wp2_with fail
  refine (eqDisk_yes a2 a1 n c2 c1 (fun _ => 0) none none 0 0 0 (fun _ => 0) (fun _ => 0) (fun _ _ => 0) fuel false _ (H2.out.rd.below (below_alloc _ _)) (((H1.out.1.below (below_alloc _ _)).below (K2.out.mono (by simp))).below (below_alloc _ _)) (Or.inl rfl) (Or.inl rfl) (by omega) (by omega) (fun i hi => absurd hi (Nat.not_lt_zero _))).mono ?_
  rintro e w3 ⟨rfl, hb3⟩
  rw [show ∀ O, (w2.alloc O).heap.size = w2.heap.size + 1 from fun O => by simp] at hb3
  clear x0 x1 x2 x3
  have K3 : Hid (Below (w1.heap.size + 1) (w1.alloc _) w3) := (K2.out.alloc (by omega) _).trans (hb3.mono (by omega))
  have H3 : Hid (OwnB w3 (w1.heap.size + 1) a2 n (fun _ => 0)) := (H2.out.below (below_alloc _ _)).below (hb3.mono (by simp))
  have L3 : Hid (Below (w2.heap.size + 1) (w2.alloc _) w3) := hb3
  obtain ⟨x0, x1, x2, x3, xz3⟩ := box4 hb3
  clear hb3
  go_wp2_with fail
  refine (markDisk_own a2 none n c2 0 0 (w1.heap.size + 1) w2.heap.size (fun _ => 0) (fun _ => 0) (fun _ => 0) (fun _ _ => 0) (fun _ => none) fuel false _ 1 H3.out (Or.inl rfl) (fun _ i hi => absurd hi (Nat.not_lt_zero _)) H2.out.ltB ⟨fun h => absurd rfl h, fun i hi => absurd hi (Nat.not_lt_zero _)⟩ hn (by omega) (fun i hi => absurd hi (Nat.not_lt_zero _)) (by omega) (by omega)).mono ?_
  rintro e w4 ⟨rfl, hr4, _, hw4⟩
  clear x0 x1 x2 x3
  obtain ⟨_, x0, x1, x2, x3, xz4⟩ := box4W L3.out hw4
  have K4 : Hid (Below (w1.heap.size + 1) (w1.alloc _) w4) := K3.out.trans (hw4.below (by omega))
  have R4 : Hid (Rd .u8 w4 a2 n (fun i => IntKind.u8.wrap (1 + i))) := hr4
  clear hr4 hw4
  go_wp2_with fail
  refine (heldDisk_yes a2 none n c2 0 0 (fun _ => 0) fuel false _ 1 R4.out (Or.inl rfl) hn (by omega) (fun i hi => absurd hi (Nat.not_lt_zero _)) (by omega) (by omega)).mono ?_
  rintro e w5 ⟨rfl, hb5⟩
  have K5 : Hid (Below (w1.heap.size + 1) (w1.alloc _) w5) := K4.out.trans (hb5.mono (by omega))
  clear x0 x1 x2 x3
  have hq1 : ¬ koff (fun _ => 0) (1 + (n : Int)) 0 < 0 := by simp [koff]; omega
  have hq2 : (koff (fun _ => 0) (1 + (n : Int)) 0 != koff (fun _ => 0) (1 + (n : Int)) 0) = false := by simp
  generalize koff (fun _ => 0) (1 + (n : Int)) 0 = kk at *
  go_wp2_with fail
  refine (HI.out _).mono ?_
  rintro e w6 ⟨a6, c6, rfl, ho6, hb6⟩
  have K6 : Hid (Below (w1.heap.size + 1) (w1.alloc _) w6) := K5.out.trans (hb6.mono (by have := hb5.size; omega))
  obtain ⟨x0, x1, x2, x3, xz6⟩ := box4 K6.out
  have H6 : Hid (Rd .u8 w6 a6 n (fun _ => 0)) := ho6.rd
  clear ho6 hb6 hb5
  go_wp2_with fail
  refine (eqDisk_yes a6 a1 n c6 c1 (fun _ => 0) none none 0 0 0 (fun _ => 0) (fun _ => 0) (fun _ _ => 0) fuel false _ (H6.out.below (below_alloc _ _)) (((H1.out.1.below (below_alloc _ _)).below (K6.out.mono (by simp))).below (below_alloc _ _)) (Or.inl rfl) (Or.inl rfl) (by omega) (by omega) (fun i hi => absurd hi (Nat.not_lt_zero _))).mono ?_
  rintro e w7 ⟨rfl, hb7⟩
  have HE : Hid (Below w.heap.size w w7) := by
    have h1 := H1.out.2
    have hs := h1.size
    have hk := K6.out.size
    simp at hk
    refine ((h1.alloc hs _).trans (K6.out.mono (by omega))).trans ?_
    exact ((below_alloc _ _).mono (by omega)).trans (hb7.mono (by simp; omega))
  clear hb7 x0 x1 x2 x3
  go_wp2
  go_ret
  exact ⟨rfl, HE.out⟩

theorem newLaw_all (x : Int) (_ : (Lit.int .i64 x).wf = true) (w : World) : Calls Try.prog 3 #[.int .i64 x] w fun e w' => e = .returned (.bool true) ∧ Below w.heap.size w w' := by
  by_cases h : n_bad x
  · refine newLaw x 0 0 w (by omega) (fun W => ?_) (fun W => ?_)
    · refine (specNew_bad x W h).mono ?_
      rintro e w' ⟨rfl, hb⟩
      exact ⟨none, 0, rfl, Or.inl rfl, hb⟩
    · refine (implNew_bad x W h).mono ?_
      rintro e w' ⟨rfl, hb⟩
      exact ⟨none, 0, rfl, Or.inl rfl, hb⟩
  · unfold n_bad at h
    obtain ⟨n, rfl⟩ := Int.eq_ofNat_of_zero_le (show 0 ≤ x by omega)
    exact newLaw n (n * 64) (-1) w (by omega) (fun W => specNew_good n W (by omega) (by omega)) (fun W => implNew_good n W (by omega) (by omega))
end Go.Proofs.Ytnbfgkichineiaa
