import Derived.Test.YtfcffpgiijnmjaaIxN
import Derived.Deep.RegionWith
namespace Go.Proofs.Ytfcffpgiijnmjaa
open Go.RowKit Go.Deep
set_option linter.unusedVariables false
set_option maxRecDepth 100000

set_option maxHeartbeats 4000000 in
theorem markLeafK (g c : Nat) (a : Option Addr) (k : Int) (hk : k = 1 ∨ k = 3 ∨ k = 5 ∨ k = 7 ∨ k = 9 ∨ k = 11) (w : World) (h : rowIn w g 96 4 (leafCell a)) :
    Calls Try.prog 46 #[.slice (some ⟨g, 0, none⟩) 1 c, .int .i64 k] w fun e w' => e = .returned (.int .i64 (k + 2)) ∧ rowIn w' g 96 4 (markCell a k) ∧ OnlyAt (some ⟨g, 0, none⟩) w w' := by
  obtain ⟨x0, x1, x2, x3, xf, xl⟩ := leafCells h
  have H : Hid (rowIn ((w.setCell ⟨g, 0, none⟩ (.bool (k % 3 == 0))).setCell ⟨g, 3, none⟩ (.int .i64 (k + 1))) g 96 4 (markCell a k)) := by
    refine (rowIn.set (rowIn.set h 0 _) 3 _).congr (fun i hi => ?_)
    match i, hi with
    | 0, _ => simp [markCell]
    | 1, _ => simp [leafCell, markCell]
    | 2, _ => simp [leafCell, markCell]
    | 3, _ => simp [markCell]
  clear h
  rcases hk with rfl | rfl | rfl | rfl | rfl | rfl
  all_goals
    go_enter Try.func46, Try.ntmps46
    go_wp2
    refine wp_loop_rounds 2 ?_
    rw [rounds_succ]
    go_wp2_with fail
    refine (markStr_nil a 0 _ _).mono ?_
    rintro e w1 ⟨rfl, rfl⟩
    go_wp2_with fail
    refine (markI64_nil none 0 _ _).mono ?_
    rintro e w1 ⟨rfl, rfl⟩
    go_wp2
    rw [rounds_succ]
    go_wp2
    go_ret
    exact ⟨rfl, H.out, ((OnlyAt.refl _ _).setCell 0 _).setCell 3 _⟩

set_option maxHeartbeats 4000000 in
theorem heldLeafK (g c : Nat) (a : Option Addr) (k : Int) (hk : k = 1 ∨ k = 3 ∨ k = 5 ∨ k = 7 ∨ k = 9 ∨ k = 11) (w : World) (h : rowIn w g 96 4 (markCell a k)) :
    Calls Try.prog 47 #[.slice (some ⟨g, 0, none⟩) 1 c, .int .i64 k] w fun e w' => e = .returned (.int .i64 (k + 2)) ∧ w' = w := by
  obtain ⟨x0, x1, x2, x3, xf, xl⟩ := markCells h
  clear h
  rcases hk with rfl | rfl | rfl | rfl | rfl | rfl
  all_goals
    simp at x0 x3
    go_enter Try.func47, Try.ntmps47
    go_wp2
    refine wp_loop_rounds 2 ?_
    rw [rounds_succ]
    go_wp2_with fail
    refine (heldStr_nil a 0 _ _).mono ?_
    rintro e w1 ⟨rfl, rfl⟩
    go_wp2_with fail
    refine (heldI64_nil none 0 _ _).mono ?_
    rintro e w1 ⟨rfl, rfl⟩
    go_wp2
    rw [rounds_succ]
    go_wp2
    go_ret
    exact ⟨rfl, rfl⟩

/-- What has been marked of an index. -/
structure IxMk (w : World) (B g : Nat) (G C : Nat → Nat) (A : Nat → Option Addr) (n : Nat) : Prop where
  le : B ≤ g
  row : rowIn w g 42 6 (fun i => .slice (some ⟨G i, 0, none⟩) 1 (C i))
  each : ∀ i, i < 6 → B ≤ G i ∧ rowIn w (G i) 96 4 (if i < n then markCell (A i) (2 * i + 1) else leafCell (A i))
  apart : ∀ i, i < 6 → ∀ j, j < 6 → G i = G j → i = j

/-- Only the trees' nodes have turned. -/
structure OnlyG (G : Nat → Nat) (w w' : World) : Prop where
  os : w'.os = w.os
  tape : w'.tape = w.tape
  output : w'.output = w.output
  size : w.heap.size ≤ w'.heap.size
  block : ∀ b, b < w.heap.size → (∀ j, j < 6 → b ≠ G j) → w'.heap[b]? = w.heap[b]?
theorem OnlyG.refl (G : Nat → Nat) (w : World) : OnlyG G w w := ⟨rfl, rfl, rfl, Nat.le_refl _, fun _ _ _ => rfl⟩
theorem OnlyG.below {G : Nat → Nat} {B : Nat} {w w' : World} (h : OnlyG G w w') (hB : B ≤ w.heap.size) (hG : ∀ j, j < 6 → B ≤ G j) : Below B w w' :=
  ⟨h.os, h.tape, h.output, h.size, fun b hb => h.block b (by omega) (fun j hj e => by have := hG j hj; omega)⟩
theorem OnlyG.later {G : Nat → Nat} {w w' w2 : World} (h : OnlyG G w w') (hb : Below w'.heap.size w' w2) : OnlyG G w w2 :=
  ⟨hb.os.trans h.os, hb.tape.trans h.tape, hb.output.trans h.output, Nat.le_trans h.size hb.size, fun b h1 h2 => (hb.block b (Nat.lt_of_lt_of_le h1 h.size)).trans (h.block b h1 h2)⟩
theorem OnlyG.at {G : Nat → Nat} {w w' w2 : World} {i : Nat} (h : OnlyG G w w') (hi : i < 6) (ho : OnlyAt (some ⟨G i, 0, none⟩) w' w2) : OnlyG G w w2 :=
  ⟨ho.os.trans h.os, ho.tape.trans h.tape, ho.output.trans h.output, by rw [ho.size]; exact h.size, fun b h1 h2 => (ho.block b (fun x e => by injection e with e; subst e; exact fun e => h2 i hi e.symm)).trans (h.block b h1 h2)⟩

theorem IxMk.keep {w w2 : World} {B g : Nat} {G C : Nat → Nat} {A : Nat → Option Addr} {n : Nat} (h : IxMk w B g G C A n) (hb : Below w.heap.size w w2) : IxMk w2 B g G C A n :=
  ⟨h.le, h.row.of_block (hb.block _ h.row.lt), fun i hi => ⟨(h.each i hi).1, (h.each i hi).2.of_block (hb.block _ (h.each i hi).2.lt)⟩, h.apart⟩

theorem IxMk.next {w w2 : World} {B g : Nat} {G C : Nat → Nat} {A : Nat → Option Addr} {n : Nat} (h : IxMk w B g G C A n) (hn : n < 6) (ho : OnlyAt (some ⟨G n, 0, none⟩) w w2) (hr : rowIn w2 (G n) 96 4 (markCell (A n) (2 * n + 1))) : IxMk w2 B g G C A (n + 1) := by
  have blk : ∀ b, b ≠ G n → w2.heap[b]? = w.heap[b]? := fun b hne => ho.block b (fun x e => by injection e with e; subst e; exact fun e => hne e.symm)
  refine ⟨h.le, h.row.of_block (blk g ?_), fun i hi => ?_, h.apart⟩
  · obtain ⟨_, q⟩ := h.each n hn
    rw [if_neg (Nat.lt_irrefl _)] at q
    exact fun e => h.row.ne q (by decide) e
  · refine ⟨(h.each i hi).1, ?_⟩
    by_cases e : i = n
    · subst e
      rw [if_pos (by omega)]
      exact hr
    · have q := (h.each i hi).2
      have hne : G i ≠ G n := fun e2 => e (h.apart i hi n hn e2)
      by_cases e3 : i < n
      · rw [if_pos e3] at q
        rw [if_pos (by omega)]
        exact q.of_block (blk _ hne)
      · rw [if_neg e3] at q
        rw [if_neg (by omega)]
        exact q.of_block (blk _ hne)

theorem oddK (n : Nat) (hn : n < 6) : (2 * (n : Int) + 1 = 1 ∨ 2 * (n : Int) + 1 = 3 ∨ 2 * (n : Int) + 1 = 5 ∨ 2 * (n : Int) + 1 = 7 ∨ 2 * (n : Int) + 1 = 9 ∨ 2 * (n : Int) + 1 = 11) := by omega

set_option maxHeartbeats 2000000 in
theorem markTreeS_six (g c B : Nat) (G C : Nat → Nat) (A : Nat → Option Addr) (w : World) (h : IxMk w B g G C A 0) :
    Calls Try.prog 49 #[.slice (some ⟨g, 0, none⟩) 6 c, .int .i64 1] w fun e w' => e = .returned (.int .i64 13) ∧ IxMk w' B g G C A 6 ∧ OnlyG G w w' := by
  have H : Hid (IxMk w B g G C A 0) := h
  clear h
  go_enter Try.func49, Try.ntmps49
  go_wp2
  go_loopw [1, 5] (fun q i wr => ∃ n : Nat, n ≤ 6 ∧ i = .int .i64 n ∧ q = .int .i64 (2 * n + 1) ∧ IxMk wr B g G C A n ∧ OnlyG G w wr) (fun _ i _ => 6 - (intOf i).toNat)
  case atStart => exact ⟨0, by omega, rfl, rfl, H.out, OnlyG.refl _ _⟩
  case round =>
    obtain ⟨n, hn, rfl, rfl, hmk, hog⟩ := hrel
    have HM : Hid (IxMk wr B g G C A n) := hmk
    have HO : Hid (OnlyG G w wr) := hog
    by_cases hlt : n < 6
    · have hni : (n : Int) < 6 := by omega
      have rc := hmk.row.cell hlt
      clear hmk hog H
      go_wp2_with fail
      have q := (HM.out.each n hlt).2
      rw [if_neg (Nat.lt_irrefl _)] at q
      refine (markLeafK (G n) (C n) (A n) _ (oddK n hlt) _ q).mono ?_
      rintro e w1 ⟨rfl, hr1, ho1⟩
      have HN : Hid (IxMk w1 B g G C A (n + 1)) := HM.out.next hlt ho1 hr1
      have HP : Hid (OnlyG G w w1) := HO.out.at hlt ho1
      clear q hr1 ho1 rc HM HO
      go_wp2
      go_roundw
      case rel => exact ⟨n + 1, by omega, by go_num, by go_num, HN.out, HP.out⟩
      case measure => simp [intOf]; omega
    · have e : n = 6 := by omega
      subst e
      clear hmk hog H
      go_wp2
      go_ret
      exact ⟨rfl, HM.out, HO.out⟩

set_option maxHeartbeats 2000000 in
theorem heldTreeS_six (g c B : Nat) (G C : Nat → Nat) (A : Nat → Option Addr) (w : World) (h : IxMk w B g G C A 6) :
    Calls Try.prog 50 #[.slice (some ⟨g, 0, none⟩) 6 c, .int .i64 1] w fun e w' => e = .returned (.int .i64 13) ∧ Below w.heap.size w w' := by
  have H : Hid (IxMk w B g G C A 6) := h
  clear h
  go_enter Try.func50, Try.ntmps50
  go_wp2
  go_loopw [1, 5] (fun q i wr => ∃ n : Nat, n ≤ 6 ∧ i = .int .i64 n ∧ q = .int .i64 (2 * n + 1) ∧ Below w.heap.size w wr) (fun _ i _ => 6 - (intOf i).toNat)
  case atStart => exact ⟨0, by omega, rfl, rfl, Below.refl _ _⟩
  case round =>
    obtain ⟨n, hn, rfl, rfl, hb⟩ := hrel
    have HB : Hid (Below w.heap.size w wr) := hb
    have HM : Hid (IxMk wr B g G C A 6) := H.out.keep hb
    by_cases hlt : n < 6
    · have hni : (n : Int) < 6 := by omega
      have rc := HM.out.row.cell hlt
      clear hb H
      go_wp2_with fail
      have q := (HM.out.each n hlt).2
      rw [if_pos hlt] at q
      refine (heldLeafK (G n) (C n) (A n) _ (oddK n hlt) _ q).mono ?_
      rintro e w1 ⟨rfl, rfl⟩
      clear q rc HM
      have hneg : ¬ (2 * (n : Int) + 1 + 2 < 0) := by omega
      go_wp2
      go_roundw
      case rel => exact ⟨n + 1, by omega, by go_num, by go_num, HB.out⟩
      case measure => simp [intOf]; omega
    · have e : n = 6 := by omega
      subst e
      clear hb H HM
      go_wp2
      go_ret
      exact ⟨rfl, HB.out⟩
end Go.Proofs.Ytfcffpgiijnmjaa
