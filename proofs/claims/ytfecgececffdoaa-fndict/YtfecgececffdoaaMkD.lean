import Derived.Test.YtfecgececffdoaaMkT
namespace Go.Proofs.Ytfecgececffdoaa
open Go.RowKit Go.Deep
set_option linter.unusedVariables false
set_option maxRecDepth 100000

theorem MkOnly.alloc {a : Option Addr} {n : Nat} {w w' : World} {o : Obj} (h : MkOnly a n (w.alloc o) w') (ha : OwnT w 0 a n mI mX mR ∨ True) : MkOnly a n w w' := by
  obtain ⟨row, hg, hr⟩ := h
  exact ⟨row, ⟨hg.os, hg.tape, hg.output, by have := hg.size; simp at this; omega, fun b hb hne => (hg.block b (by simp; omega) hne).trans ((below_alloc _ _).block b hb)⟩, hr⟩

set_option maxHeartbeats 1000000 in
theorem markDict_any (B : Nat) (next : Int) (a : Option Addr) (n c : Nat) (I : Nat → Int) (X : Nat → ByteArray) (R : Nat → Int) (w : World) (h : OwnT w B a n I X R) (hn : n ≤ 1048577) :
    Calls Try.prog 12 #[.agg #[.int .i64 next, .slice a n c], .int .i64 1] w fun e w' => e = .returned (.int .i64 (1 + 3 * (n : Int))) ∧ OwnT w' B a n mI mX mR ∧ MkOnly a n w w' := by
  have H : Hid (∀ o, OwnT (w.alloc o) B a n I X R) := fun o => h.below (below_alloc _ _)
  clear h
  go_enter Try.func12, Try.ntmps12
  go_wp2_with fail
  refine (markTermS_any B a n c I X R _ (H.out _) hn).mono ?_
  rintro e w1 ⟨rfl, ho, hm⟩
  have HX : Hid (OwnT w1 B a n mI mX mR ∧ MkOnly a n w w1) := ⟨ho, hm.alloc (.inr trivial)⟩
  clear ho hm
  go_wp2
  go_ret
  exact ⟨rfl, HX.out⟩

set_option maxHeartbeats 1000000 in
theorem markDictRes_any (B : Nat) (ok : Bool) (id next : Int) (a : Option Addr) (n c : Nat) (I : Nat → Int) (X : Nat → ByteArray) (R : Nat → Int) (w : World) (h : OwnT w B a n I X R) (hn : n ≤ 1048577) :
    Calls Try.prog 13 #[.agg #[.bool ok, .int .i64 id, .int .i64 next, .slice a n c], .int .i64 1] w fun e w' => e = .returned (.int .i64 (1 + 3 * (n : Int))) ∧ OwnT w' B a n mI mX mR ∧ MkOnly a n w w' := by
  have H : Hid (∀ o, OwnT (w.alloc o) B a n I X R) := fun o => h.below (below_alloc _ _)
  clear h
  go_enter Try.func13, Try.ntmps13
  go_wp2_with fail
  refine (markDict_any B next a n c I X R _ (H.out _) hn).mono ?_
  rintro e w1 ⟨rfl, ho, hm⟩
  have HX : Hid (OwnT w1 B a n mI mX mR ∧ MkOnly a n w w1) := ⟨ho, hm.alloc (.inr trivial)⟩
  clear ho hm
  go_wp2
  go_ret
  exact ⟨rfl, HX.out⟩

set_option maxHeartbeats 1000000 in
theorem heldDict_any (B : Nat) (next : Int) (a : Option Addr) (n c : Nat) (w : World) (h : OwnT w B a n mI mX mR) (hn : n ≤ 1048577) :
    Calls Try.prog 36 #[.agg #[.int .i64 next, .slice a n c], .int .i64 1] w fun e w' => e = .returned (.int .i64 (1 + 3 * (n : Int))) ∧ Below w.heap.size w w' := by
  have H : Hid (∀ o, OwnT (w.alloc o) B a n mI mX mR) := fun o => h.below (below_alloc _ _)
  clear h
  have hneg : ¬ (1 + 3 * (n : Int) < 0) := by omega
  go_enter Try.func36, Try.ntmps36
  go_wp2_with fail
  refine (heldTermS_any B a n c _ (H.out _) hn).mono ?_
  rintro e w1 ⟨rfl, hb⟩
  have HX : Hid (Below w.heap.size w w1) := (below_alloc _ _).trans (hb.mono (by simp))
  clear hb
  go_wp2
  go_ret
  exact ⟨rfl, HX.out⟩

set_option maxHeartbeats 1000000 in
theorem heldDictRes_any (B : Nat) (ok : Bool) (id next : Int) (a : Option Addr) (n c : Nat) (w : World) (h : OwnT w B a n mI mX mR) (hn : n ≤ 1048577) :
    Calls Try.prog 14 #[.agg #[.bool ok, .int .i64 id, .int .i64 next, .slice a n c], .int .i64 1] w fun e w' => e = .returned (.int .i64 (1 + 3 * (n : Int))) ∧ Below w.heap.size w w' := by
  have H : Hid (∀ o, OwnT (w.alloc o) B a n mI mX mR) := fun o => h.below (below_alloc _ _)
  clear h
  have hneg : ¬ (1 + 3 * (n : Int) < 0) := by omega
  go_enter Try.func14, Try.ntmps14
  go_wp2_with fail
  refine (heldDict_any B next a n c _ (H.out _) hn).mono ?_
  rintro e w1 ⟨rfl, hb⟩
  have HX : Hid (Below w.heap.size w w1) := (below_alloc _ _).trans (hb.mono (by simp))
  clear hb
  go_wp2
  go_ret
  exact ⟨rfl, HX.out⟩

set_option maxHeartbeats 1000000 in
theorem eqDictRes_yes (ok : Bool) (id next : Int) (a a' : Option Addr) (n c c' : Nat) (I : Nat → Int) (X : Nat → ByteArray) (R : Nat → Int) (w : World) (h : RdT w a n I X R) (h' : RdT w a' n I X R) (hn : n ≤ 1048576) :
    Calls Try.prog 10 #[.agg #[.bool ok, .int .i64 id, .int .i64 next, .slice a n c], .agg #[.bool ok, .int .i64 id, .int .i64 next, .slice a' n c']] w fun e w' => e = .returned (.bool true) ∧ Below w.heap.size w w' := by
  have H : Hid (∀ o o', RdT ((w.alloc o).alloc o') a n I X R ∧ RdT ((w.alloc o).alloc o') a' n I X R) := fun o o' =>
    have q : Below w.heap.size w ((w.alloc o).alloc o') := (below_alloc _ _).trans ((below_alloc _ _).mono (by simp))
    ⟨h.below q, h'.below q⟩
  clear h h'
  have hb1 : (ok != ok) = false := by simp
  have hb2 : (id != id) = false := by simp
  go_enter Try.func10, Try.ntmps10
  go_wp2_with fail
  refine (eqDict_yes next a a' n c c' I X R _ (H.out _ _).1 (H.out _ _).2 hn).mono ?_
  rintro e w1 ⟨rfl, hb⟩
  have HX : Hid (Below w.heap.size w w1) := ((below_alloc _ _).trans ((below_alloc _ _).mono (by simp))).trans (hb.mono (by simp; omega))
  clear hb
  go_wp2
  go_ret
  exact ⟨rfl, HX.out⟩
end Go.Proofs.Ytfecgececffdoaa
