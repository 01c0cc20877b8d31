import Derived.Test.YtbpcafcipncloaaEqP
namespace Go.Proofs.Ytbpcafcipncloaa
open Go.RowKit Go.Deep

set_option maxHeartbeats 400000 in
theorem eqDisk_yes (a a' : Option Addr) (n c c' : Nat) (d : Nat → Int) (p p' : Option Addr) (m q q' : Nat) (S : Nat → Int) (L : Nat → Nat) (F : Nat → Nat → Int) (fuel : Int) (dead : Bool) (w : World)
    (ha : Rd .u8 w a n d) (ha' : Rd .u8 w a' n d) (hp : RdP w p m S L F) (hp' : RdP w p' m S L F) (hn : n ≤ 1099511627776) (hm : m ≤ 1048576) (hL : ∀ i, i < m → L i ≤ 1048576) :
    Calls Try.prog 19 #[.agg #[.slice a n c, .slice p m q, .int .i64 fuel, .bool dead], .agg #[.slice a' n c', .slice p' m q', .int .i64 fuel, .bool dead]] w fun e w' => e = .returned (.bool true) ∧ Below w.heap.size w w' := by
  have hff : (fuel != fuel) = false := by simp
  have hdd : (dead != dead) = false := by simp
  have hbel : ∀ o1 o2, Below w.heap.size w ((w.alloc o1).alloc o2) := fun o1 o2 => ((Below.refl _ _).alloc (Nat.le_refl _) o1).alloc (by simp) o2
  go_enter Try.func19, Try.ntmps19
  go_wp2_with fail
  refine (eqByteS_yes a a' n c c' d _ (ha.below (hbel _ _)) (ha'.below (hbel _ _)) hn).mono ?_
  rintro e w1 ⟨rfl, k, rfl⟩
  go_wp2_with fail
  refine (eqPendS_yes p p' m q q' S L F _ (hp.below (below_drewN (hbel _ _) k)) (hp'.below (below_drewN (hbel _ _) k)) hm hL).mono ?_
  rintro e w2 ⟨rfl, hb2⟩
  obtain ⟨hc, hf⟩ := bcell hb2
  clear ha ha' hp hp'
  go_wp2
  go_ret
  exact ⟨rfl, (below_drewN (hbel _ _) k).trans (hb2.mono (by simp; omega))⟩
end Go.Proofs.Ytbpcafcipncloaa
