import Derived.Test.YtakemeccigpbaaaTgK
import Derived.Test.YtakemeccigpbaaaTnEq
namespace Go.Proofs.Ytakemeccigpbaaa
open Go.RowKit Go.Deep
set_option linter.unusedVariables false
set_option maxRecDepth 100000

theorem OwnTn.under {w w' : World} {B g n : Nat} {N : Nat → Tn} {KA DA : Nat → Option Addr} {KC DC : Nat → Nat} (h : OwnTn w B g n N KA DA KC DC) (hb : Below w.heap.size w w') : OwnTn w' B g n N KA DA KC DC :=
  ⟨h.le, h.row.of_block (hb.block g h.row.lt), fun i hi => (h.keys i hi).below hb, fun i hi => (h.kids i hi).below hb, h.apartK, h.apartD⟩
theorem WiT.ofBelow {B T : Nat} {w w' : World} (h : Below w.heap.size w w') : WiT B T w w' := WiT.grown (grown_below (r := none) h) (fun b e => by cases e)

set_option maxHeartbeats 2000000 in
theorem markTree_eq (B T g n c : Nat) (N : Nat → Tn) (KA DA : Nat → Option Addr) (KC DC : Nat → Nat) (w : World) (h : OwnTn w B g n N KA DA KC DC) (hT : TnB T g n N KA DA B) (hk2 : n + sumT N n ≤ 1048576) :
    Calls Try.prog 26 #[.agg #[.slice (some ⟨g, 0, none⟩) n c], .int .i64 1] w fun e w' => e = .returned (.int .i64 ((koT 1 N n : Nat) : Int)) ∧ WiT B T w w' ∧ OwnTn w' B g n (mkN 1 N) KA DA KC DC := by
  have HR : Hid (∀ O : Obj, OwnTn (w.alloc O) B g n N KA DA KC DC ∧ WiT B T w (w.alloc O)) := fun O => ⟨h.under (below_alloc _ _), WiT.ofBelow (below_alloc _ _)⟩
  have HT : Hid (TnB T g n N KA DA B) := hT
  clear h hT
  go_enter Try.func26, Try.ntmps26
  go_wp2_with fail
  refine (markTNodeS_eq B T g n c 1 N KA DA KC DC _ (HR.out _).1 HT.out (Nat.le_refl _) (by omega)).mono ?_
  rintro e w1 ⟨rfl, hw, ho⟩
  have HW : Hid (WiT B T w w1 ∧ OwnTn w1 B g n (mkN 1 N) KA DA KC DC) := ⟨(HR.out _).2.trans hw, ho⟩
  clear hw ho
  go_wp2
  go_ret
  exact ⟨rfl, HW.out⟩

set_option maxHeartbeats 2000000 in
theorem markTreeRes_eq (ok : Bool) (B T g n c : Nat) (N : Nat → Tn) (KA DA : Nat → Option Addr) (KC DC : Nat → Nat) (w : World) (h : OwnTn w B g n N KA DA KC DC) (hT : TnB T g n N KA DA B) (hk2 : n + sumT N n ≤ 1048576) :
    Calls Try.prog 31 #[.agg #[.bool ok, .slice (some ⟨g, 0, none⟩) n c], .int .i64 1] w fun e w' => e = .returned (.int .i64 ((koT 1 N n : Nat) : Int)) ∧ WiT B T w w' ∧ OwnTn w' B g n (mkN 1 N) KA DA KC DC := by
  have HR : Hid (∀ O : Obj, OwnTn (w.alloc O) B g n N KA DA KC DC ∧ WiT B T w (w.alloc O)) := fun O => ⟨h.under (below_alloc _ _), WiT.ofBelow (below_alloc _ _)⟩
  have HT : Hid (TnB T g n N KA DA B) := hT
  clear h hT
  go_enter Try.func31, Try.ntmps31
  go_wp2_with fail
  refine (markTree_eq B T g n c N KA DA KC DC _ (HR.out _).1 HT.out hk2).mono ?_
  rintro e w1 ⟨rfl, hw, ho⟩
  have HW : Hid (WiT B T w w1 ∧ OwnTn w1 B g n (mkN 1 N) KA DA KC DC) := ⟨(HR.out _).2.trans hw, ho⟩
  clear hw ho
  go_wp2
  go_ret
  exact ⟨rfl, HW.out⟩

set_option maxHeartbeats 2000000 in
theorem heldTree_any (a : Option Addr) (n c : Nat) (N : Nat → Tn) (w : World) (h : RdTn w a n (mkN 1 N)) (hk2 : n + sumT N n ≤ 1048576) :
    Calls Try.prog 50 #[.agg #[.slice a n c], .int .i64 1] w fun e w' => e = .returned (.int .i64 ((koT 1 N n : Nat) : Int)) ∧ Below w.heap.size w w' := by
  have HR : Hid (RdTn w a n (mkN 1 N)) := h
  clear h
  go_enter Try.func50, Try.ntmps50
  go_wp2_with fail
  refine (heldTNodeS_any a n c 1 N _ (HR.out.below (below_alloc _ _)) (Nat.le_refl _) (by omega)).mono ?_
  rintro e w1 ⟨rfl, hb1⟩
  have H1 : Hid (Below w.heap.size w w1) := (below_alloc _ _).trans (hb1.mono (by simp))
  obtain ⟨K, hKe⟩ : ∃ K, K = koT 1 N n := ⟨_, rfl⟩
  rw [← hKe]
  have HKe : Hid (K = koT 1 N n) := hKe
  clear hKe
  have hK : ¬ (K : Int) < 0 := by omega
  clear hb1
  go_wp2
  go_ret
  exact ⟨by rw [← HKe.out]; rfl, H1.out⟩

set_option maxHeartbeats 2000000 in
theorem heldTreeRes_any (ok : Bool) (a : Option Addr) (n c : Nat) (N : Nat → Tn) (w : World) (h : RdTn w a n (mkN 1 N)) (hk2 : n + sumT N n ≤ 1048576) :
    Calls Try.prog 32 #[.agg #[.bool ok, .slice a n c], .int .i64 1] w fun e w' => e = .returned (.int .i64 ((koT 1 N n : Nat) : Int)) ∧ Below w.heap.size w w' := by
  have HR : Hid (RdTn w a n (mkN 1 N)) := h
  clear h
  go_enter Try.func32, Try.ntmps32
  go_wp2_with fail
  refine (heldTree_any a n c N _ (HR.out.below (below_alloc _ _)) hk2).mono ?_
  rintro e w1 ⟨rfl, hb1⟩
  have H1 : Hid (Below w.heap.size w w1) := (below_alloc _ _).trans (hb1.mono (by simp))
  obtain ⟨K, hKe⟩ : ∃ K, K = koT 1 N n := ⟨_, rfl⟩
  rw [← hKe]
  have HKe : Hid (K = koT 1 N n) := hKe
  clear hKe
  have hK : ¬ (K : Int) < 0 := by omega
  clear hb1
  go_wp2
  go_ret
  exact ⟨by rw [← HKe.out]; rfl, H1.out⟩

set_option maxHeartbeats 2000000 in
theorem eqTreeRes_yes (ok : Bool) (a b : Option Addr) (m ca cb : Nat) (N : Nat → Tn) (w : World) (ha : RdTn w a m N) (hb : RdTn w b m N) (hm : m ≤ 1048576) (hN : ∀ i, i < m → TnFit (N i)) :
    Calls Try.prog 30 #[.agg #[.bool ok, .slice a m ca], .agg #[.bool ok, .slice b m cb]] w fun e w' => e = .returned (.bool true) ∧ Below w.heap.size w w' := by
  have hbel : ∀ o1 o2, Below w.heap.size w ((w.alloc o1).alloc o2) := fun o1 o2 => ((Below.refl _ _).alloc (Nat.le_refl _) o1).alloc (by simp) o2
  have HR : Hid (RdTn w a m N ∧ RdTn w b m N ∧ (∀ i, i < m → TnFit (N i)) ∧ ∀ o1 o2, Below w.heap.size w ((w.alloc o1).alloc o2)) := ⟨ha, hb, hN, hbel⟩
  clear ha hb hN hbel
  have hoo : (ok != ok) = false := by cases ok <;> rfl
  go_enter Try.func30, Try.ntmps30
  go_wp2_with fail
  refine (eqTree_yes a b m ca cb N _ (HR.out.1.below (HR.out.2.2.2 _ _)) (HR.out.2.1.below (HR.out.2.2.2 _ _)) hm HR.out.2.2.1).mono ?_
  rintro e w1 ⟨rfl, hb1⟩
  have H1 : Hid (Below w.heap.size w w1) := (HR.out.2.2.2 _ _).trans (hb1.mono (by simp; omega))
  clear hb1
  go_wp2
  go_ret
  exact ⟨rfl, H1.out⟩
end Go.Proofs.Ytakemeccigpbaaa
