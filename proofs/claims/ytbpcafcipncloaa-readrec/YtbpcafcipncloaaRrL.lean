import Derived.Test.YtbpcafcipncloaaSpRw
import Derived.Test.YtbpcafcipncloaaHeldD
import Derived.Test.YtbpcafcipncloaaEqByteS
import Derived.Test.YtbpcafcipncloaaMarkB
namespace Go.Proofs.Ytbpcafcipncloaa
open Go.RowKit Go.Deep
set_option linter.unusedVariables false
set_option maxRecDepth 100000

/-- A record's answer in new memory. -/
def RetRec (W : World) (e : Ending) (w' : World) (ok : Bool) (r0 : Nat) (f : Nat → Int) (K : Int) : Prop := ∃ a c, e = .returned (.agg #[.bool ok, .slice a r0 c, .int .i64 K]) ∧ OwnB w' W.heap.size a r0 f ∧ Below W.heap.size W w'
def RetRecR (W : World) (e : Ending) (w' : World) (ok : Bool) (r0 : Nat) (f : Nat → Int) (K : Int) : Prop := ∃ a c, e = .returned (.agg #[.bool ok, .slice a r0 c, .int .i64 K]) ∧ Rd .u8 w' a r0 f ∧ Below W.heap.size W w'

/-- A box of three cells. -/
def Bx3 (w : World) (g : Nat) (v0 v1 v2 : Value) : Prop := w.heap[g]? = some (.cells #[v0, v1, v2] 35)
theorem Bx3.cells {w : World} {g : Nat} {v0 v1 v2 : Value} (h : Bx3 w g v0 v1 v2) : w.cell? ⟨g, 0, none⟩ = some v0 ∧ w.cell? ⟨g, 1, none⟩ = some v1 ∧ w.cell? ⟨g, 2, none⟩ = some v2 ∧ g < w.heap.size := by
  have hl := (Array.getElem?_eq_some_iff.1 h).1
  unfold Bx3 at h
  exact ⟨by simp [World.cell?, h], by simp [World.cell?, h], by simp [World.cell?, h], hl⟩
theorem Bx3.keep {w w' : World} {g : Nat} {v0 v1 v2 : Value} (h : Bx3 w g v0 v1 v2) (hb : Below w.heap.size w w') : Bx3 w' g v0 v1 v2 := (hb.block g (Array.getElem?_eq_some_iff.1 h).1).trans h

theorem belowTwo (w : World) (o o' : Obj) : Below w.heap.size w ((w.alloc o).alloc o') := (below_alloc _ _).trans ((below_alloc _ _).mono (by simp))

theorem twoBox {w w1 : World} {A B : Array Value} {t : TypeId} (hb : Below (w.heap.size + 2) ((w.alloc (.cells A t)).alloc (.cells B t)) w1) : w1.heap[w.heap.size]? = some (.cells A t) ∧ w1.heap[w.heap.size + 1]? = some (.cells B t) ∧ w.heap.size + 2 ≤ w1.heap.size := by
  have e1 : (w.alloc (.cells A t)).heap.size = w.heap.size + 1 := by simp
  have b1 := blk_alloc_new (w.alloc (.cells A t)) (.cells B t)
  rw [e1] at b1
  exact ⟨(hb.block _ (by omega)).trans (((below_alloc _ _).block _ (by omega)).trans (blk_alloc_new _ _)), (hb.block _ (by omega)).trans b1, by have := hb.size; simp at this; omega⟩

set_option maxHeartbeats 1000000 in
theorem eqRec_yes (ok : Bool) (K : Int) (a b : Option Addr) (r0 ca cb : Nat) (f : Nat → Int) (w : World) (ha : Rd .u8 w a r0 f) (hb : Rd .u8 w b r0 f) (hr : r0 ≤ 1048576) :
    Calls Try.prog 18 #[.agg #[.bool ok, .slice a r0 ca, .int .i64 K], .agg #[.bool ok, .slice b r0 cb, .int .i64 K]] w fun e w' => e = .returned (.bool true) ∧ Below w.heap.size w w' := by
  have h1 : (!(ok == ok)) = false := by simp
  have h2 : (K != K) = false := by simp
  have HA : Hid (Rd .u8 w a r0 f ∧ Rd .u8 w b r0 f) := ⟨ha, hb⟩
  clear ha hb
  go_enter Try.func18, Try.ntmps18
  go_wp2_with fail
  refine (eqByteS_yes a b r0 ca cb f _ (HA.out.1.below (belowTwo w _ _)) (HA.out.2.below (belowTwo w _ _)) (by omega)).mono ?_
  rintro e w1 ⟨rfl, nd, hw1⟩
  have HB : Hid (Below w.heap.size w w1) := by rw [hw1]; exact below_drewN (belowTwo w _ _) nd
  obtain ⟨x0, x1, x2, x3⟩ : w1.cell? ⟨w.heap.size, 2, none⟩ = some (.int .i64 K) ∧ w1.cell? ⟨w.heap.size + 1, 2, none⟩ = some (.int .i64 K) ∧ w.heap.size < w1.heap.size ∧ w.heap.size + 1 < w1.heap.size := by
    have q := twoBox (w1 := w1) (by rw [hw1]; exact below_drewN (Below.refl _ _) nd)
    exact ⟨by simp [World.cell?, q.1], by simp [World.cell?, q.2.1], by omega, by omega⟩
  clear hw1
  go_wp2
  go_ret
  exact ⟨rfl, HB.out⟩

set_option maxHeartbeats 1000000 in
theorem markRec_own (ok : Bool) (K : Int) (a : Option Addr) (n c B : Nat) (f : Nat → Int) (w : World) (h : OwnB w B a n f) (hn : n ≤ 1048576) :
    Calls Try.prog 21 #[.agg #[.bool ok, .slice a n c, .int .i64 K], .int .i64 1] w fun e w' => e = .returned (.int .i64 (1 + (n : Int))) ∧ OwnB w' B a n (fun i => IntKind.u8.wrap (1 + i)) ∧ ∃ o, OnlyAt a (w.alloc o) w' ∧ (n = 0 → w' = w.alloc o) := by
  have H : Hid (∀ o, OwnB (w.alloc o) B a n f) := fun o => h.below (below_alloc _ _)
  clear h
  go_enter Try.func21, Try.ntmps21
  go_wp2_with fail
  refine (markByteS_own a n c B f _ 1 (H.out _) (by omega) (by omega) (by omega)).mono ?_
  rintro e w1 ⟨rfl, ho, hO, hz⟩
  have HX : Hid (OwnB w1 B a n (fun i => IntKind.u8.wrap (1 + i)) ∧ ∃ o, OnlyAt a (w.alloc o) w1 ∧ (n = 0 → w1 = w.alloc o)) := ⟨ho, _, hO, hz⟩
  clear ho hO hz
  go_wp2
  go_ret
  exact ⟨rfl, HX.out⟩

set_option maxHeartbeats 1000000 in
theorem heldRec_yes (ok : Bool) (K : Int) (a : Option Addr) (n c : Nat) (w : World) (h : Rd .u8 w a n (fun i => IntKind.u8.wrap (1 + i))) (hn : n ≤ 1048576) :
    Calls Try.prog 22 #[.agg #[.bool ok, .slice a n c, .int .i64 K], .int .i64 1] w fun e w' => e = .returned (.int .i64 (1 + (n : Int))) ∧ Below w.heap.size w w' := by
  have H : Hid (∀ o, Rd .u8 (w.alloc o) a n (fun i => IntKind.u8.wrap (1 + i))) := fun o => h.below (below_alloc _ _)
  have hneg : ¬ ((1 : Int) + (n : Int) < 0) := by omega
  clear h
  go_enter Try.func22, Try.ntmps22
  go_wp2_with fail
  refine (heldByteS_yes a n c _ 1 (H.out _) (by omega) (by omega) (by omega)).mono ?_
  rintro e w1 ⟨rfl, hw1⟩
  have HB : Hid (Below w.heap.size w w1) := by rw [hw1]; exact below_alloc _ _
  clear hw1
  go_wp2
  go_ret
  exact ⟨rfl, HB.out⟩

set_option maxHeartbeats 2000000 in
theorem specReadRec_no (a p : Option Addr) (n c m q : Nat) (S : Nat → Int) (L : Nat → Nat) (F : Nat → Nat → Int) (fuel : Int) (dead : Bool) (at_ seq : Int) (w : World) (hp : RdP w p m S L F) (hn : n ≤ 1048576) (hm : m ≤ 1048576) (hno : ¬ (VD n m S L fuel ∧ numB seq = true ∧ 0 ≤ at_ ∧ at_ < (n : Int) / 64)) :
    Calls Try.prog 15 #[.agg #[.slice a n c, .slice p m q, .int .i64 fuel, .bool dead], .int .i64 at_, .int .i64 seq] w fun e w' => e = .returned (.agg #[.bool false, .slice none 0 0, .int .i64 0]) ∧ Below w.heap.size w w' := by
  have HFIN : Hid (∀ W : World, Below (w.heap.size + 2) ((w.alloc (.cells #[.slice a n c, .slice p m q, .int .i64 fuel, .bool dead] 39)).alloc (.cells #[.bool false, .slice none 0 0, .int .i64 0] 35)) W → Below w.heap.size w W) := fun W h => ((below_alloc _ _).trans ((below_alloc _ _).mono (by simp))).trans (h.mono (by omega))
  have HE2 : Hid (∀ o1 o2, ((w.alloc o1).alloc o2).heap.size = w.heap.size + 2) := fun _ _ => by simp
  have HP : Hid (RdP w p m S L F) := hp
  have HNO : Hid (¬ (VD n m S L fuel ∧ numB seq = true ∧ 0 ≤ at_ ∧ at_ < (n : Int) / 64)) := hno
  clear hp hno
  go_enter Try.func15, Try.ntmps15
  go_wp2_with fail
  refine (specValid_any a p n c m q S L F fuel dead _ (HP.out.below ((below_alloc _ _).trans ((below_alloc _ _).mono (by simp)))) hn hm).mono ?_
  rintro e w1 ⟨h1, hb1⟩
  rw [HE2.out] at hb1
  have K1 : Hid (Below (w.heap.size + 2) ((w.alloc (.cells #[.slice a n c, .slice p m q, .int .i64 fuel, .bool dead] 39)).alloc (.cells #[.bool false, .slice none 0 0, .int .i64 0] 35)) w1) := hb1
  have z1 : w.heap.size + 2 ≤ w1.heap.size := by have := hb1.size; rw [HE2.out] at this; exact this
  have z1' : w.heap.size + 1 < w1.heap.size := by omega
  clear hb1
  have hc1 : ∀ b o, b < w.heap.size + 2 → w1.cell? ⟨b, o, none⟩ = _ := fun b o hb => K1.out.cell (p := ⟨b, o, none⟩) hb
  have hf1 : ∀ b o, b < w.heap.size + 2 → w1.frozen? ⟨b, o, none⟩ = _ := fun b o hb => K1.out.frozen (p := ⟨b, o, none⟩) hb
  have HB1 : Hid (Below w.heap.size w w1) := HFIN.out _ K1.out
  by_cases hv : VD n m S L fuel
  case neg =>
    have := ans_false' h1 hv
    subst this
    clear h1
    go_wp2
    refine bodyPost_ret (v := .agg #[.bool false, .slice none 0 0, .int .i64 0]) (by simp [results, Try.results15, go_sem, hc1]) rfl ⟨rfl, below3 HB1.out (by omega)⟩
  case pos =>
  have := ans_true' h1 hv
  subst this
  clear h1
  go_wp2_with fail
  refine (l2Number_any seq w1).mono ?_
  rintro e w2 ⟨rfl, hw⟩
  subst hw
  cases hq : numB seq with
  | false =>
    go_wp2
    refine bodyPost_ret (v := .agg #[.bool false, .slice none 0 0, .int .i64 0]) (by simp [results, Try.results15, go_sem, hc1]) rfl ⟨rfl, below3 HB1.out (by omega)⟩
  | true =>
  by_cases ha0 : at_ < 0
  · go_wp2
    refine bodyPost_ret (v := .agg #[.bool false, .slice none 0 0, .int .i64 0]) (by simp [results, Try.results15, go_sem, hc1]) rfl ⟨rfl, below3 HB1.out (by omega)⟩
  have hge : (n : Int) / 64 ≤ at_ := by
    by_cases h9 : at_ < (n : Int) / 64
    · exact absurd ⟨hv, hq, by omega, h9⟩ HNO.out
    · omega
  go_wp2_with fail
  refine (l1Sectors_any a p n c m q fuel dead w2 hn).mono ?_
  rintro e w3 ⟨rfl, hb3⟩
  have K3 : Hid (Below (w.heap.size + 2) ((w.alloc (.cells #[.slice a n c, .slice p m q, .int .i64 fuel, .bool dead] 39)).alloc (.cells #[.bool false, .slice none 0 0, .int .i64 0] 35)) w3) := K1.out.trans (hb3.mono z1)
  have z3 : w.heap.size + 1 < w3.heap.size := by have := hb3.size; omega
  clear hb3 hc1 hf1
  have hc3 : ∀ b o, b < w.heap.size + 2 → w3.cell? ⟨b, o, none⟩ = _ := fun b o hb => K3.out.cell (p := ⟨b, o, none⟩) hb
  have hf3 : ∀ b o, b < w.heap.size + 2 → w3.frozen? ⟨b, o, none⟩ = _ := fun b o hb => K3.out.frozen (p := ⟨b, o, none⟩) hb
  have HB3 : Hid (Below w.heap.size w w3) := HFIN.out _ K3.out
  go_wp2
  refine bodyPost_ret (v := .agg #[.bool false, .slice none 0 0, .int .i64 0]) (by simp [results, Try.results15, go_sem, hc3]) rfl ⟨rfl, below3 HB3.out (by omega)⟩
end Go.Proofs.Ytbpcafcipncloaa
