import Derived.Test.YtocmbnocdjnfpaaPlH
import Derived.Test.YtocmbnocdjnfpaaPlE
import Derived.RangeFuncNested
import Derived.RangeFuncBound
import Derived.RangeFuncCalls
import Derived.RangeFuncLeaves
import Derived.Shelf.Abstract
import Derived.Shelf.RegionOpen
import Derived.OwnWalkIn
import Derived.TacticsInMore
import Derived.LoopNIn
import Derived.LoopIn
namespace Go.Proofs.Ytocmbnocdjnfpaa
open Go.RowKit Go.Deep Go.Shelf
set_option linter.unusedVariables false
set_option maxRecDepth 100000
attribute [local go_sem] Oper.semAt_some

/-- What a round is handed: a node's number, and whatever context stands there. -/
def XP (n : Nat) : Type := { x : Nat × Bool × ByteArray // x.1 < n }
def encP (I : Nat → Int) (X R : Nat → ByteArray) (AA : Nat → Option Addr) (CC : Nat → Nat) (H : Nat → Int) {n : Nat} (x : XP n) : Array Value :=
  #[.int .i64 (x.1.1 : Int), .agg #[.int .i64 (I x.1.1), .string (X x.1.1), .string (R x.1.1), .bool x.1.2.1, .string x.1.2.2, .slice (AA x.1.1) (arOf (I x.1.1)) (CC x.1.1), .int .i64 (H x.1.1)]]

/-- The row of places whatever the contexts. -/
def AnyPl (W : World) (g n : Nat) (I : Nat → Int) (X R : Nat → ByteArray) (AA : Nat → Option Addr) (CC : Nat → Nat) (H : Nat → Int) : Prop := ∃ Bd Lb, PlAt W g n (plF I X R AA CC Bd Lb H)

/-- What a round keeps. -/
def KpB (Bs g n : Nat) (I : Nat → Int) (X R : Nat → ByteArray) (AA : Nat → Option Addr) (CC : Nat → Nat) (H : Nat → Int) (W W' : World) : Prop :=
  (∀ v, W.cell? ⟨Bs, 0, none⟩ = some v → W'.cell? ⟨Bs, 0, none⟩ = some v) ∧ (AnyPl W g n I X R AA CC H → AnyPl W' g n I X R AA CC H)

set_option maxHeartbeats 4000000 in
theorem bw1_in (F : Fence) (nn : Nat) (hf : F.fn 143) (hro : F.round = none) (hn : 1 ≤ nn) (l Bs g n c : Nat) (I : Nat → Int) (X R : Nat → ByteArray) (AA : Nat → Option Addr) (CC : Nat → Nat) (H : Nat → Int) (hn0 : n ≤ 100) (J Jx : List (XP n) → World → Prop)
    (hY : ∀ pre x W, J pre W → pre.length < n → YieldAt F (nn - 1) Try.prog l (encP I X R AA CC H x) W fun e W' =>
      (e = .returned (.bool true) ∧ J (pre ++ [x]) W' ∧ KpB Bs g n I X R AA CC H W W') ∨ (e = .returned (.bool false) ∧ Jx (pre ++ [x]) W'))
    (W : World) (hBs : W.cell? ⟨Bs, 0, none⟩ = some (.slice (some ⟨g, 0, none⟩) n c)) (hP : AnyPl W g n I X R AA CC H) (h0 : J [] W) :
    CallsIn F nn Try.prog 143 #[.func (.yield l) #[] #[], .pointer (some ⟨Bs, 0, none⟩)] W fun e W' => (∃ v, e = .returned v) ∧ ((∃ xs : List (XP n), True ∧ J xs W') ∨ (∃ pre : List (XP n), True ∧ Jx pre W')) := by
  have HY : Hid (∀ pre x W, J pre W → pre.length < n → YieldAt F (nn - 1) Try.prog l (encP I X R AA CC H x) W fun e W' =>
      (e = .returned (.bool true) ∧ J (pre ++ [x]) W' ∧ KpB Bs g n I X R AA CC H W W') ∨ (e = .returned (.bool false) ∧ Jx (pre ++ [x]) W')) := hY
  have HP : Hid (AnyPl W g n I X R AA CC H) := hP
  have wn : IntKind.i64.wrap ((n : Int) - 1) = (n : Int) - 1 := by rw [IntKind.wrap_i64]; omega
  clear hY hP
  refine callsIn_of_wp Try.func143 rfl hf ?_ hro
  simp only [Try.ntmps143, List.size_toArray, List.length_cons, List.length_nil, Nat.reduceAdd, Nat.reduceSub, Array.replicate_succ, Array.replicate_zero, List.push_toArray, List.append_toArray, List.nil_append, List.cons_append]
  gi_wp2
  gi_loopw [3] (fun i wr => ∃ (k : Nat) (pre : List (XP n)), k ≤ n ∧ i = .int .i64 ((k : Int) - 1) ∧ pre.length = n - k ∧ J pre wr ∧ wr.cell? ⟨Bs, 0, none⟩ = some (.slice (some ⟨g, 0, none⟩) n c) ∧ AnyPl wr g n I X R AA CC H) (fun i _ => (intOf i + 1).toNat)
  case atStart => exact ⟨n, [], Nat.le_refl _, rfl, by simp, h0, hBs, HP.out⟩
  case round =>
    obtain ⟨k, pre, hk, rfl, hpl, hJ, hb, hp⟩ := hrel
    cases k with
    | zero =>
      have i0 : ¬ ((0 : Int) ≤ ((0 : Nat) : Int) - 1) := by omega
      gi_wp2
      go_end0
      exact ⟨⟨_, rfl⟩, .inl ⟨pre, by first | exact hJ | exact ⟨trivial, hJ⟩⟩⟩
    | succ k =>
      obtain ⟨Bd, Lb, hpp⟩ := hp
      have ek : (((k + 1 : Nat) : Int)) - 1 = (k : Int) := by omega
      rw [ek]
      have ik0 : (0 : Int) ≤ (k : Int) := by omega
      have ikn : (k : Int) < (n : Int) := by omega
      have wk : IntKind.i64.wrap ((k : Int) - 1) = (k : Int) - 1 := by rw [IntKind.wrap_i64]; omega
      obtain ⟨c0, c1, c2, c3, c4, c5, c6⟩ := hpp.seven (i := k) (by omega)
      obtain ⟨fn, tmps, assign, body, hy, hR⟩ := HY.out pre (⟨(k, Bd k, Lb k), by show k < n; omega⟩ : XP n) wr hJ (by omega)
      unfold encP at hy
      dsimp only at hy
      have HPP : Hid (PlAt wr g n (plF I X R AA CC Bd Lb H)) := hpp
      clear hpp
      dsimp only [plF] at c0 c1 c2 c3 c4 c5 c6
      gi_wp2
      refine hR.mono ?_
      rintro e W3 (⟨rfl, hJ3, hk3⟩ | ⟨rfl, hJx3⟩)
      · have hb3 := hk3.1 _ hb
        have HP3 := hk3.2 ⟨Bd, Lb, HPP.out⟩
        gi_wp2
        go_roundw
        case rel => exact ⟨k, _, by omega, by first | rfl | rw [wk], by rw [List.length_append, hpl]; show n - (k + 1) + 1 = n - k; omega, hJ3, hb3, HP3⟩
        case measure => first | (simp [intOf]; done) | (simp [intOf]; omega)
      · gi_wp2
        refine bodyPost_ret (results_none rfl _ _ _) rfl ?_
        exact ⟨⟨_, rfl⟩, .inr ⟨_, by first | exact hJx3 | exact ⟨trivial, hJx3⟩⟩⟩

set_option maxHeartbeats 1000000 in
theorem bw_in (F : Fence) (nn : Nat) (hf : F.fn 125) (hro : F.round = none) (v : Value) (p : Option Addr) (k c : Nat) (hv : v = .slice p k c) (w : World) :
    CallsIn F nn Try.prog 125 #[.slice p k c] w fun e w' => e = .returned (.func (.func 143) #[] #[.pointer (some ⟨w.heap.size, 0, none⟩)]) ∧ w' = w.alloc (.cells #[.slice p k c] 65) := by
  refine callsIn_of_wp Try.func125 rfl hf ?_ hro
  simp only [Try.ntmps125, List.size_toArray, List.length_cons, List.length_nil, Nat.reduceAdd, Nat.reduceSub, Array.replicate_succ, Array.replicate_zero, List.push_toArray, List.append_toArray, List.nil_append, List.cons_append]
  gi_wp2
  go_ret
  exact ⟨rfl, rfl⟩

theorem bw_stops (F : Fence) (nn : Nat) (hf : F.fn 143) (hro : F.round = none) (hn : 1 ≤ nn) (Bs g n c : Nat) (I : Nat → Int) (X R : Nat → ByteArray) (AA : Nat → Option Addr) (CC : Nat → Nat) (H : Nat → Int) (hn0 : n ≤ 100) (w : World)
    (hc : w.cell? ⟨Bs, 0, none⟩ = some (.slice (some ⟨g, 0, none⟩) n c)) (hP : AnyPl w g n I X R AA CC H) :
    SeqStopsK F nn Try.prog 143 #[.pointer (some ⟨Bs, 0, none⟩)] (fun x : XP n => encP I X R AA CC H x) (KpB Bs g n I X R AA CC H) (fun _ => True) (fun _ => True) n w := fun l J Jx W hW _ _ hY h0 =>
  bw1_in F nn hf hro hn l Bs g n c I X R AA CC H hn0 J Jx hY W ((hW.cell (p := ⟨Bs, 0, none⟩) (World.block_lt_of_cell? _ _ hc)).trans hc) (by obtain ⟨Bd, Lb, h⟩ := hP; exact ⟨Bd, Lb, h.below hW⟩) h0
end Go.Proofs.Ytocmbnocdjnfpaa
