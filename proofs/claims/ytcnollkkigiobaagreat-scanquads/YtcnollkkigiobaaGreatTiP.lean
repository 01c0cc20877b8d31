import Derived.Test.YtcnollkkigiobaaGreatTiL
import Derived.Test.YtcnollkkigiobaaGreatTrL
namespace Go.Proofs.YtcnollkkigiobaaGreat
open Go.RowKit Go.Deep
set_option linter.unusedVariables false
set_option maxRecDepth 100000

theorem grown_set (w : World) (b i : Nat) (v : Value) : w.grownBy (w.setCell ⟨b, i, none⟩ v) (some b) :=
  ⟨rfl, rfl, rfl, by simp [World.setCell], fun k hk hne => Below.heap_setCell _ _ _ _ (fun e => hne (by rw [e]))⟩
theorem grown_refl (w : World) (r : Option Nat) : w.grownBy w r := ⟨rfl, rfl, rfl, Nat.le_refl _, fun _ _ _ => rfl⟩
theorem grown_trans {w w1 w2 : World} {r : Option Nat} (h : w.grownBy w1 r) (g : w1.grownBy w2 r) : w.grownBy w2 r :=
  ⟨g.os.trans h.os, g.tape.trans h.tape, g.output.trans h.output, Nat.le_trans h.size g.size, fun k hk hne => (g.block k (Nat.lt_of_lt_of_le hk h.size) hne).trans (h.block k hk hne)⟩
theorem grown_below {w w1 : World} {r : Option Nat} (h : Below w.heap.size w w1) : w.grownBy w1 r := ⟨h.os, h.tape, h.output, h.size, fun k hk _ => h.block k hk⟩
theorem below_grown {B : Nat} {w w1 : World} {r : Nat} (h : w.grownBy w1 (some r)) (hB : B ≤ w.heap.size) (hr : B ≤ r) : Below B w w1 := ⟨h.os, h.tape, h.output, h.size, fun k hk => h.block k (by omega) (fun e => by injection e with e; omega)⟩

/-- What isLeafDepth leaves. -/
def RetLd (rb b o n c x : Nat) (dep D : Int) (lk : ByteArray) (hk : Bool) (w : World) (e : Ending) (w' : World) : Prop :=
  ∃ ok, e = .returned (.bool ok) ∧ w.grownBy w' (some rb) ∧ w'.heap.size = w.heap.size ∧ ((ok = true ∧ (D = 0 ∨ D = dep) ∧ RBx w' rb b o n c x dep lk hk) ∨ (ok = false ∧ ¬ (D = 0 ∨ D = dep)))

/-- What passKeys leaves. -/
def RetPk (rb b o n c x : Nat) (D : Int) (lk : ByteArray) (hk : Bool) (L : List ByteArray) (w : World) (e : Ending) (w' : World) : Prop :=
  ∃ ok, e = .returned (.bool ok) ∧ w.grownBy w' (some rb) ∧ w'.heap.size = w.heap.size ∧ ((ok = true ∧ ∃ hk' lk', Chain hk lk L hk' lk' ∧ RBx w' rb b o n c x D lk' hk') ∨ (ok = false ∧ ∀ hk' lk', ¬ Chain hk lk L hk' lk'))

set_option maxHeartbeats 1000000 in
theorem leafDepth_any (rb b o n c x : Nat) (dep D : Int) (lk : ByteArray) (hk : Bool) (w : World) (h : RBx w rb b o n c x D lk hk) (hd : 0 ≤ dep) :
    Calls Tryz.prog 154 #[.pointer (some ⟨rb, 0, none⟩), .int .i64 dep] w (RetLd rb b o n c x dep D lk hk w) := by
  have c2 := h.cell 2
  have f2 := h.frozen 2
  have hl := h.lt
  simp at c2
  have HR : Hid (RBx w rb b o n c x D lk hk) := h
  clear h
  by_cases h0 : D = 0
  · subst h0
    have hq : ((0 : Int) == 0) = true := rfl
    have HX : Hid (RBx (w.setCell ⟨rb, 2, none⟩ (.int .i64 dep)) rb b o n c x dep lk hk) := HR.out.set 2 _
    have c3 := HX.out.cell 2
    simp at c3
    go_enter Tryz.func154, Tryz.ntmps154
    go_wp2
    go_ret
    exact ⟨true, by simp, grown_set _ _ _ _, by simp [World.setCell], .inl ⟨rfl, .inl rfl, HX.out⟩⟩
  · have hq : (D == 0) = false := by simpa using h0
    by_cases h1 : D = dep
    · subst h1
      have hq1 : (D == D) = true := by simp
      go_enter Tryz.func154, Tryz.ntmps154
      go_wp2
      go_ret
      exact ⟨true, by simp, grown_refl _ _, rfl, .inl ⟨rfl, .inr rfl, HR.out⟩⟩
    · have hq1 : (D == dep) = false := by simpa using h1
      go_enter Tryz.func154, Tryz.ntmps154
      go_wp2
      go_ret
      exact ⟨false, by simp, grown_refl _ _, rfl, .inr ⟨rfl, fun h => h.elim h0 h1⟩⟩

theorem chain_take {L : List ByteArray} {k : Nat} (h : k < L.length) : L.take (k + 1) = L.take k ++ [gt L k] := by
  rw [← List.take_append_getElem h]
  unfold gt
  rw [List.getD_eq_getElem?_getD, List.getElem?_eq_getElem h]
  rfl

/-- A key that does not pass stops the chain. -/
theorem chain_stop {hk h1 : Bool} {lk l1 : ByteArray} {L : List ByteArray} {k : Nat} (h : Chain hk lk (L.take k) h1 l1) (hlt : k < L.length) (hbad : ¬ ((gt L k).size ≤ 16 ∧ (h1 = true → Op.bytesLess l1.toList (gt L k).toList = true))) (h2 : Bool) (l2 : ByteArray) : ¬ Chain hk lk L h2 l2 := by
  intro hc
  have e : L = L.take k ++ (gt L k :: L.drop (k + 1)) := by
    conv => lhs; rw [← List.take_append_drop (k + 1) L, chain_take hlt]
    simp
  rw [e] at hc
  obtain ⟨h3, l3, q1, q2⟩ := Chain.split hc
  obtain ⟨rfl, rfl⟩ := Chain.fn h q1
  exact hbad ⟨q2.1, q2.2.1⟩

set_option maxHeartbeats 4000000 in
theorem passKeys_any (rb b o n c x m kc : Nat) (ka : Option Addr) (D : Int) (lk : ByteArray) (hk : Bool) (L : List ByteArray) (w : World) (h : RBx w rb b o n c x D lk hk) (hm : m = L.length) (hm2 : m ≤ 1048576) (hr : ∀ W : World, w.grownBy W (some rb) → RdS W ka m (gt L)) :
    Calls Tryz.prog 155 #[.pointer (some ⟨rb, 0, none⟩), .slice ka m kc] w (RetPk rb b o n c x D lk hk L w) := by
  have HR : Hid (∀ W : World, w.grownBy W (some rb) → RdS W ka m (gt L)) := hr
  have HM : Hid (m = L.length) := hm
  have H0 : Hid (RBx w rb b o n c x D lk hk) := h
  clear h hm hr
  go_enter Tryz.func155, Tryz.ntmps155
  go_wp2
  go_loopw [9] (fun i wr => ∃ (k : Nat) (h1 : Bool) (l1 : ByteArray), k ≤ m ∧ i = .int .i64 k ∧ w.grownBy wr (some rb) ∧ wr.heap.size = w.heap.size ∧ Chain hk lk (L.take k) h1 l1 ∧ RBx wr rb b o n c x D l1 h1) (fun i _ => m - (intOf i).toNat)
  case atStart => exact ⟨0, hk, lk, Nat.zero_le _, rfl, grown_refl _ _, rfl, ⟨rfl, rfl⟩, H0.out⟩
  case round =>
    obtain ⟨k, h1, l1, hkm, rfl, hgr, hsz, hch, hbx⟩ := hrel
    clear H0
    have HG : Hid (w.grownBy wr (some rb) ∧ wr.heap.size = w.heap.size ∧ Chain hk lk (L.take k) h1 l1 ∧ RBx wr rb b o n c x D l1 h1) := ⟨hgr, hsz, hch, hbx⟩
    have c3 := hbx.cell 3
    have c4 := hbx.cell 4
    have f3 := hbx.frozen 3
    have f4 := hbx.frozen 4
    have hl := hbx.lt
    simp at c3 c4
    clear hgr hsz hch hbx
    by_cases hlt : k < m
    · have hlk : k < L.length := by rw [← HM.out]; exact hlt
      rcases HR.out wr HG.out.1 with q | ⟨bk, ok, rfl, hc⟩
      · omega
      have s1 := hc k hlt
      have hk0 : (0 : Int) ≤ (k : Int) := by omega
      have hkmI : (k : Int) < (m : Int) := by omega
      clear hc
      by_cases h16 : 16 < (gt L k).size
      · have j16 : (16 : Int) < ((gt L k).size : Int) := by omega
        have j16' : decide ((16 : Int) < ((gt L k).size : Int)) = true := decide_eq_true j16
        have n16' : decide (16 < (gt L k).size) = true := decide_eq_true h16
        have HNo : Hid (∀ h2 l2, ¬ Chain hk lk L h2 l2) := fun h2 l2 => chain_stop HG.out.2.2.1 hlk (fun q => by omega) h2 l2
        go_wp2
        go_ret
        exact ⟨false, rfl, HG.out.1, HG.out.2.1, .inr ⟨rfl, HNo.out⟩⟩
      · have j16 : ¬ (16 : Int) < ((gt L k).size : Int) := by omega
        have j16' : decide ((16 : Int) < ((gt L k).size : Int)) = false := decide_eq_false j16
        have n16' : decide (16 < (gt L k).size) = false := decide_eq_false h16
        have HPass : (h1 = true → Op.bytesLess l1.toList (gt L k).toList = true) → Hid (w.grownBy ((wr.setCell ⟨rb, 3, none⟩ (.string (gt L k))).setCell ⟨rb, 4, none⟩ (.bool true)) (some rb) ∧ ((wr.setCell ⟨rb, 3, none⟩ (.string (gt L k))).setCell ⟨rb, 4, none⟩ (.bool true)).heap.size = w.heap.size ∧ Chain hk lk (L.take (k + 1)) true (gt L k) ∧ RBx ((wr.setCell ⟨rb, 3, none⟩ (.string (gt L k))).setCell ⟨rb, 4, none⟩ (.bool true)) rb b o n c x D (gt L k) true) := by
          intro hp
          obtain ⟨q1, q2, q3, q4⟩ := HG.out
          refine ⟨grown_trans (grown_trans q1 (grown_set _ _ _ _)) (grown_set _ _ _ _), by rw [← q2]; simp [World.setCell], ?_, (q4.set 3 _).set 4 _⟩
          rw [chain_take hlk]
          exact Chain.app q3 ⟨by omega, hp, rfl, rfl⟩
        cases h1 with
        | false =>
          have HP := HPass (fun q => by cases q)
          clear HPass
          go_wp2
          go_roundw
          case rel => exact ⟨k + 1, true, gt L k, by omega, by go_num, HP.out⟩
          case measure => simp [intOf]; omega
        | true =>
          cases hls : Op.bytesLess l1.toList (gt L k).toList with
          | true =>
            have HP := HPass (fun _ => hls)
            have htot := less_total l1.toList (gt L k).toList
            rw [hls] at htot
            have ht2 : (Op.bytesLess (gt L k).toList l1.toList || (gt L k).toList == l1.toList) = false := htot
            clear HPass htot
            go_wp2
            go_roundw
            case rel => exact ⟨k + 1, true, gt L k, by omega, by go_num, HP.out⟩
            case measure => simp [intOf]; omega
          | false =>
            have HNo : Hid (∀ h2 l2, ¬ Chain hk lk L h2 l2) := fun h2 l2 => chain_stop HG.out.2.2.1 hlk (fun q => by have := q.2 rfl; rw [hls] at this; cases this) h2 l2
            have htot := less_total l1.toList (gt L k).toList
            rw [hls] at htot
            have ht2 : (Op.bytesLess (gt L k).toList l1.toList || (gt L k).toList == l1.toList) = true := htot
            clear HPass htot
            go_wp2
            go_ret
            exact ⟨false, rfl, HG.out.1, HG.out.2.1, .inr ⟨rfl, HNo.out⟩⟩
    · have e : k = m := by omega
      subst e
      have HE : Hid (L.take k = L) := by
        show L.take k = L
        rw [HM.out, List.take_length]
      go_wp2
      go_ret
      refine ⟨true, rfl, HG.out.1, HG.out.2.1, .inl ⟨rfl, h1, l1, ?_, HG.out.2.2.2⟩⟩
      have q := HG.out.2.2.1
      rw [HE.out] at q
      exact q
end Go.Proofs.YtcnollkkigiobaaGreat
