import Derived.Test.YtocmbnocdjnfpaaPlL
namespace Go.Proofs.Ytocmbnocdjnfpaa
open Go.RowKit Go.Deep
set_option linter.unusedVariables false
set_option maxRecDepth 100000

/-- The heights while node k is being measured, j of its operands seen. -/
def hAt (A : Nat → Nat) (k : Nat) (m : Nat) (i : Nat) : Int := if i < k then (hM A 100 i : Int) else if i = k then (m : Int) else 0
theorem hAt_lt {A : Nat → Nat} {k m i : Nat} (h : i < k) : hAt A k m i = (hM A 100 i : Int) := if_pos h
theorem hAt_at (A : Nat → Nat) (k m : Nat) : hAt A k m k = (m : Int) := by unfold hAt; rw [if_neg (by omega), if_pos rfl]

theorem plF_setH {I : Nat → Int} {X R : Nat → ByteArray} {AA : Nat → Option Addr} {CC : Nat → Nat} {Bd : Nat → Bool} {Lb : Nat → ByteArray} {k m m' : Nat} {w : World} {g n : Nat}
    (h : PlAt w g n (plF I X R AA CC Bd Lb (hAt (arI I) k m))) : PlAt (w.setCell ⟨g, k * 7 + 6, none⟩ (.int .i64 (m' : Int))) g n (plF I X R AA CC Bd Lb (hAt (arI I) k m')) := by
  refine h.set k 6 _ (by decide) (fun j hj => ?_) ?_
  · unfold plF hAt
    rw [if_neg hj, if_neg hj]
  · unfold plF
    simp [Plc.cells, hAt_at]

theorem mxO_le {A : Nat → Nat} : ∀ (f i j : Nat), mxO A (hM A f) i j ≤ f
  | f, i, 0 => Nat.zero_le _
  | f, i, j + 1 => by
    have h1 := mxO_le (A := A) f i j
    have h2 := hM_le (A := A) f (opf A i j)
    show max _ _ ≤ f
    omega

/-- A node's height out of its operands'. -/
theorem hM_of {A : Nat → Nat} {n : Nat} (h : StackOk A n) (ha : ∀ i, A i ≤ 2) (hn : n ≤ 100) {i : Nat} (hi : i < n) : 1 + mxO A (hM A 100) i (A i) = hM A 100 i := by
  show _ = 1 + mxO A (hM A 99) i (A i)
  rw [mxO_congr]
  intro m hm
  have := opf_lt h hi (ha i) hm
  exact hM_fuel h ha 100 99 _ (by omega) (by omega) (by omega)

theorem PlAt.frozen {w : World} {g n : Nat} {f : Nat → Plc} (h : PlAt w g n f) (i : Nat) : w.frozen? ⟨g, i, none⟩ = false := by
  obtain ⟨cur, hh, _⟩ := h
  simp [World.frozen?, hh]
theorem PlAt.drew {w : World} {g n : Nat} {f : Nat → Plc} (h : PlAt w g n f) : PlAt w.drew g n f := h
theorem grown_set {w W : World} {g : Nat} (h : w.grownBy W (some g)) (i : Nat) (v : Value) : w.grownBy (W.setCell ⟨g, i, none⟩ v) (some g) :=
  ⟨h.os, h.tape, h.output, by have := h.size; simpa [World.setCell] using this, fun k hk hne => by
    rw [← h.block k hk hne]
    exact Below.heap_setCell _ _ _ _ (fun e => hne (by rw [e]))⟩
theorem grown_drew {w W : World} {r : Option Nat} (h : w.grownBy W r) : w.grownBy W.drew r := ⟨h.os, h.tape, h.output, h.size, h.block⟩

set_option maxHeartbeats 4000000 in
theorem measure_any : MeasureOk := by
  intro g n c B I X R AA CC Bd Lb w hP hO hcap hok hn hn0
  have HP0 : Hid (PlAt w g n (plF I X R AA CC Bd Lb (fun _ => 0))) := hP
  have HO : Hid (∀ W : World, w.grownBy W (some g) → ∀ i, i < n → Rd .i64 W (AA i) (arOf (I i)) (fun j => (opf (arI I) i j : Int))) := fun W hW i hi => ((hO i hi).grownP hP hW).rd
  have HCP : Hid (∀ i, i < n → arOf (I i) ≤ CC i ∧ CC i ≤ 9223372036854775807) := hcap
  have HOK : Hid (StackOk (arI I) n) := hok
  clear hP hO hcap hok
  go_enter Try.func82, Try.ntmps82
  go_wp2
  go_loopw [8] (fun i wr => ∃ k : Nat, k ≤ n ∧ i = .int .i64 k ∧ PlAt wr g n (plF I X R AA CC Bd Lb (hAt (arI I) k 0)) ∧ w.grownBy wr (some g)) (fun i _ => n - (intOf i).toNat)
  case atStart =>
    refine ⟨0, Nat.zero_le _, rfl, HP0.out.congr (fun i hi => ?_), ⟨rfl, rfl, rfl, Nat.le_refl _, fun _ _ _ => rfl⟩⟩
    unfold plF hAt
    rw [if_neg (by omega)]
    by_cases e : i = 0
    · rw [if_pos e]; rfl
    · rw [if_neg e]
  case round =>
    obtain ⟨k, hk, rfl, hp, hg⟩ := hrel
    by_cases hlt : k < n
    · have ik : (k : Int) < (n : Int) := by omega
      have ik0 : (0 : Int) ≤ (k : Int) := by omega
      obtain ⟨c0, c1, c2, c3, c4, c5, c6⟩ := hp.seven hlt
      have HP : Hid (PlAt wr g n (plF I X R AA CC Bd Lb (hAt (arI I) k 0))) := hp
      have HG : Hid (w.grownBy wr (some g)) := hg
      have e5 : wr.cell? ⟨g, k * 7 + 5, none⟩ = some (.slice (AA k) (arOf (I k)) (CC k)) := c5
      have hle := arOf_le (I k)
      clear hp hg c0 c1 c2 c3 c4 c5 c6
      go_wp2
      go_loopw [19] (fun j ws => ∃ q : Nat, q ≤ arOf (I k) ∧ j = .int .i64 q ∧ PlAt ws g n (plF I X R AA CC Bd Lb (hAt (arI I) k (mxO (arI I) (hM (arI I) 100) k q))) ∧ w.grownBy ws (some g)) (fun j _ => arOf (I k) - (intOf j).toNat)
      case atStart => exact ⟨0, Nat.zero_le _, rfl, HP.out, HG.out⟩
      case round =>
        obtain ⟨q, hq, rfl, hp, hg⟩ := hrel
        by_cases hql : q < arOf (I k)
        · have iq : (q : Int) < ((arOf (I k) : Nat) : Int) := by omega
          have iq0 : (0 : Int) ≤ (q : Int) := by omega
          have hxl := opf_lt HOK.out hlt (arI_le I k) (j := q) hql
          obtain ⟨b, o, hA, hcx⟩ : ∃ b o, AA k = some ⟨b, o, none⟩ ∧ wr.cell? ⟨b, o + q, none⟩ = some (.int .i64 ((opf (arI I) k q : Nat) : Int)) := by
            rcases HO.out wr hg k hlt with h | ⟨b, o, e, hc⟩
            · omega
            · exact ⟨b, o, e, hc q hql⟩
          obtain ⟨_, _, _, _, _, _, d6⟩ := hp.seven hlt
          obtain ⟨_, _, _, _, _, _, x6⟩ := hp.seven (i := opf (arI I) k q) (by omega)
          have y6 : wr.cell? ⟨g, k * 7 + 6, none⟩ = some (.int .i64 ((mxO (arI I) (hM (arI I) 100) k q : Nat) : Int)) := by rw [d6]; show some (Value.int .i64 (hAt _ _ _ _)) = _; rw [hAt_at]
          have z6 : wr.cell? ⟨g, opf (arI I) k q * 7 + 6, none⟩ = some (.int .i64 ((hM (arI I) 100 (opf (arI I) k q) : Nat) : Int)) := by rw [x6]; show some (Value.int .i64 (hAt _ _ _ _)) = _; rw [hAt_lt hxl]
          have HP2 : Hid (PlAt wr g n (plF I X R AA CC Bd Lb (hAt (arI I) k (mxO (arI I) (hM (arI I) 100) k q)))) := hp
          have HG2 : Hid (w.grownBy wr (some g)) := hg
          have HMX : Hid (mxO (arI I) (hM (arI I) 100) k (q + 1) = max (mxO (arI I) (hM (arI I) 100) k q) (hM (arI I) 100 (opf (arI I) k q))) := rfl
          clear hp hg d6 x6
          rw [hA]
          generalize opf (arI I) k q = x at hxl hcx z6 HMX
          generalize mxO (arI I) (hM (arI I) 100) k q = M0 at y6 HP2 HMX
          generalize hM (arI I) 100 x = M1 at z6 HMX
          have ix : (x : Int) < (n : Int) := by omega
          have ix0 : (0 : Int) ≤ (x : Int) := by omega
          obtain ⟨M2, hM2, hmx⟩ : ∃ M2 : Nat, max M0 M1 = M2 ∧ (if M0 < M1 then (M1 : Int) else (M0 : Int)) = (M2 : Int) := ⟨max M0 M1, rfl, by split <;> omega⟩
          rw [hM2] at HMX
          clear hM2
          have fz := HP2.out.frozen (k * 7 + 6)
          have HPN : Hid (PlAt (wr.drew.setCell ⟨g, k * 7 + 6, none⟩ (.int .i64 (M2 : Int))) g n (plF I X R AA CC Bd Lb (hAt (arI I) k (mxO (arI I) (hM (arI I) 100) k (q + 1)))) ∧ w.grownBy (wr.drew.setCell ⟨g, k * 7 + 6, none⟩ (.int .i64 (M2 : Int))) (some g)) := ⟨by rw [HMX.out]; exact plF_setH HP2.out.drew, grown_set (grown_drew HG2.out) _ _⟩
          go_upto_region 7 with fail
          go_region
          go_wp2
          go_roundw
          case rel => exact ⟨q + 1, by omega, by go_num, HPN.out⟩
          case measure => simp [intOf]; omega
        · have e : q = arOf (I k) := by omega
          have hml := mxO_le (A := arI I) 100 k q
          have HP2 : Hid (PlAt wr g n (plF I X R AA CC Bd Lb (hAt (arI I) k (mxO (arI I) (hM (arI I) 100) k q)))) := hp
          have HG2 : Hid (w.grownBy wr (some g)) := hg
          have HMX : Hid (1 + mxO (arI I) (hM (arI I) 100) k q = hM (arI I) 100 k) := by
            rw [e]
            exact hM_of HOK.out (arI_le I) hn hlt
          obtain ⟨_, _, _, _, _, _, d6⟩ := hp.seven hlt
          have y6 : wr.cell? ⟨g, k * 7 + 6, none⟩ = some (.int .i64 ((mxO (arI I) (hM (arI I) 100) k q : Nat) : Int)) := by rw [d6]; show some (Value.int .i64 (hAt _ _ _ _)) = _; rw [hAt_at]
          have fz := HP2.out.frozen (k * 7 + 6)
          clear hp hg d6
          generalize mxO (arI I) (hM (arI I) 100) k q = M0 at y6 HP2 HMX hml
          subst e
          have wM : IntKind.i64.wrap ((M0 : Int) + 1) = (M0 : Int) + 1 := by rw [IntKind.wrap_i64]; omega
          have HPN : Hid (PlAt (wr.setCell ⟨g, k * 7 + 6, none⟩ (.int .i64 ((M0 : Int) + 1))) g n (plF I X R AA CC Bd Lb (hAt (arI I) (k + 1) 0)) ∧ w.grownBy (wr.setCell ⟨g, k * 7 + 6, none⟩ (.int .i64 ((M0 : Int) + 1))) (some g)) := by
            refine ⟨?_, grown_set HG2.out _ _⟩
            have h1 := plF_setH (m' := 1 + M0) HP2.out
            rw [show (((1 + M0 : Nat) : Int)) = (M0 : Int) + 1 by omega] at h1
            refine h1.congr (fun i hi => ?_)
            unfold plF hAt
            by_cases e1 : i < k
            · rw [if_pos e1, if_pos (by omega)]
            · by_cases e2 : i = k
              · subst e2
                rw [if_neg e1, if_pos rfl, if_pos (by omega), HMX.out]
              · rw [if_neg e1, if_neg e2, if_neg (by omega)]
                by_cases e3 : i = k + 1
                · rw [if_pos e3]; rfl
                · rw [if_neg e3]
          go_wp2
          go_roundw
          case rel => exact ⟨k + 1, by omega, by go_num, HPN.out⟩
          case measure => simp [intOf]; omega
    · have e : k = n := by omega
      subst e
      have HPN : Hid (PlAt wr g k (plF I X R AA CC Bd Lb (fun i => (hM (arI I) 100 i : Int))) ∧ w.grownBy wr (some g)) := by
        refine ⟨hp.congr (fun i hi => ?_), hg⟩
        unfold plF hAt
        rw [if_pos hi]
      clear hp hg
      go_wp2
      go_end0
      exact ⟨rfl, HPN.out⟩
end Go.Proofs.Ytocmbnocdjnfpaa
