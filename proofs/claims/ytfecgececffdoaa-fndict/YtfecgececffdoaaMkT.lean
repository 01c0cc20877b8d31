import Derived.Test.YtfecgececffdoaaMkTx
import Derived.Test.YtfecgececffdoaaTmAns
import Derived.Test.YtfecgececffdoaaEqT
namespace Go.Proofs.Ytfecgececffdoaa
open Go.RowKit Go.Deep
set_option linter.unusedVariables false
set_option maxRecDepth 100000

theorem markText_int (x : Int) (k : Nat) (h : x = (k : Int)) (w : World) (hk : 1 ≤ k) (hk2 : k ≤ 1073741824) :
    Calls Try.prog 53 #[.int .i64 x] w fun e w' => e = .returned (.string (mkT k)) ∧ Below w.heap.size w w' := by
  subst h
  exact markText_any k w hk hk2

def mI (i : Nat) : Int := 1 + 3 * (i : Int)
def mX (i : Nat) : ByteArray := mkT (2 + 3 * i)
def mR (i : Nat) : Int := 3 + 3 * (i : Int)
/-- The first j marked. -/
def mix {T : Type} (j : Nat) (f g : Nat → T) (i : Nat) : T := if i < j then f i else g i
theorem mix_lt {T : Type} {j i : Nat} {f g : Nat → T} (h : i < j) : mix j f g i = f i := if_pos h
theorem mix_ge {T : Type} {j i : Nat} {f g : Nat → T} (h : ¬ i < j) : mix j f g i = g i := if_neg h

/-- Of what was there only the row that is marked has turned. -/
def MkOnly (a : Option Addr) (n : Nat) (w w' : World) : Prop := ∃ row, w.grownBy w' row ∧ ∀ g, row = some g → n ≠ 0 ∧ a = some ⟨g, 0, none⟩

theorem grown_trans {w w1 w2 : World} {row : Option Nat} (h : w.grownBy w1 row) (k : w1.grownBy w2 row) : w.grownBy w2 row :=
  ⟨k.os.trans h.os, k.tape.trans h.tape, k.output.trans h.output, Nat.le_trans h.size k.size, fun b hb hne => (k.block b (Nat.lt_of_lt_of_le hb h.size) hne).trans (h.block b hb hne)⟩
theorem grown_below {w w1 : World} (h : Below w.heap.size w w1) (row : Option Nat) : w.grownBy w1 row := ⟨h.os, h.tape, h.output, h.size, fun b hb _ => h.block b hb⟩
theorem grown_set {w : World} {g i : Nat} {v : Value} : w.grownBy (w.setCell ⟨g, i, none⟩ v) (some g) :=
  ⟨rfl, rfl, rfl, by simp, fun b hb hne => Below.heap_setCell _ _ _ _ (fun e => hne (by rw [e]))⟩

theorem mark_row {w w2 : World} {g n : Nat} {j : Nat} {I : Nat → Int} {X : Nat → ByteArray} {R : Nat → Int} (hj : j < n) (h : rowIn w g 51 (n * 3) (termCell (mix j mI I) (mix j mX X) (mix j mR R)))
    (hb : (w.setCell ⟨g, j * 3, none⟩ (.int .i64 (mI j))).heap.size = (w.setCell ⟨g, j * 3, none⟩ (.int .i64 (mI j))).heap.size) (hb2 : Below (w.setCell ⟨g, j * 3, none⟩ (.int .i64 (mI j))).heap.size (w.setCell ⟨g, j * 3, none⟩ (.int .i64 (mI j))) w2) :
    rowIn ((w2.setCell ⟨g, j * 3 + 1, none⟩ (.string (mX j))).setCell ⟨g, j * 3 + 2, none⟩ (.int .i64 (mR j))) g 51 (n * 3) (termCell (mix (j + 1) mI I) (mix (j + 1) mX X) (mix (j + 1) mR R)) := by
  have h1 := h.set (j * 3) (.int .i64 (mI j))
  have h2 := (h1.of_block (hb2.block g h1.lt)).set (j * 3 + 1) (.string (mX j))
  refine (h2.set (j * 3 + 2) (.int .i64 (mR j))).congr (fun c hc => ?_)
  obtain ⟨q, hq⟩ : ∃ q, c = q * 3 ∨ c = q * 3 + 1 ∨ c = q * 3 + 2 := ⟨c / 3, by omega⟩
  rcases hq with rfl | rfl | rfl
  · rw [if_neg (by omega), if_neg (by omega), termCell_0, termCell_0]
    by_cases e : q = j
    · subst e; rw [if_pos rfl, mix_lt (by omega)]
    · rw [if_neg (by omega)]
      by_cases hl : q < j
      · rw [mix_lt hl, mix_lt (by omega)]
      · rw [mix_ge hl, mix_ge (by omega)]
  · rw [if_neg (by omega)]
    by_cases e : q = j
    · subst e; rw [if_pos rfl, termCell_1, mix_lt (by omega)]
    · rw [if_neg (by omega), if_neg (by omega), termCell_1, termCell_1]
      by_cases hl : q < j
      · rw [mix_lt hl, mix_lt (by omega)]
      · rw [mix_ge hl, mix_ge (by omega)]
  · by_cases e : q = j
    · subst e; rw [if_pos rfl, termCell_2, mix_lt (by omega)]
    · rw [if_neg (by omega), if_neg (by omega), if_neg (by omega), termCell_2, termCell_2]
      by_cases hl : q < j
      · rw [mix_lt hl, mix_lt (by omega)]
      · rw [mix_ge hl, mix_ge (by omega)]

set_option maxHeartbeats 2000000 in
theorem markTermS_any (B : Nat) (a : Option Addr) (n c : Nat) (I : Nat → Int) (X : Nat → ByteArray) (R : Nat → Int) (w : World) (h : OwnT w B a n I X R) (hn : n ≤ 1048577) :
    Calls Try.prog 35 #[.slice a n c, .int .i64 1] w fun e w' => e = .returned (.int .i64 (1 + 3 * (n : Int))) ∧ OwnT w' B a n mI mX mR ∧ MkOnly a n w w' := by
  by_cases hn0 : n = 0
  · subst hn0
    go_enter Try.func35, Try.ntmps35
    go_wp2
    go_rounds 1
    go_ret
    exact ⟨rfl, Or.inl rfl, none, ⟨rfl, rfl, rfl, Nat.le_refl _, fun _ _ _ => rfl⟩, fun g e => by cases e⟩
  rcases h with h | ⟨g, rfl, hg, hr⟩
  · exact absurd h hn0
  have HR : Hid (rowIn w g 51 (n * 3) (termCell I X R)) := hr
  clear hr
  go_enter Try.func35, Try.ntmps35
  go_wp2
  go_loopw [1, 5] (fun q i wr => ∃ (j : Nat) (x : Int), j ≤ n ∧ i = .int .i64 j ∧ q = .int .i64 x ∧ x = 1 + 3 * (j : Int) ∧ rowIn wr g 51 (n * 3) (termCell (mix j mI I) (mix j mX X) (mix j mR R)) ∧ w.grownBy wr (some g)) (fun _ i _ => n - (intOf i).toNat)
  case atStart => exact ⟨0, 1, Nat.zero_le _, rfl, rfl, by omega, HR.out.congr (fun c _ => termCell_congr ⟨rfl, rfl, rfl⟩), ⟨rfl, rfl, rfl, Nat.le_refl _, fun _ _ _ => rfl⟩⟩
  case round =>
    obtain ⟨j, x, hj, rfl, rfl, hx, hrow, hgr⟩ := hrel
    have HX : Hid (x = 1 + 3 * (j : Int)) := hx
    have HW : Hid (rowIn wr g 51 (n * 3) (termCell (mix j mI I) (mix j mX X) (mix j mR R)) ∧ w.grownBy wr (some g)) := ⟨hrow, hgr⟩
    have hgl := hrow.lt
    have hfz := hrow.frozen
    have hx0 : 0 ≤ x := by omega
    have hx1 : x ≤ 3145732 := by omega
    by_cases hlt : j < n
    · have r0 := hrow.cell (i := j * 3) (by omega)
      rw [termCell_0] at r0
      obtain ⟨W1, hW1⟩ : ∃ W1, W1 = wr.setCell ⟨g, j * 3, none⟩ (.int .i64 x) := ⟨_, rfl⟩
      have HS1 : Hid (W1 = wr.setCell ⟨g, j * 3, none⟩ (.int .i64 (mI j))) := by show _ = _; rw [hW1, hx]; rfl
      have HQ : Hid (∀ w2 : World, Below W1.heap.size W1 w2 → (w2.cell? ⟨g, j * 3 + 1, none⟩ = some (.string (mix j mX X j)) ∧ w2.cell? ⟨g, j * 3 + 2, none⟩ = some (.int .i64 (mix j mR R j)) ∧ (∀ o, w2.frozen? ⟨g, o, none⟩ = false) ∧ g < w2.heap.size)) := fun w2 hb => by
        have q := (hrow.set (j * 3) (.int .i64 (mI j)))
        rw [← HS1.out] at q
        have q2 := q.of_block (hb.block g q.lt)
        have c1 := q2.cell (i := j * 3 + 1) (by omega)
        have c2 := q2.cell (i := j * 3 + 2) (by omega)
        rw [if_neg (by omega), termCell_1] at c1
        rw [if_neg (by omega), termCell_2] at c2
        exact ⟨c1, c2, q2.frozen, q2.lt⟩
      clear hx hrow hgr
      go_upto_region 6 with fail
      rw [← hW1]
      clear hW1 r0 hfz hgl
      go_wp2_with fail
      refine (markText_int (x + 1) (2 + 3 * j) (by rw [HX.out]; omega) W1 (by omega) (by omega)).mono ?_
      rintro e w2 ⟨rfl, hb2⟩
      obtain ⟨c1, c2, cf, cl⟩ := HQ.out w2 hb2
      have HZ : Hid (rowIn ((w2.setCell ⟨g, j * 3 + 1, none⟩ (.string (mkT (2 + 3 * j)))).setCell ⟨g, j * 3 + 2, none⟩ (.int .i64 (x + 1 + 1))) g 51 (n * 3) (termCell (mix (j + 1) mI I) (mix (j + 1) mX X) (mix (j + 1) mR R)) ∧ w.grownBy ((w2.setCell ⟨g, j * 3 + 1, none⟩ (.string (mkT (2 + 3 * j)))).setCell ⟨g, j * 3 + 2, none⟩ (.int .i64 (x + 1 + 1))) (some g)) := by
        have e3 : x + 1 + 1 = mR j := by rw [HX.out]; unfold mR; omega
        rw [e3]
        have hb3 := hb2
        rw [HS1.out] at hb3
        refine ⟨mark_row hlt HW.out.1 rfl hb3, ?_⟩
        exact grown_trans (grown_trans (grown_trans (grown_trans HW.out.2 (grown_set (i := j * 3) (v := .int .i64 (mI j)))) (grown_below hb3 _)) grown_set) grown_set
      clear hb2 HQ HS1
      go_wp2
      go_roundw
      case rel => exact ⟨j + 1, _, by omega, by go_num, rfl, by rw [HX.out]; omega, HZ.out⟩
      case measure => simp [intOf]; omega
    · obtain rfl : j = n := by omega
      clear hx hrow hgr hfz hgl
      go_wp2
      go_ret
      refine ⟨by rw [HX.out]; rfl, Or.inr ⟨g, rfl, hg, HW.out.1.congr (fun c hc => termCell_congr ?_)⟩, some g, HW.out.2, fun g' e => ⟨hn0, by injection e with e; rw [e]⟩⟩
      exact ⟨mix_lt (by omega), mix_lt (by omega), mix_lt (by omega)⟩

set_option maxHeartbeats 2000000 in
theorem heldTermS_any (B : Nat) (a : Option Addr) (n c : Nat) (w : World) (h : OwnT w B a n mI mX mR) (hn : n ≤ 1048577) :
    Calls Try.prog 54 #[.slice a n c, .int .i64 1] w fun e w' => e = .returned (.int .i64 (1 + 3 * (n : Int))) ∧ Below w.heap.size w w' := by
  by_cases hn0 : n = 0
  · subst hn0
    go_enter Try.func54, Try.ntmps54
    go_wp2
    go_rounds 1
    go_ret
    exact ⟨rfl, Below.refl _ _⟩
  rcases h with h | ⟨g, rfl, hg, hr⟩
  · exact absurd h hn0
  have HR : Hid (rowIn w g 51 (n * 3) (termCell mI mX mR)) := hr
  clear hr
  go_enter Try.func54, Try.ntmps54
  go_wp2
  go_loopw [1, 5] (fun q i wr => ∃ (j : Nat) (x : Int), j ≤ n ∧ i = .int .i64 j ∧ q = .int .i64 x ∧ x = 1 + 3 * (j : Int) ∧ Below w.heap.size w wr) (fun _ i _ => n - (intOf i).toNat)
  case atStart => exact ⟨0, 1, Nat.zero_le _, rfl, rfl, by omega, Below.refl _ _⟩
  case round =>
    obtain ⟨j, x, hj, rfl, rfl, hx, hbel⟩ := hrel
    have HX : Hid (x = 1 + 3 * (j : Int)) := hx
    have HB : Hid (Below w.heap.size w wr) := hbel
    have hx0 : 0 ≤ x := by omega
    have hx1 : x ≤ 3145732 := by omega
    by_cases hlt : j < n
    · have hrow := HR.out.of_block (hbel.block g HR.out.lt)
      have r0 := hrow.cell (i := j * 3) (by omega)
      have r1 := hrow.cell (i := j * 3 + 1) (by omega)
      rw [termCell_0] at r0
      rw [termCell_1] at r1
      have e0 : mI j = x := by rw [hx]; rfl
      rw [e0] at r0
      have HQ : Hid (∀ w2 : World, Below wr.drew.heap.size wr.drew w2 → (w2.cell? ⟨g, j * 3 + 1, none⟩ = some (.string (mX j)) ∧ w2.cell? ⟨g, j * 3 + 2, none⟩ = some (.int .i64 (x + 1 + 1)))) := fun w2 hb => by
        have q2 := hrow.of_block (w' := w2) (hb.block g hrow.lt)
        have c1 := q2.cell (i := j * 3 + 1) (by omega)
        have c2 := q2.cell (i := j * 3 + 2) (by omega)
        rw [termCell_1] at c1
        rw [termCell_2] at c2
        have e3 : mR j = x + 1 + 1 := by rw [hx]; unfold mR; omega
        rw [e3] at c2
        exact ⟨c1, c2⟩
      have HMT : Hid (Calls Try.prog 53 #[.int .i64 (x + 1)] wr.drew fun e w' => e = .returned (.string (mX j)) ∧ Below wr.drew.heap.size wr.drew w') := markText_int (x + 1) (2 + 3 * j) (by rw [hx]; omega) wr.drew (by omega) (by omega)
      have hbq : ((mX j).toList == (mX j).toList) = true := by simp
      have hbx : (x != x) = false := by simp
      have hbx2 : (x + 1 + 1 != x + 1 + 1) = false := by simp
      clear hx hrow hbel e0
      go_upto_region 7 with fail
      go_region_held3 (fun w' => w'.cell? ⟨g, j * 3 + 1, none⟩ = some (.string (mX j))) (go_keep)
        (first
        | (go_at_call 53; refine HMT.out.mono ?_; rintro e w2 ⟨rfl, hb2⟩; obtain ⟨c1, c2⟩ := HQ.out w2 hb2))
      have HZ : Hid (Below w.heap.size w w2) := HB.out.drew.trans (hb2.mono HB.out.size)
      clear hb2 HQ HMT r0 r1
      go_wp2
      go_roundw
      case rel => exact ⟨j + 1, _, by omega, by go_num, rfl, by rw [HX.out]; omega, HZ.out⟩
      case measure => simp [intOf]; omega
    · obtain rfl : j = n := by omega
      clear hx hbel
      go_wp2
      go_ret
      exact ⟨by rw [HX.out]; rfl, HB.out⟩
end Go.Proofs.Ytfecgececffdoaa
