import Derived.Test.YtocmbnocdjnfpaaRows
import Derived.Test.YtocmbnocdjnfpaaOwn
import Derived.WalkKit
import Derived.Handy
import Derived.Laws.BytesArg
import Derived.Test.YtocmbnocdjnfpaaPnT
import Derived.Deep.CutBlock
import Derived.Test.YtocmbnocdjnfpaaPpT
import Derived.Test.YtocmbnocdjnfpaaPpA
import Derived.Test.YtocmbnocdjnfpaaEqByteS
import Derived.Test.YtocmbnocdjnfpaaVpLaw
namespace Go.Proofs.Ytocmbnocdjnfpaa
open Go.RowKit Go.Deep
set_option linter.unusedVariables false
set_option maxRecDepth 100000

/-- The digits of a number, in front of a text. -/
def dgF : Nat → Nat → ByteArray → ByteArray
  | 0, _, x => x
  | f + 1, k, x => if k = 0 then x else dgF f (k / 10) (strOfNums [48 + (k : Int) % 10] ++ x)

theorem dgF_zero (f : Nat) (x : ByteArray) : dgF f 0 x = x := by cases f <;> simp [dgF]
theorem dgF_step {f k : Nat} (x : ByteArray) (hk : 0 < k) (hf : k ≤ f) : ∃ f', f = f' + 1 ∧ k / 10 ≤ f' ∧ dgF f k x = dgF f' (k / 10) (strOfNums [48 + (k : Int) % 10] ++ x) := by
  cases f with
  | zero => omega
  | succ f => exact ⟨f, rfl, by omega, by rw [dgF, if_neg (by omega)]⟩

/-- The text that marks with number k. -/
def mkT (k : Nat) : ByteArray := ByteArray.mk #[109] ++ dgF k k { data := #[] }

theorem run_conv1 (w : World) (d : Int) : (convert 33 9 (.slice (some ⟨w.heap.size, 0, none⟩) 1 1)).run Try.prog (w.alloc (.cells #[.int .u8 d] 5)) = .ok (.string (strOfNums [d])) (w.alloc (.cells #[.int .u8 d] 5)) :=
  run_convert_bytes_arg (w.alloc (.cells #[.int .u8 d] 5)) 33 5 (by kernel_rfl) (by kernel_rfl) w.heap.size 0 1 1 [d] rfl (fun i hi => by
    obtain rfl : i = 0 := by omega
    simp) 9 (by kernel_rfl)

set_option maxHeartbeats 2000000 in
theorem markText_any (k : Nat) (w : World) (hk : 1 ≤ k) (hk2 : k ≤ 1073741824) :
    Calls Try.prog 69 #[.int .i64 k] w fun e w' => e = .returned (.string (mkT k)) ∧ Below w.heap.size w w' := by
  have HM : Hid (mkT k = ByteArray.mk #[109] ++ dgF k k { data := #[] }) := rfl
  generalize hT : mkT k = T at *
  clear hT
  generalize hD : dgF k k { data := #[] } = D at *
  have HD : Hid (dgF k k { data := #[] } = D) := hD
  clear hD
  have hcv := run_conv1
  go_enter Try.func69, Try.ntmps69
  go_wp2
  go_loopw [0, 3] (fun q s wr => ∃ (j f : Nat) (x : ByteArray), x.size + j ≤ k ∧ j ≤ f ∧ q = .int .i64 j ∧ s = .string x ∧ dgF f j x = D ∧ Below w.heap.size w wr) (fun q _ _ => (intOf q).toNat)
  case atStart => exact ⟨k, k, _, by simp [ByteArray.size], Nat.le_refl _, rfl, rfl, HD.out, Below.refl _ _⟩
  case round =>
    obtain ⟨j, f, x, hj, hf, rfl, rfl, hd, hb⟩ := hrel
    have HB : Hid (Below w.heap.size w wr) := hb
    clear hb
    by_cases hlt : 0 < j
    · obtain ⟨f', rfl, hf', e⟩ := dgF_step x hlt hf
      have HQ : Hid (dgF f' (j / 10) (strOfNums [48 + (j : Int) % 10] ++ x) = D) := e.symm.trans hd
      clear hd e
      have hs1 : ¬ 9223372036854775807 < (strOfNums [48 + (j : Int) % 10]).size + x.size := by
        have : (strOfNums [48 + (j : Int) % 10]).size = 1 := rfl
        omega
      have HS : Hid ((strOfNums [48 + (j : Int) % 10] ++ x).size = x.size + 1) := by
        show _ = _
        rw [ByteArray.size_append]
        have : (strOfNums [48 + (j : Int) % 10]).size = 1 := rfl
        omega
      have HE : Hid (((j / 10 : Nat) : Int) = (j : Int) / 10) := by show _ = _; omega
      go_wp2
      go_roundw
      case rel => exact ⟨j / 10, f', _, by rw [HS.out]; omega, hf', by simp, rfl, HQ.out, HB.out.alloc HB.out.size _⟩
      case measure => simp [intOf]; omega
    · obtain rfl : j = 0 := by omega
      have HQ : Hid (x = D) := by rw [← hd, dgF_zero]; rfl
      have hs1 : ¬ 9223372036854775807 < 1 + x.size := by omega
      clear hd
      go_wp2
      go_ret
      exact ⟨by rw [HM.out, HQ.out]; rfl, HB.out⟩
end Go.Proofs.Ytocmbnocdjnfpaa

namespace Go.Proofs.Ytocmbnocdjnfpaa
open Go.RowKit Go.Deep
set_option linter.unusedVariables false
set_option maxRecDepth 100000

theorem markText_i (x : Int) (w : World) (hk : 1 ≤ x) (hk2 : x ≤ 1073741824) :
    Calls Try.prog 69 #[.int .i64 x] w fun e w' => ∃ y, e = .returned (.string y) ∧ Below w.heap.size w w' := by
  obtain ⟨k, rfl⟩ : ∃ k : Nat, x = k := ⟨x.toNat, by omega⟩
  exact (markText_any k w (by omega) (by omega)).mono (fun e w' h => ⟨_, h⟩)
theorem grownN_trans {w w1 w2 : World} {row : Option Nat} (h : w.grownBy w1 row) (k : w1.grownBy w2 row) : w.grownBy w2 row :=
  ⟨k.os.trans h.os, k.tape.trans h.tape, k.output.trans h.output, Nat.le_trans h.size k.size, fun b hb hne => (k.block b (Nat.lt_of_lt_of_le hb h.size) hne).trans (h.block b hb hne)⟩
theorem grownN_below {w w1 : World} (h : Below w.heap.size w w1) (row : Option Nat) : w.grownBy w1 row := ⟨h.os, h.tape, h.output, h.size, fun b hb _ => h.block b hb⟩
theorem grownN_set {w : World} {g i : Nat} {v : Value} : w.grownBy (w.setCell ⟨g, i, none⟩ v) (some g) :=
  ⟨rfl, rfl, rfl, by simp, fun b hb hne => Below.heap_setCell _ _ _ _ (fun e => hne (by rw [e]))⟩

/-- A row of nodes, whatever they are. -/
def NRow (w : World) (g n : Nat) : Prop := ∃ I X R, rowIn w g 61 (n * 3) (pnCell I X R)
theorem NRow.cells {w : World} {g n j : Nat} (h : NRow w g n) (hj : j < n) : ∃ (i : Int) (x r : ByteArray), w.cell? ⟨g, j * 3, none⟩ = some (.int .i64 i) ∧ w.cell? ⟨g, j * 3 + 1, none⟩ = some (.string x) ∧ w.cell? ⟨g, j * 3 + 2, none⟩ = some (.string r) ∧ (∀ o, w.frozen? ⟨g, o, none⟩ = false) ∧ g < w.heap.size := by
  obtain ⟨I, X, R, h⟩ := h
  refine ⟨I j, X j, R j, ?_, ?_, ?_, h.frozen, h.lt⟩
  · have := h.cell (i := j * 3) (by omega); rwa [pnCell_0] at this
  · have := h.cell (i := j * 3 + 1) (by omega); rwa [pnCell_1] at this
  · have := h.cell (i := j * 3 + 2) (by omega); rwa [pnCell_2] at this
theorem NRow.below {w w' : World} {g n : Nat} (h : NRow w g n) (hb : Below w.heap.size w w') : NRow w' g n := by
  obtain ⟨I, X, R, h⟩ := h
  exact ⟨I, X, R, h.of_block (hb.block g h.lt)⟩
theorem NRow.set0 {w : World} {g n j : Nat} (h : NRow w g n) (v : Int) : NRow (w.setCell ⟨g, j * 3, none⟩ (.int .i64 v)) g n := by
  obtain ⟨I, X, R, h⟩ := h
  refine ⟨fun i => if i = j then v else I i, X, R, (h.set (j * 3) _).congr (fun c hc => ?_)⟩
  obtain ⟨q, hq⟩ : ∃ q, c = q * 3 ∨ c = q * 3 + 1 ∨ c = q * 3 + 2 := ⟨c / 3, by omega⟩
  rcases hq with rfl | rfl | rfl
  · rw [pnCell_0, pnCell_0]
    by_cases e : q = j
    · subst e; rw [if_pos rfl, if_pos rfl]
    · rw [if_neg (by omega), if_neg e]
  · rw [if_neg (by omega), pnCell_1, pnCell_1]
  · rw [if_neg (by omega), pnCell_2, pnCell_2]
theorem NRow.set1 {w : World} {g n j : Nat} (h : NRow w g n) (v : ByteArray) : NRow (w.setCell ⟨g, j * 3 + 1, none⟩ (.string v)) g n := by
  obtain ⟨I, X, R, h⟩ := h
  refine ⟨I, fun i => if i = j then v else X i, R, (h.set (j * 3 + 1) _).congr (fun c hc => ?_)⟩
  obtain ⟨q, hq⟩ : ∃ q, c = q * 3 ∨ c = q * 3 + 1 ∨ c = q * 3 + 2 := ⟨c / 3, by omega⟩
  rcases hq with rfl | rfl | rfl
  · rw [if_neg (by omega), pnCell_0, pnCell_0]
  · rw [pnCell_1, pnCell_1]
    by_cases e : q = j
    · subst e; rw [if_pos rfl, if_pos rfl]
    · rw [if_neg (by omega), if_neg e]
  · rw [if_neg (by omega), pnCell_2, pnCell_2]
theorem NRow.set2 {w : World} {g n j : Nat} (h : NRow w g n) (v : ByteArray) : NRow (w.setCell ⟨g, j * 3 + 2, none⟩ (.string v)) g n := by
  obtain ⟨I, X, R, h⟩ := h
  refine ⟨I, X, fun i => if i = j then v else R i, (h.set (j * 3 + 2) _).congr (fun c hc => ?_)⟩
  obtain ⟨q, hq⟩ : ∃ q, c = q * 3 ∨ c = q * 3 + 1 ∨ c = q * 3 + 2 := ⟨c / 3, by omega⟩
  rcases hq with rfl | rfl | rfl
  · rw [if_neg (by omega), pnCell_0, pnCell_0]
  · rw [if_neg (by omega), pnCell_1, pnCell_1]
  · rw [pnCell_2, pnCell_2]
    by_cases e : q = j
    · subst e; rw [if_pos rfl, if_pos rfl]
    · rw [if_neg (by omega), if_neg e]

set_option maxHeartbeats 2000000 in
theorem markPNodeS_any (g n c : Nat) (w : World) (h : NRow w g n) (hn : n ≤ 1048577) :
    Calls Try.prog 51 #[.slice (some ⟨g, 0, none⟩) n c, .int .i64 1] w fun e w' => e = .returned (.int .i64 (1 + 3 * (n : Int))) ∧ w.grownBy w' (some g) := by
  have HR : Hid (NRow w g n) := h
  clear h
  go_enter Try.func51, Try.ntmps51
  go_wp2
  go_loopw [1, 5] (fun q i wr => ∃ (j : Nat) (x : Int), j ≤ n ∧ i = .int .i64 j ∧ q = .int .i64 x ∧ x = 1 + 3 * (j : Int) ∧ NRow wr g n ∧ w.grownBy wr (some g)) (fun _ i _ => n - (intOf i).toNat)
  case atStart => exact ⟨0, 1, Nat.zero_le _, rfl, rfl, by omega, HR.out, ⟨rfl, rfl, rfl, Nat.le_refl _, fun _ _ _ => rfl⟩⟩
  case round =>
    obtain ⟨j, x, hj, rfl, rfl, hx, hrow, hgr⟩ := hrel
    have HX : Hid (x = 1 + 3 * (j : Int)) := hx
    have HW : Hid (NRow wr g n ∧ w.grownBy wr (some g)) := ⟨hrow, hgr⟩
    have hx0 : 0 ≤ x := by omega
    have hx1 : x ≤ 3145732 := by omega
    clear hx hrow hgr
    by_cases hlt : j < n
    · obtain ⟨i0, x0, r0, c0, c1, c2, hfz, hgl⟩ := HW.out.1.cells hlt
      obtain ⟨W1, hW1⟩ : ∃ W1, W1 = wr.setCell ⟨g, j * 3, none⟩ (.int .i64 x) := ⟨_, rfl⟩
      have HW1 : Hid (NRow W1 g n ∧ w.grownBy W1 (some g)) := by
        rw [hW1]
        exact ⟨HW.out.1.set0 x, grownN_trans HW.out.2 grownN_set⟩
      clear c1 c2
      go_upto_region 6 with fail
      rw [← hW1]
      clear hW1 c0 hfz hgl HW i0 x0 r0
      go_wp2_with fail
      refine (markText_i (x + 1) W1 (by omega) (by omega)).mono ?_
      rintro e w2 ⟨y2, rfl, hb2⟩
      have HW2 : Hid (NRow w2 g n ∧ w.grownBy w2 (some g)) := ⟨HW1.out.1.below hb2, grownN_trans HW1.out.2 (grownN_below hb2 _)⟩
      clear hb2 HW1
      obtain ⟨i0, x0, r0, c0, c1, c2, hfz, hgl⟩ := HW2.out.1.cells hlt
      obtain ⟨W3, hW3⟩ : ∃ W3, W3 = w2.setCell ⟨g, j * 3 + 1, none⟩ (.string y2) := ⟨_, rfl⟩
      have HW3 : Hid (NRow W3 g n ∧ w.grownBy W3 (some g)) := by
        rw [hW3]
        exact ⟨HW2.out.1.set1 y2, grownN_trans HW2.out.2 grownN_set⟩
      clear c0 c2
      go_upto_region 8 with fail
      rw [← hW3]
      clear hW3 c1 hfz hgl HW2 i0 x0 r0
      go_wp2_with fail
      refine (markText_i (x + 1 + 1) W3 (by omega) (by omega)).mono ?_
      rintro e w4 ⟨y4, rfl, hb4⟩
      have HW4 : Hid (NRow w4 g n ∧ w.grownBy w4 (some g)) := ⟨HW3.out.1.below hb4, grownN_trans HW3.out.2 (grownN_below hb4 _)⟩
      clear hb4 HW3
      obtain ⟨i0, x0, r0, c0, c1, c2, hfz, hgl⟩ := HW4.out.1.cells hlt
      have HZ : Hid (NRow (w4.setCell ⟨g, j * 3 + 2, none⟩ (.string y4)) g n ∧ w.grownBy (w4.setCell ⟨g, j * 3 + 2, none⟩ (.string y4)) (some g)) := ⟨HW4.out.1.set2 y4, grownN_trans HW4.out.2 grownN_set⟩
      clear c0 c1 HW4
      go_wp2
      go_roundw
      case rel => exact ⟨j + 1, _, by omega, by go_num, rfl, by rw [HX.out]; omega, HZ.out⟩
      case measure => simp [intOf]; omega
    · obtain rfl : j = n := by omega
      go_wp2
      go_ret
      exact ⟨by rw [HX.out]; rfl, HW.out.2⟩
set_option maxHeartbeats 400000 in
theorem markPath_any (g n c : Nat) (w : World) (h : NRow w g n) (hn : n ≤ 1048577) :
    Calls Try.prog 17 #[.agg #[.slice (some ⟨g, 0, none⟩) n c], .int .i64 1] w fun e w' => e = .returned (.int .i64 (1 + 3 * (n : Int))) ∧ w.grownBy w' (some g) := by
  have HR : Hid (NRow w g n) := h
  clear h
  go_enter Try.func17, Try.ntmps17
  go_wp2_with fail
  refine (markPNodeS_any g n c _ (HR.out.below (below_alloc _ _)) hn).mono ?_
  rintro e w1 ⟨rfl, hg⟩
  have HG : Hid (w.grownBy w1 (some g)) := grownN_trans (grownN_below (below_alloc _ _) _) hg
  clear hg
  go_wp2
  go_ret
  exact ⟨rfl, HG.out⟩
end Go.Proofs.Ytocmbnocdjnfpaa

namespace Go.Proofs.Ytocmbnocdjnfpaa
open Go.RowKit Go.Deep
set_option linter.unusedVariables false
set_option maxRecDepth 100000

/-- A text of the call's own, a mark behind it. -/
def OwM (W : World) (B : Nat) (ad : Option Addr) (pt : List Int) : Prop := pt = [] ∨ ∃ g, ad = some ⟨g, 0, none⟩ ∧ B ≤ g ∧ rowM W g pt.length (fun i => .int .u8 (lf pt i))
theorem rowM.of_block {w w' : World} {g n : Nat} {F : Nat → Value} (h : rowM w g n F) (hb : w'.heap[g]? = w.heap[g]?) : rowM w' g n F := by
  obtain ⟨c, fr, h1, h2⟩ := h
  exact ⟨c, fr, hb.trans h1, h2⟩
theorem rowM.lt {w : World} {g n : Nat} {F : Nat → Value} (h : rowM w g n F) : g < w.heap.size := by
  obtain ⟨c, fr, h1, h2⟩ := h
  exact (Array.getElem?_eq_some_iff.1 h1).1
theorem OwM.below {W W' : World} {B : Nat} {ad : Option Addr} {pt : List Int} (h : OwM W B ad pt) (hb : Below W.heap.size W W') : OwM W' B ad pt := by
  rcases h with h | ⟨g, e, hg, hr⟩
  · exact .inl h
  · exact .inr ⟨g, e, hg, hr.of_block (hb.block g hr.lt)⟩
theorem OwM.rd {W : World} {B : Nat} {ad : Option Addr} {pt : List Int} (h : OwM W B ad pt) : RdL W ad pt := by
  rcases h with rfl | ⟨g, rfl, hg, hr⟩
  · exact .inl rfl
  · exact hr.rd
theorem eqByteS_y (a b : Option Addr) (ca cb : Nat) (pt : List Int) (w : World) (ha : RdL w a pt) (hb : RdL w b pt) (hm : pt.length ≤ 30000) :
    Calls Try.prog 16 #[.slice a pt.length ca, .slice b pt.length cb] w fun e w' => e = .returned (.bool true) ∧ Below w.heap.size w w' := by
  refine (eqByteS_yes a b pt.length ca cb (lf pt) w ha hb (by omega)).mono ?_
  rintro e w' ⟨rfl, n, rfl⟩
  exact ⟨rfl, below_drewN (Below.refl _ _) n⟩
/-- Only the text's own block has turned. -/
def OnlyM (ad : Option Addr) (pt : List Int) (w w' : World) : Prop := ∃ row, w.grownBy w' row ∧ ∀ g, row = some g → pt ≠ [] ∧ ad = some ⟨g, 0, none⟩
theorem markByteS_w (B : Nat) (ad : Option Addr) (pt : List Int) (cc : Nat) (w : World) (h : OwM w B ad pt) (hm : pt.length ≤ 30000) :
    Calls Try.prog 18 #[.slice ad pt.length cc, .int .i64 1] w fun e w' => e = .returned (.int .i64 (1 + (pt.length : Int))) ∧ Rd .u8 w' ad pt.length (fun i => IntKind.u8.wrap (1 + i)) ∧ OnlyM ad pt w w' := by
  rcases h with rfl | ⟨g, rfl, hg, hr⟩
  · go_enter Try.func18, Try.ntmps18
    go_wp2
    go_rounds 1
    go_ret
    exact ⟨rfl, .inl rfl, none, ⟨rfl, rfl, rfl, Nat.le_refl _, fun _ _ _ => rfl⟩, fun g e => by cases e⟩
  · by_cases h0 : pt = []
    · subst h0
      go_enter Try.func18, Try.ntmps18
      go_wp2
      go_rounds 1
      go_ret
      exact ⟨rfl, .inl rfl, none, ⟨rfl, rfl, rfl, Nat.le_refl _, fun _ _ _ => rfl⟩, fun g e => by cases e⟩
    refine (markByteS_m g pt.length cc (lf pt) w 1 hr (by omega) (by omega) (by omega)).mono ?_
    rintro e w' ⟨rfl, h1, h2⟩
    refine ⟨rfl, h1.rd, some g, ⟨h2.os, h2.tape, h2.output, by rw [h2.size]; exact Nat.le_refl _, fun b hb hne => h2.block b (fun x e => ?_)⟩, fun g' e => ⟨h0, by injection e with e; rw [e]⟩⟩
    injection e with e
    subst e
    intro q
    exact hne (by rw [← q])

/-- What the law holds on to: the argument's box, the document's answer, the program's. -/
structure PSt (w W : World) (a : Option Addr) (n c g4 : Nat) (aS aG : Option Addr) (pt : List Int) : Prop where
  k : Below (w.heap.size + 1) (w.alloc (.cells #[.slice a n c] 24)) W
  h4 : w.heap.size + 1 ≤ g4
  s : pt = [] ∨ ∃ b o, aS = some ⟨b, o, none⟩ ∧ b ≠ g4 ∧ (∀ g, aG = some ⟨g, 0, none⟩ → b ≠ g) ∧ ∀ i, i < pt.length → W.cell? ⟨b, o + i, none⟩ = some (.int .u8 (lf pt i))
  g : pt = [] ∨ ∃ g, aG = some ⟨g, 0, none⟩ ∧ w.heap.size + 1 ≤ g ∧ g ≠ g4
theorem PSt.rd {w W : World} {a : Option Addr} {n c g4 : Nat} {aS aG : Option Addr} {pt : List Int} (h : PSt w W a n c g4 aS aG pt) : RdL W aS pt := by
  rcases h.s with rfl | ⟨b, o, rfl, _, _, hc⟩
  · exact .inl rfl
  · exact .inr ⟨b, o, rfl, hc⟩
theorem PSt.keep {w W W' : World} {a : Option Addr} {n c g4 : Nat} {aS aG : Option Addr} {pt : List Int} (h : PSt w W a n c g4 aS aG pt) (hb : Below W.heap.size W W') : PSt w W' a n c g4 aS aG pt := by
  refine ⟨h.k.trans (hb.mono (by have := h.k.size; simpa using this)), h.h4, ?_, h.g⟩
  rcases h.s with h0 | ⟨b, o, e, h1, h2, hc⟩
  · exact .inl h0
  · exact .inr ⟨b, o, e, h1, h2, fun i hi => (hb.cell (World.block_lt_of_cell? _ _ (hc i hi))).trans (hc i hi)⟩
theorem PSt.grown {w W W' : World} {a : Option Addr} {n c g4 : Nat} {aS aG : Option Addr} {pt : List Int} (h : PSt w W a n c g4 aS aG pt) {row : Option Nat} (hg : W.grownBy W' row) (hr : ∀ g, row = some g → g = g4 ∨ (pt ≠ [] ∧ aG = some ⟨g, 0, none⟩)) : PSt w W' a n c g4 aS aG pt := by
  have hz := h.k.size
  simp at hz
  refine ⟨?_, h.h4, ?_, h.g⟩
  · refine ⟨hg.os.trans h.k.os, hg.tape.trans h.k.tape, hg.output.trans h.k.output, Nat.le_trans h.k.size hg.size, fun b hb => (hg.block b (by omega) (fun e => ?_)).trans (h.k.block b hb)⟩
    rcases hr b e.symm with e | ⟨h0, e⟩
    · have := h.h4; omega
    · rcases h.g with q | ⟨g, q1, q2, _⟩
      · exact h0 q
      · rw [e] at q1
        injection q1 with q1
        injection q1 with q1
        omega
  · rcases h.s with h0 | ⟨b, o, e, h1, h2, hc⟩
    · exact .inl h0
    · refine .inr ⟨b, o, e, h1, h2, fun i hi => ?_⟩
      have hlt := World.block_lt_of_cell? _ _ (hc i hi)
      have hbb : W'.heap[b]? = W.heap[b]? := hg.block b hlt (fun q => by
        rcases hr b q.symm with q | ⟨_, q⟩
        · exact h1 q
        · exact h2 b q rfl)
      rw [← hc i hi]
      simp [World.cell?, hbb]

set_option maxHeartbeats 4000000 in
theorem ppLaw0 (pt : List Int) (hpl : pt.length ≤ 30000) (a : Option Addr) (n c : Nat) (I : Nat → Int) (X : Nat → ByteArray) (R : Nat → ByteArray) (w : World) (ha : RdN w a n I X R) (hX : ∀ i, i < n → (X i).size ≤ maxLen ∧ (R i).size ≤ maxLen) (hn : n ≤ maxLen)
    (hspec : n ≤ 1048576 → ∀ W a, RdN W a n I X R → Calls Try.prog 14 #[.agg #[.slice a n n]] W (RetL W pt)) (himpl : n ≤ 1048576 → ∀ W a, RdN W a n I X R → Calls Try.prog 15 #[.agg #[.slice a n n]] W fun e w' => ∃ ad cc, e = .returned (.slice ad pt.length cc) ∧ OwM w' W.heap.size ad pt ∧ Below W.heap.size W w') :
    Calls Try.prog 4 #[.agg #[.slice a n c]] w fun e w' => e = .returned (.bool true) ∧ Below w.heap.size w w' := by
  have HA : Hid (RdN w a n I X R) := ha
  have HXs : Hid (∀ i, i < n → (X i).size ≤ maxLen ∧ (R i).size ≤ maxLen) := hX
  have HSP : Hid (n ≤ 1048576 → ∀ W a, RdN W a n I X R → Calls Try.prog 14 #[.agg #[.slice a n n]] W (RetL W pt)) := hspec
  have HIM : Hid (n ≤ 1048576 → ∀ W a, RdN W a n I X R → Calls Try.prog 15 #[.agg #[.slice a n n]] W fun e w' => ∃ ad cc, e = .returned (.slice ad pt.length cc) ∧ OwM w' W.heap.size ad pt ∧ Below W.heap.size W w') := himpl
  clear ha hX hspec himpl
  go_enter Try.func4, Try.ntmps4
  go_wp2_with fail
  refine (szPath_any a n c I X R 1048576 _ (HA.out.below (below_alloc _ _)) hn HXs.out (by omega) (by omega)).mono ?_
  rintro e w1 ⟨r, rfl, hr, hb1⟩
  rw [show ∀ O, (w.alloc O).heap.size = w.heap.size + 1 from fun O => by simp] at hb1
  have K1 : Hid (Below (w.heap.size + 1) (w.alloc (.cells #[.slice a n c] 24)) w1) := hb1
  have HJ : Hid (∀ {W : World}, Below (w.heap.size + 1) (w.alloc (.cells #[.slice a n c] 24)) W → Below w.heap.size w W) := fun h => (below_alloc _ _).trans (h.mono (by omega))
  obtain ⟨x0, xz1⟩ := pbox hb1
  clear hb1
  rcases hr with rfl | ⟨hr0, hn1⟩
  · clear x0
    go_wp2
    go_ret
    exact ⟨rfl, HJ.out K1.out⟩
  have hr1 : ¬ r < 0 := by omega
  clear hn
  go_wp2_with fail
  refine (toPath_any a n c I X R w1 (HA.out.below (HJ.out K1.out)) hn1).mono ?_
  rintro e w2 ⟨g2, rfl, hg2, hr2, hb2⟩
  have K2 : Hid (Below (w.heap.size + 1) (w.alloc (.cells #[.slice a n c] 24)) w2) := K1.out.trans (hb2.mono (by omega))
  have H2 : Hid (rowIn w2 g2 61 (n * 3) (pnCell I X R)) := hr2
  clear x0 hr2 hb2
  go_wp2_with fail
  refine (HSP.out hn1 w2 (some ⟨g2, 0, none⟩) (rdN_row H2.out)).mono ?_
  rintro e w3 ⟨aS, cS, rfl, hS3, hb3, -⟩
  have K3 : Hid (Below (w.heap.size + 1) (w.alloc (.cells #[.slice a n c] 24)) w3) := K2.out.trans (hb3.mono (by have := K2.out.size; simp at this; omega))
  obtain ⟨x0, xz3⟩ := pbox K3.out
  have S3 : Hid (RdL w3 aS pt) := hS3
  clear hb3 hS3
  go_wp2_with fail
  refine (toPath_any a n c I X R w3 (HA.out.below (HJ.out K3.out)) hn1).mono ?_
  rintro e w4 ⟨g4, rfl, hg4, hr4, hb4⟩
  have K4 : Hid (Below (w.heap.size + 1) (w.alloc (.cells #[.slice a n c] 24)) w4) := K3.out.trans (hb4.mono (by omega))
  have H4 : Hid (rowIn w4 g4 61 (n * 3) (pnCell I X R) ∧ w3.heap.size ≤ g4 ∧ g4 < w4.heap.size) := ⟨hr4, hg4, hr4.lt⟩
  have L4 : Hid (Below w3.heap.size w3 w4) := hb4
  clear x0 hr4 hb4 hg4
  go_wp2_with fail
  refine (HIM.out hn1 _ (some ⟨g4, 0, none⟩) ((rdN_row H4.out.1).below (below_alloc _ _))).mono ?_
  rintro e w5 ⟨aG, cG, rfl, hG5, hb5⟩
  rw [show ∀ O, (w4.alloc O).heap.size = w4.heap.size + 1 from fun O => by simp] at hb5 hG5
  have K5 : Hid (Below (w.heap.size + 1) (w.alloc (.cells #[.slice a n c] 24)) w5) := (K4.out.alloc (by have := K4.out.size; simpa using this) _).trans (hb5.mono (by have := K4.out.size; simp at this; omega))
  have H5 : Hid (rowIn w5 g4 61 (n * 3) (pnCell I X R)) := H4.out.1.of_block ((hb5.block g4 (by have := H4.out.2.2; omega)).trans ((below_alloc _ _).block _ H4.out.2.2))
  obtain ⟨bX, hbX⟩ : ∃ bX, bX = w4.heap.size := ⟨_, rfl⟩
  have X5 : Hid (w5.heap[bX]? = some (.cells #[.slice (some ⟨g4, 0, none⟩) n n] 29)) := by
    rw [hbX]
    exact (hb5.block _ (by omega)).trans Array.getElem?_push_size
  have P5 : Hid (PSt w w5 a n c g4 aS aG pt) := by
    have z3 := K3.out.size
    simp at z3
    have z4 := L4.out.size
    refine ⟨K5.out, by have := H4.out.2.1; omega, ?_, ?_⟩
    · rcases S3.out with h0 | ⟨b, o, e, hc⟩
      · exact .inl (List.length_eq_zero_iff.1 h0)
      by_cases hp : pt = []
      · exact .inl hp
      have h00 : 0 < pt.length := by
        cases pt with
        | nil => exact absurd rfl hp
        | cons x l => simp
      have hlt := World.block_lt_of_cell? _ _ (hc 0 h00)
      simp at hlt
      refine .inr ⟨b, o, e, by have := H4.out.2.1; omega, fun g q => ?_, fun i hi => ?_⟩
      · rcases hG5 with q0 | ⟨g', q1, q2, _⟩
        · exact absurd q0 hp
        · rw [q1] at q
          injection q with q
          injection q with q
          omega
      · have h1 := (L4.out.cell (World.block_lt_of_cell? _ _ (hc i hi))).trans (hc i hi)
        have h2 := ((below_alloc w4 (.cells #[.slice (some ⟨g4, 0, none⟩) n n] 29)).cell (World.block_lt_of_cell? _ _ h1)).trans h1
        exact (hb5.cell (by have := World.block_lt_of_cell? _ _ h2; simpa using this)).trans h2
    · rcases hG5 with q0 | ⟨g', q1, q2, _⟩
      · exact .inl q0
      · exact .inr ⟨g', q1, by omega, by have := H4.out.2.2; omega⟩
  have G5 : Hid (OwM w5 (w.heap.size + 1) aG pt) := by
    rcases hG5 with q0 | ⟨g', q1, q2, q3⟩
    · exact .inl q0
    · exact .inr ⟨g', q1, by have z3 := K4.out.size; simp at z3; omega, q3⟩
  clear hb5 hG5 H4 L4 S3
  rw [← hbX]
  clear hbX
  go_wp2_with fail
  refine (eqByteS_y aG aS cG cS pt w5 G5.out.rd P5.out.rd hpl).mono ?_
  rintro e w6 ⟨rfl, hb6⟩
  have P6 : Hid (PSt w w6 a n c g4 aS aG pt ∧ OwM w6 (w.heap.size + 1) aG pt ∧ rowIn w6 g4 61 (n * 3) (pnCell I X R) ∧ w6.heap[bX]? = some (.cells #[.slice (some ⟨g4, 0, none⟩) n n] 29)) := ⟨P5.out.keep hb6, G5.out.below hb6, H5.out.of_block (hb6.block _ H5.out.lt), (hb6.block bX (Array.getElem?_eq_some_iff.1 X5.out).1).trans X5.out⟩
  clear hb6 P5 G5 H5 X5
  have HKX : Hid (∀ W, Below w6.heap.size w6 W → W.cell? ⟨bX, 0, none⟩ = some (.slice (some ⟨g4, 0, none⟩) n n) ∧ W.cell? ⟨w.heap.size, 0, none⟩ = some (.slice a n c) ∧ RdN W a n I X R ∧ RdN W (some ⟨g4, 0, none⟩) n I X R) := fun W hW => by
    have h1 := (hW.block bX (Array.getElem?_eq_some_iff.1 P6.out.2.2.2).1).trans P6.out.2.2.2
    have h2 := P6.out.1.keep hW
    refine ⟨by simp [World.cell?, h1], (pbox h2.k).1, HA.out.below (HJ.out h2.k), rdN_row (P6.out.2.2.1.of_block (hW.block _ P6.out.2.2.1.lt))⟩
  have J0 : Hid (Below w6.heap.size w6 w6.drew) := (Below.refl _ _).drew
  go_upto_region 10 with fail
  go_region_held3 (fun w' => w'.cell? ⟨bX, 0, none⟩ = some (.slice (some ⟨g4, 0, none⟩) n n) ∧ w'.cell? ⟨w.heap.size, 0, none⟩ = some (.slice a n c)) (first | exact ⟨(HKX.out _ J8.out).1, (HKX.out _ J8.out).2.1⟩ | exact ⟨(HKX.out _ J7.out.1).1, (HKX.out _ J7.out.1).2.1⟩ | exact ⟨(HKX.out _ J0.out).1, (HKX.out _ J0.out).2.1⟩ | go_keep)
    (first
    | (go_at_call 11; (with_reducible refine (toPath_any a n c I X R _ ((HKX.out _ J0.out).2.2.1) hn1).mono ?_); rintro e w7 ⟨g7, rfl, hg7, hr7, hb7⟩; have J7 : Hid (Below w6.heap.size w6 w7 ∧ RdN w7 (some ⟨g7, 0, none⟩) n I X R) := ⟨J0.out.trans (hb7.mono J0.out.size), rdN_row hr7⟩; clear hg7 hr7 hb7)
    | (go_at_call 13; (with_reducible refine (eqPath_yes (some ⟨g4, 0, none⟩) (some ⟨g7, 0, none⟩) n n n I X R _ ((HKX.out _ J7.out.1).2.2.2) J7.out.2 hn1).mono ?_); rintro e w8 ⟨rfl, hb8⟩; have J8 : Hid (Below w6.heap.size w6 w8) := J7.out.1.trans (hb8.mono J7.out.1.size); clear hb8)
    | fail)
  have P8 : Hid (PSt w w8 a n c g4 aS aG pt ∧ OwM w8 (w.heap.size + 1) aG pt ∧ rowIn w8 g4 61 (n * 3) (pnCell I X R)) := ⟨P6.out.1.keep J8.out, P6.out.2.1.below J8.out, P6.out.2.2.1.of_block (J8.out.block _ P6.out.2.2.1.lt)⟩
  have x8 := (HKX.out _ J8.out).1
  clear P6 HKX J0 J7 J8
  go_wp2_with fail
  refine (markPath_any g4 n n w8 ⟨I, X, R, P8.out.2.2⟩ (by omega)).mono ?_
  rintro e w9 ⟨rfl, hg9⟩
  have P9 : Hid (PSt w w9 a n c g4 aS aG pt ∧ OwM w9 (w.heap.size + 1) aG pt) := by
    refine ⟨P8.out.1.grown hg9 (fun g e => .inl (by injection e with e; exact e.symm)), ?_⟩
    rcases P8.out.2.1 with h0 | ⟨g, e, h1, h2⟩
    · exact .inl h0
    · refine .inr ⟨g, e, h1, h2.of_block (hg9.block g h2.lt (fun q => ?_))⟩
      rcases P8.out.1.g with h0 | ⟨g', e', _, h3⟩
      · rw [h0] at h2
        obtain ⟨_, _, q1, _⟩ := h2
        obtain ⟨_, q2, _, _⟩ := P8.out.2.2
        injection q with q
        rw [q] at q1
        rw [q1] at q2
        injection q2 with q2
        injection q2 with _ q2 _
        exact absurd q2 (by decide)
      · rw [e] at e'
        injection e' with e'
        injection e' with e'
        injection q with q
        omega
  clear hg9 P8 x8
  have hneg : ¬ (1 + 3 * (n : Int) < 0) := by omega
  go_wp2_with fail
  refine (eqByteS_y aG aS cG cS pt w9 P9.out.2.rd P9.out.1.rd hpl).mono ?_
  rintro e w10 ⟨rfl, hb10⟩
  have P10 : Hid (PSt w w10 a n c g4 aS aG pt ∧ OwM w10 (w.heap.size + 1) aG pt) := ⟨P9.out.1.keep hb10, P9.out.2.below hb10⟩
  clear hb10 P9
  go_wp2_with fail
  refine (markByteS_w (w.heap.size + 1) aG pt cG w10 P10.out.2 hpl).mono ?_
  rintro e w11 ⟨rfl, hm11, row, hg11, hr11⟩
  have P11 : Hid (PSt w w11 a n c g4 aS aG pt ∧ Rd .u8 w11 aG pt.length (fun i => IntKind.u8.wrap (1 + i))) := ⟨P10.out.1.grown hg11 (fun g e => .inr (hr11 g e)), hm11⟩
  clear hm11 hg11 hr11 P10
  go_wp2_with fail
  refine (heldByteS_yes aG pt.length cG w11 1 P11.out.2 (by omega) (by omega) (by omega)).mono ?_
  rintro e w12 ⟨rfl, hw12⟩
  subst hw12
  obtain ⟨x0, xz⟩ := pbox P11.out.1.k
  have hneg2 : ¬ (1 + (pt.length : Int) < 0) := by omega
  have hbb : (1 + (pt.length : Int) != 1 + (pt.length : Int)) = false := by simp
  go_wp2_with fail
  refine (toPath_any a n c I X R w12 (HA.out.below (HJ.out P11.out.1.k)) hn1).mono ?_
  rintro e w13 ⟨g13, rfl, hg13, hr13, hb13⟩
  have P13 : Hid (PSt w w13 a n c g4 aS aG pt ∧ RdN w13 (some ⟨g13, 0, none⟩) n I X R) := ⟨P11.out.1.keep hb13, rdN_row hr13⟩
  clear x0 xz hg13 hr13 hb13 P11
  go_wp2_with fail
  refine (HIM.out hn1 _ (some ⟨g13, 0, none⟩) P13.out.2).mono ?_
  rintro e w14 ⟨aH, cH, rfl, hH14, hb14⟩
  have P14 : Hid (PSt w w14 a n c g4 aS aG pt ∧ RdL w14 aH pt) := ⟨P13.out.1.keep hb14, hH14.rd⟩
  clear hH14 hb14 P13
  go_wp2_with fail
  refine (eqByteS_y aH aS cH cS pt w14 P14.out.2 P14.out.1.rd hpl).mono ?_
  rintro e w15 ⟨rfl, hb15⟩
  have HE : Hid (Below w.heap.size w w15) := HJ.out (P14.out.1.keep hb15).k
  clear hb15 P14
  go_wp2
  go_ret
  exact ⟨rfl, HE.out⟩
end Go.Proofs.Ytocmbnocdjnfpaa
