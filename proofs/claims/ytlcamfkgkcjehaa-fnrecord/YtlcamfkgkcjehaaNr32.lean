import Derived.Test.YtlcamfkgkcjehaaNr31
import Derived.Test.YtlcamfkgkcjehaaNr24
import Derived.Test.YtlcamfkgkcjehaaNr26
import Derived.Test.YtlcamfkgkcjehaaNr23
import Derived.Test.YtlcamfkgkcjehaaNr25
import Derived.Test.YtlcamfkgkcjehaaNr3
import Derived.Test.YtlcamfkgkcjehaaRows
import Derived.Test.YtlcamfkgkcjehaaNr1
import Derived.Deep.QuietTactic
import Derived.BigQuiet
namespace Go.Proofs.Ytlcamfkgkcjehaa
open Go.RowKit Go.Deep
set_option linter.unusedVariables false
set_option maxRecDepth 100000

theorem byteRow_succ' (F : Nat → Int) (k : Nat) (x : Int) : byteRow F k ++ [.int .u8 x] = byteRow (fun i => if i = k then x else F i) (k + 1) := by
  unfold byteRow
  rw [List.range_succ, List.map_append]
  congr 1
  · refine List.map_congr_left (fun i hi => ?_)
    have h2 := List.mem_range.1 hi
    dsimp only
    rw [if_neg (by omega)]
  · simp
/-- What l1Some hands back. -/
def RetSome (w : World) (g : Nat) (b : Option Addr) (n c : Nat) (f : Nat → Int) (M : Nat) (e : Ending) (w' : World) : Prop :=
  ∃ (a : Option Addr) (cp : Nat) (F : Nat → Int), e = .returned (.slice a M cp) ∧ OwnB w' w.heap.size a M F ∧ (∀ j, 0 ≤ F j ∧ F j < 256) ∧ M ≤ cp ∧ cp ≤ 9223372036854775807 ∧ Drw w' g b n c f ∧ BelC w.heap.size g w w'
set_option maxHeartbeats 2000000 in
theorem l1Some_any (g : Nat) (b : Option Addr) (n c : Nat) (f : Nat → Int) (x : Int) (M : Nat) (w : World) (h : Drw w g b n c f) (hx : x = (M : Int)) (hM : M ≤ 1048576) :
    Calls Try.prog 38 #[.pointer (some ⟨g, 0, none⟩), .int .i64 x] w (RetSome w g b n c f M) := by
  have HW : Hid (DrwL w w.heap.size g b n c f) := DrwL.of h
  have HX : Hid (x = (M : Int)) := hx
  have hx0 : 0 ≤ x ∧ x ≤ 1048576 := by omega
  have hgl := HW.out.cur
  clear h hx
  obtain ⟨i0, hi, hz0, hz1, hz2⟩ := info_parts Try.info5
  have HI : Hid (Try.prog.info? 5 = some i0 ∧ i0.zero = some (.int .u8 0) ∧ i0.size = 1 ∧ i0.bytes = 1) := ⟨hi, hz0, hz1, hz2⟩
  clear hi hz0 hz1 hz2
  go_enter Try.func38, Try.ntmps38
  go_wp2
  go_loopw [5, 6, 7] (fun u i _ wr => ∃ (j : Nat) (F : Nat → Int), (j : Int) ≤ x ∧ i = .int .i64 j ∧ wr.ownsRow w.heap.size 5 1 u j (byteRow F j) ∧ (∀ j, 0 ≤ F j ∧ F j < 256) ∧ Drw wr g b n c f ∧ BelC w.heap.size g w wr) (fun _ i _ _ => (x - intOf i).toNat)
  case atStart => exact ⟨0, fun _ => 0, by omega, rfl, World.ownsRow_lit w #[] 0 (Nat.le_refl _) (Nat.zero_le _) rfl, fun j => ⟨Int.le_refl 0, (by decide : (0 : Int) < 256)⟩, HW.out.drw.below (below_alloc _ _), (BelC.refl _ _ _).alloc (Nat.le_refl _) _⟩
  case round =>
    obtain ⟨j, F, hj, rfl, hown, hrg, hd, hb⟩ := hrel
    have HO : Hid (wr.ownsRow w.heap.size 5 1 u5 j (byteRow F j)) := hown
    have HD : Hid (Drw wr g b n c f) := hd
    have HB : Hid (BelC w.heap.size g w wr) := hb
    have HRG : Hid (∀ j, 0 ≤ F j ∧ F j < 256) := hrg
    have hz := hb.size
    clear hown hd hb hrg
    by_cases hlt : (j : Int) < x
    · go_wp2_with fail
      refine HD.out.byte.mono ?_
      rintro e w2 ⟨o, rfl, ho0, ho1, hd2, ho2⟩
      have z2 : w2.heap.size = wr.heap.size := ho2.size
      have O2 : Hid ((w2.alloc (.cells #[.int .u8 o] 5)).ownsRow w.heap.size 5 1 u5 j (byteRow F j)) := owns_below (owns_onlyLow HO.out hgl ho2) (below_alloc _ _)
      have D2 : Hid (DrwL w2 w.heap.size g b n c f) := ⟨hd2, hgl, HW.out.bytes⟩
      have B2 : Hid (BelC w.heap.size g w w2) := HB.out.trans (BelC.ofOnly ho2)
      have hz9 : w.heap.size ≤ (w2.alloc (.cells #[.int .u8 o] 5)).heap.size := by rw [alloc_size]; omega
      have hjj : j ≤ 1048578 := by omega
      have Z2 : Hid (w2.heap.size = wr.heap.size) := z2
      have ew : IntKind.u8.wrap o = o := by rw [IntKind.wrap_u8]; omega
      clear hd2 ho2 HO HD HB z2
      go_wp2_with (at_builtin; refine wpList_append_own _ rfl _ _ 22 rfl w.heap.size 5 i0 (.int .u8 0) 1 1 Try.underlying22 HI.out.1 HI.out.2.1 HI.out.2.2.1 HI.out.2.2.2 rfl (by decide) _ j _ rfl O2.out ⟨w2.heap.size, 0, none⟩ 1 1 [.int .u8 o] rfl rfl (cell_one_new _ _ _) (by intro u hu; simp at hu; subst hu; rfl) (by unfold maxLen; omega) (by omega) hz9 ?_)
      intro v' w3 hown3 hgr3 _
      have HX3 : Hid (w3.ownsRow w.heap.size 5 1 v' (j + 1) (byteRow (fun i => if i = j then o else F i) (j + 1)) ∧ (∀ q, 0 ≤ (fun i => if i = j then o else F i) q ∧ (fun i => if i = j then o else F i) q < 256) ∧ Drw w3 g b n c f ∧ BelC w.heap.size g w w3) := by
        have hb : Below w.heap.size w2 w3 := Below.grown ((below_alloc w2 (.cells #[.int .u8 o] 5)).mono (by have := Z2.out; omega)) hgr3 hz9 (owns_blockGe O2.out)
        refine ⟨by rw [← byteRow_succ']; exact hown3, fun q => ?_, (D2.out.below hb).drw, B2.out.trans (BelC.ofBelow hb (Nat.le_refl _))⟩
        dsimp only
        split
        · exact ⟨ho0, ho1⟩
        · exact HRG.out q
      clear hown3 hgr3 O2 D2 B2
      go_wp2
      go_roundw
      case rel => exact ⟨j + 1, _, by omega, by go_num, HX3.out⟩
      case measure => simp [intOf]; omega
    · have e : j = M := by have := HX.out; omega
      subst e
      obtain ⟨a, cp, hv, h1, h2, h3⟩ := ownB_ofOwns (f := F) HO.out (fun i hi => by rw [byteRow_get _ _ _ hi])
      subst hv
      have HF : Hid (RetSome w g b n c f j (.returned (.slice a j cp)) wr) := ⟨a, cp, F, rfl, h1, HRG.out, h2, h3, HD.out, HB.out⟩
      clear h1 HO
      go_wp2
      go_ret
      exact HF.out

set_option maxHeartbeats 400000 in
theorem l2Length_any (g : Nat) (b : Option Addr) (n c : Nat) (f : Nat → Int) (w : World) (h : Drw w g b n c f) :
    Calls Try.prog 39 #[.pointer (some ⟨g, 0, none⟩)] w fun e w' => DrawnN w e w' g b n c f 200 := by
  have H : Hid (Drw w g b n c f) := h
  clear h
  go_enter Try.func39, Try.ntmps39
  go_wp2_with fail
  refine (l1Below_any g b n c f 6 w H.out (by omega) (by omega)).mono ?_
  rintro e w1 ⟨k, rfl, k0, k1, hd1, ho1⟩
  have H1 : Hid (Drw w1 g b n c f ∧ OnlyAt (some ⟨g, 0, none⟩) w w1) := ⟨hd1, ho1⟩
  clear hd1 ho1
  go_wp2_with fail
  refine (l1Below_any g b n c f 3 w1 H1.out.1 (by omega) (by omega)).mono ?_
  rintro e w2 ⟨x, rfl, x0, x1, hd2, ho2⟩
  have H2 : Hid (Drw w2 g b n c f ∧ OnlyAt (some ⟨g, 0, none⟩) w w2) := ⟨hd2, H1.out.2.next ho2⟩
  clear hd2 ho2
  by_cases e0 : k = 0
  · have q0 : (k == 0) = true := by simp [e0]
    have HF : Hid (DrawnN w (.returned (.int .i64 0)) w2 g b n c f 200) := ⟨0, rfl, by omega, by omega, H2.out⟩
    clear e0
    go_wp2
    go_ret
    exact HF.out
  have q0 : (k == 0) = false := by simp [e0]
  by_cases e1 : k = 1
  · have q1 : (k == 1) = true := by simp [e1]
    clear e0 e1
    go_wp2_with fail
    refine (l1Below_any g b n c f 3 w2 H2.out.1 (by omega) (by omega)).mono ?_
    rintro e w3 ⟨y, rfl, y0, y1, hd3, ho3⟩
    have HF : Hid (DrawnN w (.returned (.int .i64 (48 * (1 + y) + x - 1))) w3 g b n c f 200) := ⟨_, rfl, by omega, by omega, hd3, H2.out.2.next ho3⟩
    clear hd3 ho3
    go_wp2
    go_ret
    exact HF.out
  · have q1 : (k == 1) = false := by simp [e1]
    clear e0 e1
    go_wp2_with fail
    refine (l1Below_any g b n c f 200 w2 H2.out.1 (by omega) (by omega)).mono ?_
    rintro e w3 ⟨y, rfl, y0, y1, hd3, ho3⟩
    have HF : Hid (DrawnN w (.returned (.int .i64 y)) w3 g b n c f 200) := ⟨_, rfl, y0, y1, hd3, H2.out.2.next ho3⟩
    clear hd3 ho3
    go_wp2
    go_ret
    exact HF.out

set_option maxHeartbeats 400000 in
theorem l2Seq_any (g : Nat) (b : Option Addr) (n c : Nat) (f : Nat → Int) (w : World) (h : Drw w g b n c f) :
    Calls Try.prog 37 #[.pointer (some ⟨g, 0, none⟩)] w fun e w' => DrawnN w e w' g b n c f 2000000002 := by
  have H : Hid (Drw w g b n c f) := h
  clear h
  go_enter Try.func37, Try.ntmps37
  go_wp2_with fail
  refine (l1Once_any g b n c f 12 w H.out (by omega) (by omega)).mono ?_
  rintro e w1 ⟨o, rfl, hd1, ho1⟩
  have H1 : Hid (Drw w1 g b n c f ∧ OnlyAt (some ⟨g, 0, none⟩) w w1) := ⟨hd1, ho1⟩
  clear hd1 ho1
  cases o with
  | true =>
    go_wp2_with fail
    refine (l1Below_any g b n c f 3 w1 H1.out.1 (by omega) (by omega)).mono ?_
    rintro e w3 ⟨y, rfl, y0, y1, hd3, ho3⟩
    have HF : Hid (DrawnN w (.returned (.int .i64 (1999999999 + y))) w3 g b n c f 2000000002) := ⟨_, rfl, by omega, by omega, hd3, H1.out.2.next ho3⟩
    clear hd3 ho3
    go_wp2
    go_ret
    exact HF.out
  | false =>
    go_wp2_with fail
    refine (l1Below_any g b n c f 40 w1 H1.out.1 (by omega) (by omega)).mono ?_
    rintro e w3 ⟨y, rfl, y0, y1, hd3, ho3⟩
    have HF : Hid (DrawnN w (.returned (.int .i64 y)) w3 g b n c f 2000000002) := ⟨_, rfl, by omega, by omega, hd3, H1.out.2.next ho3⟩
    clear hd3 ho3
    go_wp2
    go_ret
    exact HF.out

set_option maxHeartbeats 400000 in
theorem l2AreaSize_any (a p : Option Addr) (n c m q : Nat) (fuel : Int) (dead : Bool) (w : World) (hn : n ≤ 1048576) (hn2 : 1024 ≤ n) :
    Calls Try.prog 70 #[.agg #[.slice a n c, .slice p m q, .int .i64 fuel, .bool dead]] w fun e w' => e = .returned (.int .i64 (((n : Int) / 64 - 2) / 2)) ∧ Below w.heap.size w w' := by
  have e1 : ((n : Int) / 64 - 2).tdiv 2 = ((n : Int) / 64 - 2) / 2 := Int.tdiv_eq_ediv_of_nonneg (by omega)
  go_enter Try.func70, Try.ntmps70
  go_wp2_with fail
  refine (l1Sectors_any a p n c m q fuel dead _ hn).mono ?_
  rintro e w1 ⟨rfl, hb1⟩
  have HB : Hid (Below w.heap.size w w1) := (below_alloc _ _).trans (hb1.mono (by simp))
  clear hb1
  obtain ⟨N, hN⟩ : ∃ N : Int, N = (n : Int) / 64 := ⟨_, rfl⟩
  rw [← hN] at e1 ⊢
  have hN0 : 16 ≤ N ∧ N ≤ 16384 := by omega
  have HNN : Hid (N = (n : Int) / 64) := hN
  clear hN
  go_wp2
  go_ret
  exact ⟨by rw [← HNN.out]; rfl, HB.out⟩
set_option maxHeartbeats 400000 in
theorem l2AreaFrom_any (a p : Option Addr) (n c m q : Nat) (fuel : Int) (dead : Bool) (x : Int) (w : World) (hn : n ≤ 1048576) (hn2 : 1024 ≤ n) (hx : 0 ≤ x ∧ x ≤ 1) :
    Calls Try.prog 60 #[.agg #[.slice a n c, .slice p m q, .int .i64 fuel, .bool dead], .int .i64 x] w fun e w' => (∃ y, e = .returned (.int .i64 y) ∧ 2 ≤ y ∧ y ≤ 8194) ∧ Below w.heap.size w w' := by
  go_enter Try.func60, Try.ntmps60
  go_wp2_with fail
  refine (l2AreaSize_any a p n c m q fuel dead _ hn hn2).mono ?_
  rintro e w1 ⟨rfl, hb1⟩
  have HB : Hid (Below w.heap.size w w1) := (below_alloc _ _).trans (hb1.mono (by simp))
  clear hb1
  obtain ⟨N, hN⟩ : ∃ N : Int, N = ((n : Int) / 64 - 2) / 2 := ⟨_, rfl⟩
  rw [← hN]
  have hN0 : 0 ≤ N ∧ N ≤ 8192 := by omega
  clear hN
  have hx01 : x = 0 ∨ x = 1 := by omega
  rcases hx01 with rfl | rfl
  · go_wp2
    go_ret
    exact ⟨⟨_, rfl, by omega, by omega⟩, HB.out⟩
  · go_wp2
    go_ret
    exact ⟨⟨_, rfl, by omega, by omega⟩, HB.out⟩
end Go.Proofs.Ytlcamfkgkcjehaa

namespace Go.Proofs.Ytlcamfkgkcjehaa
open Go.RowKit Go.Deep
set_option linter.unusedVariables false
set_option maxRecDepth 100000

/-- A record's answer in new memory. -/
def RetRec (W : World) (e : Ending) (w' : World) (ok : Bool) (r0 : Nat) (f : Nat → Int) (K : Int) : Prop := ∃ a c, e = .returned (.agg #[.bool ok, .slice a r0 c, .int .i64 K]) ∧ OwnB w' W.heap.size a r0 f ∧ Below W.heap.size W w'
def RetRecR (W : World) (e : Ending) (w' : World) (ok : Bool) (r0 : Nat) (f : Nat → Int) (K : Int) : Prop := ∃ a c, e = .returned (.agg #[.bool ok, .slice a r0 c, .int .i64 K]) ∧ Rd .u8 w' a r0 f ∧ Below W.heap.size W w'

/-- A box of three cells. -/
def Bx3 (w : World) (g : Nat) (v0 v1 v2 : Value) : Prop := w.heap[g]? = some (.cells #[v0, v1, v2] 38)
theorem Bx3.cells {w : World} {g : Nat} {v0 v1 v2 : Value} (h : Bx3 w g v0 v1 v2) : w.cell? ⟨g, 0, none⟩ = some v0 ∧ w.cell? ⟨g, 1, none⟩ = some v1 ∧ w.cell? ⟨g, 2, none⟩ = some v2 ∧ g < w.heap.size := by
  have hl := (Array.getElem?_eq_some_iff.1 h).1
  unfold Bx3 at h
  exact ⟨by simp [World.cell?, h], by simp [World.cell?, h], by simp [World.cell?, h], hl⟩
theorem Bx3.keep {w w' : World} {g : Nat} {v0 v1 v2 : Value} (h : Bx3 w g v0 v1 v2) (hb : Below w.heap.size w w') : Bx3 w' g v0 v1 v2 := (hb.block g (Array.getElem?_eq_some_iff.1 h).1).trans h

set_option maxHeartbeats 2000000 in
theorem specReadRec_no (a p : Option Addr) (n c m q : Nat) (S : Nat → Int) (L : Nat → Nat) (F : Nat → Nat → Int) (fuel : Int) (dead : Bool) (at_ seq : Int) (w : World) (hp : RdP w p m S L F) (hn : n ≤ 1048576) (hm : m ≤ 1048576) (hno : ¬ (VD n m S L fuel ∧ numB seq = true ∧ 0 ≤ at_ ∧ at_ < (n : Int) / 64)) :
    Calls Try.prog 15 #[.agg #[.slice a n c, .slice p m q, .int .i64 fuel, .bool dead], .int .i64 at_, .int .i64 seq] w fun e w' => e = .returned (.agg #[.bool false, .slice none 0 0, .int .i64 0]) ∧ Below w.heap.size w w' := by
  have HFIN : Hid (∀ W : World, Below (w.heap.size + 2) ((w.alloc (.cells #[.slice a n c, .slice p m q, .int .i64 fuel, .bool dead] 25)).alloc (.cells #[.bool false, .slice none 0 0, .int .i64 0] 38)) W → Below w.heap.size w W) := fun W h => ((below_alloc _ _).trans ((below_alloc _ _).mono (by simp))).trans (h.mono (by omega))
  have HE2 : Hid (∀ o1 o2, ((w.alloc o1).alloc o2).heap.size = w.heap.size + 2) := fun _ _ => by simp
  have HP : Hid (RdP w p m S L F) := hp
  have HNO : Hid (¬ (VD n m S L fuel ∧ numB seq = true ∧ 0 ≤ at_ ∧ at_ < (n : Int) / 64)) := hno
  clear hp hno
  go_enter Try.func15, Try.ntmps15
  go_wp2_with fail
  refine (specValid_any a p n c m q S L F fuel dead _ (HP.out.below ((below_alloc _ _).trans ((below_alloc _ _).mono (by simp)))) hn hm).mono ?_
  rintro e w1 ⟨h1, hb1⟩
  rw [HE2.out] at hb1
  have K1 : Hid (Below (w.heap.size + 2) ((w.alloc (.cells #[.slice a n c, .slice p m q, .int .i64 fuel, .bool dead] 25)).alloc (.cells #[.bool false, .slice none 0 0, .int .i64 0] 38)) w1) := hb1
  have z1 : w.heap.size + 2 ≤ w1.heap.size := by have := hb1.size; rw [HE2.out] at this; exact this
  have z1' : w.heap.size + 1 < w1.heap.size := by omega
  clear hb1
  have hc1 : ∀ b o, b < w.heap.size + 2 → w1.cell? ⟨b, o, none⟩ = _ := fun b o hb => K1.out.cell (p := ⟨b, o, none⟩) hb
  have hf1 : ∀ b o, b < w.heap.size + 2 → w1.frozen? ⟨b, o, none⟩ = _ := fun b o hb => K1.out.frozen (p := ⟨b, o, none⟩) hb
  have HB1 : Hid (Below w.heap.size w w1) := HFIN.out _ K1.out
  by_cases hv : VD n m S L fuel
  case neg =>
    have := ans_false' h1 hv
    subst this
    clear h1
    go_wp2
    refine bodyPost_ret (v := .agg #[.bool false, .slice none 0 0, .int .i64 0]) (by simp [results, Try.results15, go_sem, hc1]) rfl ⟨rfl, below3 HB1.out (by omega)⟩
  case pos =>
  have := ans_true' h1 hv
  subst this
  clear h1
  go_wp2_with fail
  refine (l2Number_any seq w1).mono ?_
  rintro e w2 ⟨rfl, hw⟩
  subst hw
  cases hq : numB seq with
  | false =>
    go_wp2
    refine bodyPost_ret (v := .agg #[.bool false, .slice none 0 0, .int .i64 0]) (by simp [results, Try.results15, go_sem, hc1]) rfl ⟨rfl, below3 HB1.out (by omega)⟩
  | true =>
  by_cases ha0 : at_ < 0
  · go_wp2
    refine bodyPost_ret (v := .agg #[.bool false, .slice none 0 0, .int .i64 0]) (by simp [results, Try.results15, go_sem, hc1]) rfl ⟨rfl, below3 HB1.out (by omega)⟩
  have hge : (n : Int) / 64 ≤ at_ := by
    by_cases h9 : at_ < (n : Int) / 64
    · exact absurd ⟨hv, hq, by omega, h9⟩ HNO.out
    · omega
  go_wp2_with fail
  refine (l1Sectors_any a p n c m q fuel dead w2 hn).mono ?_
  rintro e w3 ⟨rfl, hb3⟩
  have K3 : Hid (Below (w.heap.size + 2) ((w.alloc (.cells #[.slice a n c, .slice p m q, .int .i64 fuel, .bool dead] 25)).alloc (.cells #[.bool false, .slice none 0 0, .int .i64 0] 38)) w3) := K1.out.trans (hb3.mono z1)
  have z3 : w.heap.size + 1 < w3.heap.size := by have := hb3.size; omega
  clear hb3 hc1 hf1
  have hc3 : ∀ b o, b < w.heap.size + 2 → w3.cell? ⟨b, o, none⟩ = _ := fun b o hb => K3.out.cell (p := ⟨b, o, none⟩) hb
  have hf3 : ∀ b o, b < w.heap.size + 2 → w3.frozen? ⟨b, o, none⟩ = _ := fun b o hb => K3.out.frozen (p := ⟨b, o, none⟩) hb
  have HB3 : Hid (Below w.heap.size w w3) := HFIN.out _ K3.out
  go_wp2
  refine bodyPost_ret (v := .agg #[.bool false, .slice none 0 0, .int .i64 0]) (by simp [results, Try.results15, go_sem, hc3]) rfl ⟨rfl, below3 HB3.out (by omega)⟩
end Go.Proofs.Ytlcamfkgkcjehaa
