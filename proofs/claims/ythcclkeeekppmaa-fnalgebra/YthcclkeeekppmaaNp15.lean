import Derived.Test.YthcclkeeekppmaaRows
import Derived.Test.YthcclkeeekppmaaOwn
import Derived.WalkKit
import Derived.Handy
import Derived.Laws.BytesArg
import Derived.Test.YthcclkeeekppmaaPnT
import Derived.Deep.CutBlock
import Derived.ChangeKeysEq
import Derived.BigQuiet
import Derived.Test.YthcclkeeekppmaaBase
namespace Go.Proofs.Ythcclkeeekppmaa
open Go.RowKit Go.Deep
set_option linter.unusedVariables false
set_option maxRecDepth 100000

/-- The digits of a number, in front of a text. -/
def dgF : Nat → Nat → ByteArray → ByteArray
  | 0, _, x => x
  | f + 1, k, x => if k = 0 then x else dgF f (k / 10) (strOfNums [48 + (k : Int) % 10] ++ x)

/-- The text that marks with number k. -/
def mkT (k : Nat) : ByteArray := ByteArray.mk #[109] ++ dgF k k { data := #[] }

end Go.Proofs.Ythcclkeeekppmaa

namespace Go.Proofs.Ythcclkeeekppmaa
open Go.RowKit Go.Deep
set_option linter.unusedVariables false
set_option maxRecDepth 100000

theorem grownN_trans {w w1 w2 : World} {row : Option Nat} (h : w.grownBy w1 row) (k : w1.grownBy w2 row) : w.grownBy w2 row :=
  ⟨k.os.trans h.os, k.tape.trans h.tape, k.output.trans h.output, Nat.le_trans h.size k.size, fun b hb hne => (k.block b (Nat.lt_of_lt_of_le hb h.size) hne).trans (h.block b hb hne)⟩
theorem grownN_below {w w1 : World} (h : Below w.heap.size w w1) (row : Option Nat) : w.grownBy w1 row := ⟨h.os, h.tape, h.output, h.size, fun b hb _ => h.block b hb⟩
theorem grownN_set {w : World} {g i : Nat} {v : Value} : w.grownBy (w.setCell ⟨g, i, none⟩ v) (some g) :=
  ⟨rfl, rfl, rfl, by simp, fun b hb hne => Below.heap_setCell _ _ _ _ (fun e => hne (by rw [e]))⟩

/-- A row of nodes, whatever they are. -/
def NRow (w : World) (g n : Nat) : Prop := ∃ I X R, rowIn w g 35 (n * 3) (pnCell I X R)
theorem NRow.cells {w : World} {g n j : Nat} (h : NRow w g n) (hj : j < n) : ∃ (i : Int) (x r : ByteArray), w.cell? ⟨g, j * 3, none⟩ = some (.int .i64 i) ∧ w.cell? ⟨g, j * 3 + 1, none⟩ = some (.string x) ∧ w.cell? ⟨g, j * 3 + 2, none⟩ = some (.string r) ∧ (∀ o, w.frozen? ⟨g, o, none⟩ = false) ∧ g < w.heap.size := by
  obtain ⟨I, X, R, h⟩ := h
  refine ⟨I j, X j, R j, ?_, ?_, ?_, h.frozen, h.lt⟩
  · have := h.cell (i := j * 3) (by omega); rwa [pnCell_0] at this
  · have := h.cell (i := j * 3 + 1) (by omega); rwa [pnCell_1] at this
  · have := h.cell (i := j * 3 + 2) (by omega); rwa [pnCell_2] at this
theorem NRow.below {w w' : World} {g n : Nat} (h : NRow w g n) (hb : Below w.heap.size w w') : NRow w' g n := by
  obtain ⟨I, X, R, h⟩ := h
  exact ⟨I, X, R, h.of_block (hb.block g h.lt)⟩
theorem NRow.set0 {w : World} {g n j : Nat} (h : NRow w g n) (v : Int) : NRow (w.setCell ⟨g, j * 3, none⟩ (.int .i64 v)) g n := by
  obtain ⟨I, X, R, h⟩ := h
  refine ⟨fun i => if i = j then v else I i, X, R, (h.set (j * 3) _).congr (fun c hc => ?_)⟩
  obtain ⟨q, hq⟩ : ∃ q, c = q * 3 ∨ c = q * 3 + 1 ∨ c = q * 3 + 2 := ⟨c / 3, by omega⟩
  rcases hq with rfl | rfl | rfl
  · rw [pnCell_0, pnCell_0]
    by_cases e : q = j
    · subst e; rw [if_pos rfl, if_pos rfl]
    · rw [if_neg (by omega), if_neg e]
  · rw [if_neg (by omega), pnCell_1, pnCell_1]
  · rw [if_neg (by omega), pnCell_2, pnCell_2]
theorem NRow.set1 {w : World} {g n j : Nat} (h : NRow w g n) (v : ByteArray) : NRow (w.setCell ⟨g, j * 3 + 1, none⟩ (.string v)) g n := by
  obtain ⟨I, X, R, h⟩ := h
  refine ⟨I, fun i => if i = j then v else X i, R, (h.set (j * 3 + 1) _).congr (fun c hc => ?_)⟩
  obtain ⟨q, hq⟩ : ∃ q, c = q * 3 ∨ c = q * 3 + 1 ∨ c = q * 3 + 2 := ⟨c / 3, by omega⟩
  rcases hq with rfl | rfl | rfl
  · rw [if_neg (by omega), pnCell_0, pnCell_0]
  · rw [pnCell_1, pnCell_1]
    by_cases e : q = j
    · subst e; rw [if_pos rfl, if_pos rfl]
    · rw [if_neg (by omega), if_neg e]
  · rw [if_neg (by omega), pnCell_2, pnCell_2]
theorem NRow.set2 {w : World} {g n j : Nat} (h : NRow w g n) (v : ByteArray) : NRow (w.setCell ⟨g, j * 3 + 2, none⟩ (.string v)) g n := by
  obtain ⟨I, X, R, h⟩ := h
  refine ⟨I, X, fun i => if i = j then v else R i, (h.set (j * 3 + 2) _).congr (fun c hc => ?_)⟩
  obtain ⟨q, hq⟩ : ∃ q, c = q * 3 ∨ c = q * 3 + 1 ∨ c = q * 3 + 2 := ⟨c / 3, by omega⟩
  rcases hq with rfl | rfl | rfl
  · rw [if_neg (by omega), pnCell_0, pnCell_0]
  · rw [if_neg (by omega), pnCell_1, pnCell_1]
  · rw [pnCell_2, pnCell_2]
    by_cases e : q = j
    · subst e; rw [if_pos rfl, if_pos rfl]
    · rw [if_neg (by omega), if_neg e]

end Go.Proofs.Ythcclkeeekppmaa

namespace Go.Proofs.Ythcclkeeekppmaa
open Go.RowKit Go.Deep
set_option linter.unusedVariables false
set_option maxRecDepth 100000

theorem and255 (x : Int) : 0 ≤ bits .and .i64 x 255 ∧ bits .and .i64 x 255 < 256 := by
  have h1 : (BitVec.ofInt 64 x &&& BitVec.ofInt 64 255).toNat ≤ 255 := by
    rw [BitVec.toNat_and]
    exact Nat.and_le_right
  show 0 ≤ IntKind.i64.wrap ((BitVec.ofInt 64 x &&& BitVec.ofInt 64 255).toNat : Int) ∧ IntKind.i64.wrap ((BitVec.ofInt 64 x &&& BitVec.ofInt 64 255).toNat : Int) < 256
  rw [IntKind.wrap_i64]
  omega
/-- The cells of a cursor. -/
def curCell (v : Value) (i h : Int) : Nat → Value := fun k => if k = 0 then v else if k = 1 then .int .i64 i else .int .i64 h
/-- A cursor over drawn bytes, in block g. -/
def Cur (w : World) (g : Nat) (v : Value) (i h : Int) : Prop := rowIn w g 97 3 (curCell v i h)
theorem Cur.cells {w : World} {g : Nat} {v : Value} {i h : Int} (k : Cur w g v i h) : w.cell? ⟨g, 0, none⟩ = some v ∧ w.cell? ⟨g, 1, none⟩ = some (.int .i64 i) ∧ w.cell? ⟨g, 2, none⟩ = some (.int .i64 h) ∧ (∀ o, w.frozen? ⟨g, o, none⟩ = false) ∧ g < w.heap.size :=
  ⟨by simpa [curCell] using rowIn.cell k (i := 0) (by omega), by simpa [curCell] using rowIn.cell k (i := 1) (by omega), by simpa [curCell] using rowIn.cell k (i := 2) (by omega), fun o => rowIn.frozen k o, rowIn.lt k⟩
theorem Cur.setH {w : World} {g : Nat} {v : Value} {i h : Int} (k : Cur w g v i h) (x : Int) : Cur (w.setCell ⟨g, 2, none⟩ (.int .i64 x)) g v i x :=
  (rowIn.set k 2 _).congr (fun j hj => by
    unfold curCell
    by_cases e : j = 2
    · subst e; simp
    · simp [e]
      by_cases e0 : j = 0
      · simp [e0]
      · have : j = 1 := by omega
        simp [this])
theorem Cur.setI {w : World} {g : Nat} {v : Value} {i h : Int} (k : Cur w g v i h) (x : Int) : Cur (w.setCell ⟨g, 1, none⟩ (.int .i64 x)) g v x h :=
  (rowIn.set k 1 _).congr (fun j hj => by
    unfold curCell
    by_cases e : j = 1
    · subst e; simp
    · simp [e])
theorem Cur.drew {w : World} {g : Nat} {v : Value} {i h : Int} (k : Cur w g v i h) (q : Nat) : Cur (w.drewN q) g v i h := k.of_block ((below_drewN (Below.refl _ w) q).block g (by exact k.lt))

/-- A cursor's steps: the next number, the byte drawn, the state behind it. -/
def bH (h : Int) : Int := wrap64 (wrap64 (h * 6364136223846793005) + 1442695040888963407)
def bX0 (h : Int) : Int := bits .and .i64 (bits .xor .i64 (h / 8589934592) (h / 35184372088832)) 255
def bX (f : Nat → Int) (n : Nat) (s : Nat × Int) : Int := if s.1 < n then bits .and .i64 (bX0 (bH s.2) + f s.1) 255 else bX0 (bH s.2)
def bS (n : Nat) (s : Nat × Int) : Nat × Int := (if s.1 < n then s.1 + 1 else s.1, bH s.2)
theorem bX_byte (f : Nat → Int) (n : Nat) (s : Nat × Int) : 0 ≤ bX f n s ∧ bX f n s < 256 := by
  unfold bX bX0
  split
  · exact and255 _
  · exact and255 _
/-- A cursor in a state, with its bytes. -/
structure DrX (w : World) (g : Nat) (b : Option Addr) (n c : Nat) (f : Nat → Int) (s : Nat × Int) : Prop where
  cur : Cur w g (.slice b n c) (s.1 : Int) s.2
  le : s.1 ≤ n
  rd : Rd .u8 w b n f
  ne : n ≠ 0 → ∀ x, b = some x → x.block ≠ g
  len : n ≤ 1048576
  range : ∀ j, j < n → 0 ≤ f j ∧ f j < 256
/-- What has turned: the cursor, and what is new. -/
theorem fr_only {g : Nat} {w w' : World} (h : OnlyAt (some ⟨g, 0, none⟩) w w') : w.grownBy w' (some g) :=
  ⟨h.os, h.tape, h.output, by rw [h.size]; exact Nat.le_refl _, fun b hb hne => h.block b (fun x e q => hne (by injection e with e; rw [← e] at q; rw [← q]))⟩
theorem rd_apart {k : IntKind} {w w' : World} {b : Option Addr} {n g : Nat} {f : Nat → Int} (h : Rd k w b n f) (hne : n ≠ 0 → ∀ x, b = some x → x.block ≠ g) (ho : w.grownBy w' (some g)) : Rd k w' b n f := by
  by_cases hz : n = 0
  · exact Or.inl hz
  rcases h with h0 | ⟨bb, o, rfl, hc⟩
  · exact Or.inl h0
  · have hlt := World.block_lt_of_cell? _ _ (hc 0 (by omega))
    exact Or.inr ⟨bb, o, rfl, fun i hi => (World.cell?_of_block (a := ⟨bb, o + i, none⟩) (ho.block bb hlt (fun e => by injection e with e; exact hne hz _ rfl e))).trans (hc i hi)⟩
theorem DrX.below {w w' : World} {g : Nat} {b : Option Addr} {n c : Nat} {f : Nat → Int} {s : Nat × Int} (h : DrX w g b n c f s) (hb : Below w.heap.size w w') : DrX w' g b n c f s :=
  ⟨h.cur.of_block (hb.block g (rowIn.lt h.cur)), h.le, h.rd.below hb, h.ne, h.len, h.range⟩
theorem DrX.lt {w : World} {g : Nat} {b : Option Addr} {n c : Nat} {f : Nat → Int} {s : Nat × Int} (h : DrX w g b n c f s) : g < w.heap.size := rowIn.lt h.cur
/-- A drawn value and the state behind it. -/
def DRet (g : Nat) (b : Option Addr) (n c : Nat) (f : Nat → Int) (v : Value) (s' : Nat × Int) (w : World) (e : Ending) (w' : World) : Prop := e = .returned v ∧ DrX w' g b n c f s' ∧ w.grownBy w' (some g)

set_option maxHeartbeats 1000000 in
theorem l1Byte_x {g : Nat} {b : Option Addr} {n c : Nat} {f : Nat → Int} {s : Nat × Int} {w : World} (h : DrX w g b n c f s) :
    Calls Try.prog 51 #[.pointer (some ⟨g, 0, none⟩)] w (DRet g b n c f (.int .i64 (bX f n s)) (bS n s) w) := by
  obtain ⟨i, hh⟩ := s
  obtain ⟨c0, c1, c2, cf, cl⟩ := h.cur.cells
  have hi : i ≤ n := h.le
  have hn := h.len
  have HD : Hid (DrX w g b n c f (i, hh)) := h
  clear h
  have c1' : w.cell? ⟨g, 1, none⟩ = some (.int .i64 (i : Int)) := c1
  have c2' : w.cell? ⟨g, 2, none⟩ = some (.int .i64 hh) := c2
  clear c1 c2
  go_enter Try.func51, Try.ntmps51
  go_upto_region 2 with fail
  have HH1 : Hid (∃ h1, h1 = bH hh) := ⟨_, rfl⟩
  obtain ⟨h1, hh1⟩ := HH1.out
  have HB : Hid (h1 = bH hh) := hh1
  have eb : wrap64 (wrap64 (hh * 6364136223846793005) + 1442695040888963407) = h1 := hh1.symm
  rw [eb]
  clear hh1 HH1 eb
  obtain ⟨w1, hw1⟩ : ∃ W, W = w.setCell ⟨g, 2, none⟩ (.int .i64 h1) := ⟨_, rfl⟩
  rw [← hw1]
  have C1 : Hid (Cur w1 g (.slice b n c) (i : Int) h1 ∧ OnlyAt (some ⟨g, 0, none⟩) w w1) := by rw [hw1]; exact ⟨HD.out.cur.setH h1, (OnlyAt.refl _ _).setCell 2 _⟩
  clear hw1 c0 c1' c2' cf cl
  obtain ⟨c0, c1, c2, cf, cl⟩ := C1.out.1.cells
  go_wp2_with fail
  go_quiet (fail)
  go_wp2_with fail
  obtain ⟨x, hx⟩ : ∃ x, x = bX0 h1 := ⟨_, rfl⟩
  have hx' : bits .and .i64 (bits .xor .i64 (h1 / 8589934592) (h1 / 35184372088832)) 255 = x := hx.symm
  rw [hx']
  have hxr : 0 ≤ x ∧ x < 256 := by rw [hx]; exact and255 _
  have HX0 : Hid (x = bX0 h1) := hx
  obtain ⟨hx0, hx1⟩ := hxr
  clear hx hx'
  by_cases hlt : i < n
  · obtain ⟨bb, o, eb, hcl⟩ : ∃ bb o, b = some ⟨bb, o, none⟩ ∧ ∀ i, i < n → w.cell? ⟨bb, o + i, none⟩ = some (.int .u8 (f i)) := by
      rcases HD.out.rd with h0 | ⟨bb, o, e, hcl⟩
      · omega
      · exact ⟨bb, o, e, hcl⟩
    subst eb
    have hbg : bb ≠ g := HD.out.ne (by omega) _ rfl
    have hcell : w1.cell? ⟨bb, o + i, none⟩ = some (.int .u8 (f i)) := (World.cell?_of_block (a := ⟨bb, o + i, none⟩) (C1.out.2.block bb (fun y e => by injection e with e; subst e; exact fun e => hbg e.symm))).trans (hcl i hlt)
    clear hcl
    have hfi := HD.out.range i hlt
    obtain ⟨fi, hfe⟩ : ∃ fi, fi = f i := ⟨_, rfl⟩
    have HFI : Hid (fi = f i) := hfe
    rw [← hfe] at hfi hcell
    obtain ⟨hf0, hf1⟩ := hfi
    clear hfe
    have ij : (i : Int) < (n : Int) := by omega
    have ij1 : (0 : Int) ≤ (i : Int) := by omega
    go_quiet (fail)
    go_wp2_with fail
    go_quiet (fail)
    have HX : Hid (∀ q, DRet g (some ⟨bb, o, none⟩) n c f (.int .i64 (bX f n (i, hh))) (bS n (i, hh)) w (.returned (.int .i64 (bits .and .i64 (x + fi) 255))) ((w1.drewN q).setCell ⟨g, 1, none⟩ (.int .i64 ((i : Int) + 1)))) := fun q => by
      have ho : w.grownBy ((w1.drewN q).setCell ⟨g, 1, none⟩ (.int .i64 ((i : Int) + 1))) (some g) := grownN_trans (grownN_trans (fr_only C1.out.2) (grownN_below (below_drewN (Below.refl _ _) q) _)) grownN_set
      refine ⟨?_, ⟨?_, ?_, rd_apart HD.out.rd HD.out.ne ho, HD.out.ne, HD.out.len, HD.out.range⟩, ho⟩
      · unfold bX
        rw [if_pos hlt, HX0.out, HFI.out, HB.out]
      · unfold bS
        rw [if_pos hlt, ← HB.out]
        show Cur _ g _ ((i + 1 : Nat) : Int) h1
        rw [Int.natCast_add]
        exact (C1.out.1.drew q).setI _
      · unfold bS
        rw [if_pos hlt]
        exact hlt
    go_wp2
    go_ret
    exact HX.out _
  · have HX : Hid (∀ q, DRet g b n c f (.int .i64 (bX f n (i, hh))) (bS n (i, hh)) w (.returned (.int .i64 x)) (w1.drewN q)) := fun q => by
      have ho : w.grownBy (w1.drewN q) (some g) := grownN_trans (fr_only C1.out.2) (grownN_below (below_drewN (Below.refl _ _) q) _)
      refine ⟨?_, ⟨?_, ?_, rd_apart HD.out.rd HD.out.ne ho, HD.out.ne, HD.out.len, HD.out.range⟩, ho⟩
      · unfold bX
        rw [if_neg hlt, HX0.out, HB.out]
      · unfold bS
        rw [if_neg hlt, ← HB.out]
        exact C1.out.1.drew q
      · unfold bS
        rw [if_neg hlt]
        exact hi
    have ij : ¬ (i : Int) < (n : Int) := by omega
    go_quiet (fail)
    go_wp2
    go_ret
    exact HX.out _
end Go.Proofs.Ythcclkeeekppmaa

namespace Go.Proofs.Ythcclkeeekppmaa
open Go.RowKit Go.Deep
set_option linter.unusedVariables false
set_option maxRecDepth 100000

/-- A number below k, and the state behind it. -/
def nBl (f : Nat → Int) (n : Nat) (k : Int) (s : Nat × Int) : Int := if k ≤ 256 then bX f n s % k else (bX f n s * 65536 + bX f n (bS n s) * 256 + bX f n (bS n (bS n s))) % k
def nS (n : Nat) (k : Int) (s : Nat × Int) : Nat × Int := if k ≤ 256 then bS n s else bS n (bS n (bS n s))
theorem nBl_range (f : Nat → Int) (n : Nat) {k : Int} (hk : 1 ≤ k) (s : Nat × Int) : 0 ≤ nBl f n k s ∧ nBl f n k s < k := by
  unfold nBl
  split
  · exact ⟨Int.emod_nonneg _ (by omega), Int.emod_lt_of_pos _ (by omega)⟩
  · exact ⟨Int.emod_nonneg _ (by omega), Int.emod_lt_of_pos _ (by omega)⟩
section
variable {g : Nat} {b : Option Addr} {n c : Nat} {f : Nat → Int} {s : Nat × Int} {w : World}
set_option maxHeartbeats 1000000 in
theorem l1Below_x (h : DrX w g b n c f s) (k : Int) (hk : 1 ≤ k) (hk2 : k ≤ 2147483647) :
    Calls Try.prog 21 #[.pointer (some ⟨g, 0, none⟩), .int .i64 k] w (DRet g b n c f (.int .i64 (nBl f n k s)) (nS n k s) w) := by
  have H : Hid (DrX w g b n c f s) := h
  have hk0 : ¬ k = 0 := by omega
  have hk0' : (k == 0) = false := by simp; omega
  clear h
  by_cases hs : k ≤ 256
  · have HV : Hid (nBl f n k s = bX f n s % k ∧ nS n k s = bS n s) := ⟨by unfold nBl; rw [if_pos hs], by unfold nS; rw [if_pos hs]⟩
    go_enter Try.func21, Try.ntmps21
    go_wp2_with fail
    refine (l1Byte_x H.out).mono ?_
    rintro e w1 ⟨rfl, hd, ho⟩
    have HX : Hid (DrX w1 g b n c f (bS n s) ∧ w.grownBy w1 (some g)) := ⟨hd, ho⟩
    obtain ⟨h0, h1⟩ := bX_byte f n s
    have HR : Hid (∀ y, y = bX f n s % k → DRet g b n c f (.int .i64 (nBl f n k s)) (nS n k s) w (.returned (.int .i64 y)) w1) := fun y hy => by
      subst hy
      exact ⟨by rw [HV.out.1], by rw [HV.out.2]; exact HX.out.1, HX.out.2⟩
    generalize bX f n s = x at *
    have hm : x.tmod k = x % k := Int.tmod_eq_emod_of_nonneg h0
    have hm0 : 0 ≤ x % k := Int.emod_nonneg x (by omega)
    have hm1 : x % k < k := Int.emod_lt_of_pos x (by omega)
    clear hd ho HV
    go_wp2
    go_ret
    exact HR.out _ rfl
  · have HV : Hid (nBl f n k s = (bX f n s * 65536 + bX f n (bS n s) * 256 + bX f n (bS n (bS n s))) % k ∧ nS n k s = bS n (bS n (bS n s))) := ⟨by unfold nBl; rw [if_neg hs], by unfold nS; rw [if_neg hs]⟩
    go_enter Try.func21, Try.ntmps21
    go_wp2_with fail
    refine (l1Byte_x H.out).mono ?_
    rintro e w1 ⟨rfl, hd1, ho1⟩
    have H1 : Hid (DrX w1 g b n c f (bS n s) ∧ w.grownBy w1 (some g)) := ⟨hd1, ho1⟩
    clear hd1 ho1
    go_wp2_with fail
    refine (l1Byte_x H1.out.1).mono ?_
    rintro e w2 ⟨rfl, hd2, ho2⟩
    have H2 : Hid (DrX w2 g b n c f (bS n (bS n s)) ∧ w.grownBy w2 (some g)) := ⟨hd2, grownN_trans H1.out.2 ho2⟩
    clear hd2 ho2 H1
    go_wp2_with fail
    refine (l1Byte_x H2.out.1).mono ?_
    rintro e w3 ⟨rfl, hd3, ho3⟩
    have H3 : Hid (DrX w3 g b n c f (bS n (bS n (bS n s))) ∧ w.grownBy w3 (some g)) := ⟨hd3, grownN_trans H2.out.2 ho3⟩
    clear hd3 ho3 H2
    obtain ⟨h0, h1⟩ := bX_byte f n s
    obtain ⟨h2, h3⟩ := bX_byte f n (bS n s)
    obtain ⟨h4, h5⟩ := bX_byte f n (bS n (bS n s))
    have HR : Hid (∀ y, y = (bX f n s * 65536 + bX f n (bS n s) * 256 + bX f n (bS n (bS n s))) % k → DRet g b n c f (.int .i64 (nBl f n k s)) (nS n k s) w (.returned (.int .i64 y)) w3) := fun y hy => by
      subst hy
      exact ⟨by rw [HV.out.1], by rw [HV.out.2]; exact H3.out.1, H3.out.2⟩
    generalize bX f n s = x at *
    generalize bX f n (bS n s) = y at *
    generalize bX f n (bS n (bS n s)) = z at *
    have hs0 : 0 ≤ x * 65536 + y * 256 + z := by omega
    have hm : (x * 65536 + y * 256 + z).tmod k = (x * 65536 + y * 256 + z) % k := Int.tmod_eq_emod_of_nonneg hs0
    have hm0 : 0 ≤ (x * 65536 + y * 256 + z) % k := Int.emod_nonneg _ (by omega)
    have hm1 : (x * 65536 + y * 256 + z) % k < k := Int.emod_lt_of_pos _ (by omega)
    clear HV
    go_wp2
    go_ret
    exact HR.out _ rfl
set_option maxHeartbeats 1000000 in
theorem l1Once_x (h : DrX w g b n c f s) (k : Int) (hk : 1 ≤ k) (hk2 : k ≤ 2147483647) :
    Calls Try.prog 23 #[.pointer (some ⟨g, 0, none⟩), .int .i64 k] w (DRet g b n c f (.bool (nBl f n k s == 0)) (nS n k s) w) := by
  have H : Hid (DrX w g b n c f s) := h
  clear h
  go_enter Try.func23, Try.ntmps23
  go_wp2_with fail
  refine (l1Below_x H.out k hk hk2).mono ?_
  rintro e w1 ⟨rfl, hd, ho⟩
  have HX : Hid (DrX w1 g b n c f (nS n k s) ∧ w.grownBy w1 (some g)) := ⟨hd, ho⟩
  clear hd ho
  generalize nBl f n k s = x at *
  go_wp2
  go_ret
  exact ⟨rfl, HX.out⟩
end
/-- Where a cursor begins. -/
def hN (f : Nat → Int) (n : Nat) : Nat → Int
  | 0 => 54321 + n
  | k + 1 => bits .and .i64 (wrap64 (wrap64 (wrap64 (hN f n k * 131) + f k) + 7)) 1073741823
theorem Cur.new (w : World) (v : Value) (i h : Int) : Cur (w.alloc (.cells #[v, .int .i64 i, .int .i64 h] 97)) w.heap.size v i h :=
  ⟨_, blk_alloc_new _ _, by simp, fun j hj => by
    match j, hj with
    | 0, _ => rfl
    | 1, _ => rfl
    | 2, _ => rfl⟩
theorem rd_blockLt {k : IntKind} {w : World} {b : Option Addr} {n : Nat} {f : Nat → Int} (h : Rd k w b n f) (hz : n ≠ 0) : ∀ x, b = some x → x.block < w.heap.size := by
  rcases h with h0 | ⟨bb, o, rfl, hc⟩
  · exact absurd h0 hz
  · intro x e
    injection e with e
    subst e
    exact World.block_lt_of_cell? _ _ (hc 0 (by omega))
set_option maxHeartbeats 1000000 in
theorem l1New_x (b : Option Addr) (n c : Nat) (f : Nat → Int) (w : World) (hrd : Rd .u8 w b n f) (hn : n ≤ 1048576) (hf : ∀ j, j < n → 0 ≤ f j ∧ f j < 256) :
    Calls Try.prog 19 #[.slice b n c] w fun e w' => e = .returned (.pointer (some ⟨w.heap.size, 0, none⟩)) ∧ DrX w' w.heap.size b n c f (0, hN f n n) ∧ Below w.heap.size w w' := by
  have HRD : Hid (Rd .u8 w b n f) := hrd
  have HF : Hid (∀ j, j < n → 0 ≤ f j ∧ f j < 256) := hf
  clear hrd hf
  go_enter Try.func19, Try.ntmps19
  go_wp2
  go_loopw [3, 4] (fun h i wr => ∃ (k : Nat) (y : Int), k ≤ n ∧ i = .int .i64 k ∧ h = .int .i64 y ∧ y = hN f n k ∧ wr = w) (fun _ i _ => n - (intOf i).toNat)
  case atStart => exact ⟨0, _, Nat.zero_le _, rfl, rfl, rfl, rfl⟩
  case round =>
    obtain ⟨k, y, hk, rfl, rfl, hy, rfl⟩ := hrel
    have HY : Hid (y = hN f n k) := hy
    clear hy
    by_cases hlt : k < n
    · obtain ⟨bb, o, hb, hc⟩ : ∃ bb o, b = some ⟨bb, o, none⟩ ∧ ∀ i, i < n → wr.cell? ⟨bb, o + i, none⟩ = some (.int .u8 (f i)) := by
        rcases HRD.out with h0 | ⟨bb, o, hb, hc⟩
        · omega
        · exact ⟨bb, o, hb, hc⟩
      subst hb
      have hcell := hc k hlt
      obtain ⟨hf0, hf1⟩ := HF.out k hlt
      clear hc
      obtain ⟨fk, hfk⟩ : ∃ fk, fk = f k := ⟨_, rfl⟩
      have HFK : Hid (fk = f k) := hfk
      rw [← hfk] at hcell hf0 hf1
      clear hfk
      go_wp2
      go_roundw
      case rel => exact ⟨k + 1, _, by omega, by go_num, rfl, by show _ = bits .and .i64 (wrap64 (wrap64 (wrap64 (hN f n k * 131) + f k) + 7)) 1073741823; rw [← HY.out, ← HFK.out], trivial⟩
      case measure => simp [intOf]; omega
    · have e : k = n := by omega
      subst e
      have HE : Hid (DrX (wr.alloc (.cells #[.slice b k c, .int .i64 0, .int .i64 y] 97)) wr.heap.size b k c f (0, hN f k k)) := by
        show DrX _ _ _ _ _ _ _
        rw [← HY.out]
        exact ⟨Cur.new _ _ _ _, Nat.zero_le _, HRD.out.below (below_alloc _ _), fun hz x e => Nat.ne_of_lt (rd_blockLt HRD.out hz x e), hn, HF.out⟩
      go_wp2
      go_ret
      exact ⟨rfl, HE.out, below_alloc _ _⟩
end Go.Proofs.Ythcclkeeekppmaa

namespace Go.Proofs.Ythcclkeeekppmaa

/-- The first place from j on at which p does not hold of the text; n at most. -/
def runL (p : Int → Bool) (f : Nat → Int) (n : Nat) : Nat → Nat → Nat
  | 0, j => j
  | g + 1, j => if j < n ∧ p (f j) = true then runL p f n g (j + 1) else j
def endF (p : Int → Bool) (f : Nat → Int) (n j : Nat) : Nat := runL p f n (n - j) j

/-- A blank; a letter. -/
def isSp (b : Int) : Bool := decide (b = 32)
def isLt (b : Int) : Bool := decide (97 ≤ b ∧ b ≤ 122)
/-- What a byte is worth as a digit to sixteen; -1 if it is none. -/
def hxV (b : Int) : Int := if 48 ≤ b ∧ b ≤ 57 then b - 48 else if 97 ≤ b ∧ b ≤ 102 then b - 87 else -1
/-- The byte for which the piece at j stands, and its length. -/
def pcB (f : Nat → Int) (n j : Nat) : Option (Int × Nat) :=
  if f j = 92 then
    if j + 1 < n ∧ (f (j + 1) = 34 ∨ f (j + 1) = 92) then some (f (j + 1), 2)
    else if j + 3 < n ∧ f (j + 1) = 120 ∧ 0 ≤ hxV (f (j + 2)) ∧ 0 ≤ hxV (f (j + 3)) then some (16 * hxV (f (j + 2)) + hxV (f (j + 3)), 4)
    else none
  else if 32 ≤ f j ∧ f j ≤ 126 then some (f j, 1) else none
/-- What stands between the signs of quotation, from j on, q having been read; and the place behind it. -/
def quo (f : Nat → Int) (n : Nat) : Nat → Nat → List Int → Option (List Int × Nat)
  | 0, _, _ => none
  | g + 1, j, q =>
    if j < n ∧ f j ≠ 34 then
      match pcB f n j with
      | none => none
      | some cl => quo f n g (j + cl.2) (q ++ [cl.1])
    else if j < n ∧ 1 ≤ q.length ∧ q.length ≤ 30 then some (q, j + 1) else none
def quoF (f : Nat → Int) (n j : Nat) (q : List Int) : Option (List Int × Nat) := quo f n (n + 1 - j) j q
/-- The bytes from i up to j. -/
def seg (f : Nat → Int) (i j : Nat) : List Int := (List.range (j - i)).map (fun k => f (i + k))
/-- The number of a word; of a sign. 1 to 9 are the kinds of nodes. -/
def cdW (q : List Int) : Nat :=
  if q = [97, 108, 108] then 1 else if q = [118] then 2 else if q = [111, 117, 116] then 3 else if q = [105, 110] then 4 else if q = [104, 97, 115] then 5 else if q = [103, 114, 97, 112, 104] then 9 else 0
def cdS (b : Int) : Nat :=
  if b = 38 then 6 else if b = 124 then 7 else if b = 45 then 8 else if b = 46 then 10 else if b = 40 then 11 else if b = 41 then 12 else if b = 44 then 13 else 0

/-- A token: its number (14 a string, 15 the end, 0 none), what is in it, the place behind it. -/
structure Tok where
  c : Nat
  q : List Int
  e : Nat
/-- The token that begins at p, which is no blank. -/
def tkA (f : Nat → Int) (n p : Nat) : Tok :=
  if n ≤ p then ⟨15, [], p⟩
  else if f p = 34 then
    match quoF f n (p + 1) [] with
    | none => ⟨0, [], p⟩
    | some qk => ⟨14, qk.1, qk.2⟩
  else if isLt (f p) = true then
    if cdW (seg f p (endF isLt f n p)) = 0 then ⟨0, [], p⟩ else ⟨cdW (seg f p (endF isLt f n p)), [], endF isLt f n p⟩
  else if cdS (f p) = 0 then ⟨0, [], p⟩ else ⟨cdS (f p), [], p + 1⟩

/-- Where the k-th token begins. -/
def tkPos (f : Nat → Int) (n : Nat) : Nat → Nat
  | 0 => endF isSp f n 0
  | k + 1 => endF isSp f n (tkA f n (tkPos f n k)).e
def tkF (f : Nat → Int) (n k : Nat) : Tok := tkA f n (tkPos f n k)

end Go.Proofs.Ythcclkeeekppmaa

namespace Go.Proofs.Ythcclkeeekppmaa

/-- A node as it is told: its kind, its two texts. -/
structure Nd where
  k : Nat
  s : List Int
  t : List Int
/-- What is open or waits. -/
structure Ent where
  k : Nat
  l : List Int
/-- Where the parser stands: its error and the error's place, its token, how many nodes it has made, the last string. -/
structure Pr where
  er : Int
  at_ : Int
  i : Nat
  nd : Nat
  got : List Int

section
variable (T : Nat → Tok) (A : Nat → Nat)

def failP (p : Pr) (e : Int) : Pr := if p.er ≠ 0 then p else { p with er := if (T p.i).c = 0 then 2 else e, at_ := A p.i }
def isP (p : Pr) (c : Nat) : Prop := p.er = 0 ∧ (T p.i).c = c
def symP (p : Pr) (c : Nat) : Pr := if p.er = 0 ∧ (T p.i).c = c then { p with i := p.i + 1 } else failP T A p 3
def strP (p : Pr) : Pr := if p.er = 0 ∧ (T p.i).c = 14 then { p with got := (T p.i).q, i := p.i + 1 } else failP T A p 3
def mkP (p : Pr) : Pr := if p.nd = 100 then failP T A p 4 else { p with nd := p.nd + 1, i := p.i + 1 }

/-- How strong an operator is. -/
def stg (k : Nat) : Nat := if k = 6 then 2 else if k = 7 ∨ k = 8 then 1 else 0
/-- Those that wait and are at least so strong are written out. -/
def drn (least : Nat) : List Ent → List Nd → List Ent × List Nd
  | [], o => ([], o)
  | x :: st, o => if least ≤ stg x.k then drn least st (o ++ [⟨x.k, [], []⟩]) else (x :: st, o)

def stepK (p : Pr) : Nat := if p.er = 0 ∧ (T p.i).c = 4 then 4 else if p.er = 0 ∧ (T p.i).c = 5 then 5 else 3
/-- The step behind a point, from its name on. -/
def stepQ (p : Pr) : Pr × Nd :=
  if stepK T p = 3 ∧ ¬ (p.er = 0 ∧ (T p.i).c = 3) then (failP T A p 3, ⟨3, [], []⟩)
  else if stepK T p = 5 then
    (symP T A (strP T A (symP T A (strP T A (symP T A (mkP T A p) 11)) 13)) 12, ⟨5, (strP T A (symP T A (mkP T A p) 11)).got, (strP T A (symP T A (strP T A (symP T A (mkP T A p) 11)) 13)).got⟩)
  else (symP T A (strP T A (symP T A (mkP T A p) 11)) 12, ⟨stepK T p, (strP T A (symP T A (mkP T A p) 11)).got, []⟩)
/-- The step behind a point. -/
def stepP (p : Pr) : Pr × Nd := stepQ T A { p with i := p.i + 1 }

/-- The machine: the parser, what is written, what waits, whether an operand is wanted, whether it is done. -/
structure Mc where
  p : Pr
  o : List Nd
  st : List Ent
  wt : Bool
  fin : Bool

def bodyM (s : Mc) : Mc :=
  let c := (T s.p.i).c
  if s.wt = true then
    if c = 1 then { s with p := mkP T A s.p, o := s.o ++ [⟨1, [], []⟩], wt := false }
    else if c = 2 then
      let p := symP T A (strP T A (symP T A (mkP T A s.p) 11)) 12
      { s with p := p, o := s.o ++ [⟨2, p.got, []⟩], wt := false }
    else if c = 9 then
      let p := symP T A (strP T A (mkP T A s.p)) 11
      { s with p := p, st := ⟨9, p.got⟩ :: s.st }
    else if c = 11 then { s with p := { s.p with i := s.p.i + 1 }, st := ⟨0, []⟩ :: s.st }
    else { s with p := failP T A s.p 3 }
  else if c = 10 then { s with p := (stepP T A s.p).1, o := s.o ++ [(stepP T A s.p).2] }
  else if 6 ≤ c ∧ c ≤ 8 then
    { s with p := mkP T A s.p, o := (drn (stg c) s.st s.o).2, st := ⟨c, []⟩ :: (drn (stg c) s.st s.o).1, wt := true }
  else
    match drn 1 s.st s.o with
    | ([], o) => if c = 15 then { s with o := o, st := [], fin := true } else { s with p := failP T A s.p 3, o := o, st := [] }
    | (x :: st, o) =>
      if c = 12 then { s with p := { s.p with i := s.p.i + 1 }, o := if x.k = 9 then o ++ [⟨9, x.l, []⟩] else o, st := st }
      else { s with p := failP T A s.p 3, o := o, st := x :: st }

def goM (s : Mc) : Mc := if s.p.er ≠ 0 ∨ s.fin = true then s else bodyM T A s
def itr : Nat → Mc → Mc
  | 0, s => s
  | k + 1, s => itr k (goM T A s)
def Rch (s t : Mc) : Prop := ∃ k, itr T A k s = t
def Term (s : Mc) : Prop := s.p.er ≠ 0 ∨ s.fin = true

theorem Rch.refl (s : Mc) : Rch T A s s := ⟨0, rfl⟩
theorem itr_add : ∀ (a b : Nat) (s : Mc), itr T A (a + b) s = itr T A b (itr T A a s)
  | 0, b, s => by rw [Nat.zero_add]; rfl
  | a + 1, b, s => by
    rw [show a + 1 + b = (a + b) + 1 by omega]
    show itr T A (a + b) (goM T A s) = itr T A b (itr T A a (goM T A s))
    exact itr_add a b _
variable {T A}
theorem Rch.trans {s t u : Mc} (h : Rch T A s t) (k : Rch T A t u) : Rch T A s u := by
  obtain ⟨a, rfl⟩ := h
  obtain ⟨b, rfl⟩ := k
  exact ⟨a + b, itr_add T A a b s⟩
theorem Rch.one {s t : Mc} (h0 : s.p.er = 0) (h1 : s.fin = false) (h : bodyM T A s = t) : Rch T A s t := by
  refine ⟨1, ?_⟩
  show goM T A s = t
  unfold goM
  rw [if_neg (by rw [h0, h1]; simp)]
  exact h
theorem itr_term {s : Mc} (h : Term s) : ∀ k, itr T A k s = s
  | 0 => rfl
  | k + 1 => by
    have e : goM T A s = s := if_pos h
    show itr T A k (goM T A s) = s
    rw [e]; exact itr_term h k
/-- Two ends of one run are one. -/
theorem Rch.same {s t u : Mc} (h : Rch T A s t) (k : Rch T A s u) (ht : Term t) (hu : Term u) : t = u := by
  obtain ⟨a, rfl⟩ := h
  obtain ⟨b, rfl⟩ := k
  have h1 := itr_add T A a b s
  have h2 := itr_add T A b a s
  rw [itr_term ht] at h1
  rw [itr_term hu] at h2
  rw [← h1, ← h2, Nat.add_comm]

/-- The reader's state: good (token, nodes made, nodes), or its error. -/
def nrm (T : Nat → Tok) (A : Nat → Nat) (i nd : Nat) (N : List Nd) : (Nat × Nat × List Nd) ⊕ (Int × Int) :=
  if (T i).c = 0 then .inr (2, (A i : Int)) else .inl (i, nd, N)
/-- The reader takes a token of this number. -/
def tkP (T : Nat → Tok) (A : Nat → Nat) (c : Nat) : (Nat × Nat × List Nd) ⊕ (Int × Int) → (Nat × Nat × List Nd) ⊕ (Int × Int)
  | .inr x => .inr x
  | .inl s =>
    if (T s.1).c = c then
      if 1 ≤ c ∧ c ≤ 9 then (if s.2.1 = 100 then .inr (4, (A s.1 : Int)) else nrm T A (s.1 + 1) (s.2.1 + 1) s.2.2)
      else nrm T A (s.1 + 1) s.2.1 s.2.2
    else .inr (3, (A s.1 : Int))
def emP (x : Nd) : (Nat × Nat × List Nd) ⊕ (Int × Int) → (Nat × Nat × List Nd) ⊕ (Int × Int)
  | .inr x => .inr x
  | .inl s => .inl (s.1, s.2.1, s.2.2 ++ [x])

/-- The machine's parser stands where the reader stands. -/
def RP (T : Nat → Tok) (A : Nat → Nat) (p : Pr) : (Nat × Nat × List Nd) ⊕ (Int × Int) → Prop
  | .inl s => p.er = 0 ∧ p.i = s.1 ∧ p.nd = s.2.1 ∧ (T s.1).c ≠ 0
  | .inr x => x.1 ≠ 0 ∧ ((p.er = x.1 ∧ p.at_ = x.2) ∨ (p.er = 0 ∧ (T p.i).c = 0 ∧ x.1 = 2 ∧ x.2 = (A p.i : Int)))

end
end Go.Proofs.Ythcclkeeekppmaa

namespace Go.Proofs.Ythcclkeeekppmaa

def arN (k : Nat) : Nat := if k ≤ 2 then 0 else if 6 ≤ k ∧ k ≤ 8 then 2 else 1
/-- How many stand open behind these nodes, s having stood open ahead of them. -/
def runD : List Nd → Nat → Option Nat
  | [], s => some s
  | x :: l, s => if arN x.k ≤ s then runD l (s - arN x.k + 1) else none
theorem runD_app : ∀ (a b : List Nd) (s : Nat), runD (a ++ b) s = (runD a s).bind (runD b)
  | [], b, s => rfl
  | x :: a, b, s => by
    show (if arN x.k ≤ s then runD (a ++ b) (s - arN x.k + 1) else none) = (if arN x.k ≤ s then runD a (s - arN x.k + 1) else none).bind (runD b)
    split
    · exact runD_app a b _
    · rfl
/-- The nodes are one tree. -/
def Tr (d : List Nd) : Prop := ∀ s, runD d s = some (s + 1)
theorem tr_one {d : List Nd} {x : Nd} (hd : Tr d) (h : arN x.k = 1) : Tr (d ++ [x]) := fun s => by
  rw [runD_app, hd s]
  show (if arN x.k ≤ s + 1 then some (s + 1 - arN x.k + 1) else none) = _
  rw [h, if_pos (by omega)]; rfl
theorem tr_two {d e : List Nd} {x : Nd} (hd : Tr d) (he : Tr e) (h : arN x.k = 2) : Tr (d ++ e ++ [x]) := fun s => by
  rw [runD_app, runD_app, hd s]
  show ((runD e (s + 1))).bind (runD [x]) = _
  rw [he (s + 1)]
  show (if arN x.k ≤ s + 1 + 1 then some (s + 1 + 1 - arN x.k + 1) else none) = _
  rw [h, if_pos (by omega)]
  show some (s + 1 + 1 - 2 + 1) = _
  rw [show s + 1 + 1 - 2 + 1 = s + 1 by omega]

def txL (q : List Int) : Prop := 1 ≤ q.length ∧ q.length ≤ 30 ∧ ∀ x, x ∈ q → 0 ≤ x ∧ x < 256
/-- The node is good. -/
def gdN (x : Nd) : Prop :=
  (1 ≤ x.k ∧ x.k ≤ 9) ∧ (x.k = 1 ∨ x.k = 6 ∨ x.k = 7 ∨ x.k = 8 → x.s = [] ∧ x.t = []) ∧ (x.k = 2 ∨ x.k = 3 ∨ x.k = 4 ∨ x.k = 9 → txL x.s ∧ x.t = []) ∧ (x.k = 5 → txL x.s ∧ txL x.t)

def topS : List Ent → Nat
  | [] => 0
  | x :: _ => stg x.k
def ndE (x : Ent) : Nd := ⟨x.k, [], []⟩
def stopC (u c : Nat) : Prop := (u ≤ 3 → c ≠ 10) ∧ (u ≤ 2 → c ≠ 6) ∧ (u ≤ 1 → c ≠ 7 ∧ c ≠ 8)

section
variable (T : Nat → Tok) (A : Nat → Nat)
/-- What the reader has made from (i, nd, N) on, wanting an operand, the machine makes too: all that waits on top is at least s strong; the next token doesn't go on at the level u. -/
def PC (s u i nd : Nat) (N : List Nd) : (Nat × Nat × List Nd) ⊕ (Int × Int) → Prop
  | .inr x => x.1 ≠ 0 ∧ ∀ (p : Pr) o st, p.er = 0 → p.i = i → p.nd = nd → topS st < s → ∃ t, Rch T A ⟨p, o, st, true, false⟩ t ∧ t.p.er = x.1 ∧ t.p.at_ = x.2
  | .inl r => ∃ d, r.2.2 = N ++ d ∧ Tr d ∧ (∀ x, x ∈ d → gdN x) ∧ r.2.1 = nd + d.length ∧ r.2.1 ≤ 100 ∧ i < r.1 ∧ (T r.1).c ≠ 0 ∧ stopC u (T r.1).c ∧
      ∀ (p : Pr) o st, p.er = 0 → p.i = i → p.nd = nd → topS st < s → ∃ (p' : Pr) (o1 : List Nd) (pend : List Ent), p'.er = 0 ∧ p'.i = r.1 ∧ p'.nd = r.2.1 ∧ o1 ++ pend.map ndE = o ++ d ∧ (∀ x, x ∈ pend → s ≤ stg x.k) ∧
        Rch T A ⟨p, o, st, true, false⟩ ⟨p', o1, pend ++ st, false, false⟩
variable {T A}

theorem PC.up {s s' u i nd : Nat} {N : List Nd} {σ : (Nat × Nat × List Nd) ⊕ (Int × Int)} (h : PC T A s u i nd N σ) (hs : s' ≤ s) : PC T A s' u i nd N σ := by
  cases σ with
  | inr x => exact ⟨h.1, fun p o st h1 h2 h3 h4 => h.2 p o st h1 h2 h3 (by omega)⟩
  | inl r =>
    obtain ⟨d, h1, h2, h3, h4, h5, h6, h7, h8, h9⟩ := h
    refine ⟨d, h1, h2, h3, h4, h5, h6, h7, h8, fun p o st k1 k2 k3 k4 => ?_⟩
    obtain ⟨p', o1, pend, e1, e2, e3, e4, e5, e6⟩ := h9 p o st k1 k2 k3 (by omega)
    exact ⟨p', o1, pend, e1, e2, e3, e4, fun x hx => by have := e5 x hx; omega, e6⟩
end
end Go.Proofs.Ythcclkeeekppmaa
