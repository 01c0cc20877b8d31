import Derived.Test.YtocmbnocdjnfpaaOwn
import Derived.Test.YtocmbnocdjnfpaaPpX
import Derived.ChangeKeysEq
import Derived.Handy
import Derived.BigQuiet
import Derived.Deep.CutBlock
import Derived.Test.YtocmbnocdjnfpaaQbC
import Derived.Test.YtocmbnocdjnfpaaPaG
import Derived.Test.YtocmbnocdjnfpaaLate
import Derived.Laws.BytesArg
import Derived.Test.YtocmbnocdjnfpaaQbD
import Derived.Test.YtocmbnocdjnfpaaQaD
namespace Go.Proofs.Ytocmbnocdjnfpaa
open Go.RowKit Go.Deep
set_option linter.unusedVariables false
set_option maxRecDepth 100000

theorem and255 (x : Int) : 0 ≤ bits .and .i64 x 255 ∧ bits .and .i64 x 255 < 256 := by
  have h1 : (BitVec.ofInt 64 x &&& BitVec.ofInt 64 255).toNat ≤ 255 := by
    rw [BitVec.toNat_and]
    exact Nat.and_le_right
  show 0 ≤ IntKind.i64.wrap ((BitVec.ofInt 64 x &&& BitVec.ofInt 64 255).toNat : Int) ∧ IntKind.i64.wrap ((BitVec.ofInt 64 x &&& BitVec.ofInt 64 255).toNat : Int) < 256
  rw [IntKind.wrap_i64]
  omega
/-- The cells of a cursor. -/
def curCell (v : Value) (i h : Int) : Nat → Value := fun k => if k = 0 then v else if k = 1 then .int .i64 i else .int .i64 h
/-- A cursor over drawn bytes, in block g. -/
def Cur (w : World) (g : Nat) (v : Value) (i h : Int) : Prop := rowIn w g 135 3 (curCell v i h)
theorem Cur.cells {w : World} {g : Nat} {v : Value} {i h : Int} (k : Cur w g v i h) : w.cell? ⟨g, 0, none⟩ = some v ∧ w.cell? ⟨g, 1, none⟩ = some (.int .i64 i) ∧ w.cell? ⟨g, 2, none⟩ = some (.int .i64 h) ∧ (∀ o, w.frozen? ⟨g, o, none⟩ = false) ∧ g < w.heap.size :=
  ⟨by simpa [curCell] using rowIn.cell k (i := 0) (by omega), by simpa [curCell] using rowIn.cell k (i := 1) (by omega), by simpa [curCell] using rowIn.cell k (i := 2) (by omega), fun o => rowIn.frozen k o, rowIn.lt k⟩
theorem Cur.setH {w : World} {g : Nat} {v : Value} {i h : Int} (k : Cur w g v i h) (x : Int) : Cur (w.setCell ⟨g, 2, none⟩ (.int .i64 x)) g v i x :=
  (rowIn.set k 2 _).congr (fun j hj => by
    unfold curCell
    by_cases e : j = 2
    · subst e; simp
    · simp [e]
      by_cases e0 : j = 0
      · simp [e0]
      · have : j = 1 := by omega
        simp [this])
theorem Cur.setI {w : World} {g : Nat} {v : Value} {i h : Int} (k : Cur w g v i h) (x : Int) : Cur (w.setCell ⟨g, 1, none⟩ (.int .i64 x)) g v x h :=
  (rowIn.set k 1 _).congr (fun j hj => by
    unfold curCell
    by_cases e : j = 1
    · subst e; simp
    · simp [e])
theorem Cur.drew {w : World} {g : Nat} {v : Value} {i h : Int} (k : Cur w g v i h) (q : Nat) : Cur (w.drewN q) g v i h := k.of_block ((below_drewN (Below.refl _ w) q).block g (by exact k.lt))

/-- A cursor's steps: the next number, the byte drawn, the state behind it. -/
def bH (h : Int) : Int := wrap64 (wrap64 (h * 6364136223846793005) + 1442695040888963407)
def bX0 (h : Int) : Int := bits .and .i64 (bits .xor .i64 (h / 8589934592) (h / 35184372088832)) 255
def bX (f : Nat → Int) (n : Nat) (s : Nat × Int) : Int := if s.1 < n then bits .and .i64 (bX0 (bH s.2) + f s.1) 255 else bX0 (bH s.2)
def bS (n : Nat) (s : Nat × Int) : Nat × Int := (if s.1 < n then s.1 + 1 else s.1, bH s.2)
theorem bX_byte (f : Nat → Int) (n : Nat) (s : Nat × Int) : 0 ≤ bX f n s ∧ bX f n s < 256 := by
  unfold bX bX0
  split
  · exact and255 _
  · exact and255 _
/-- A cursor in a state, with its bytes. -/
structure DrX (w : World) (g : Nat) (b : Option Addr) (n c : Nat) (f : Nat → Int) (s : Nat × Int) : Prop where
  cur : Cur w g (.slice b n c) (s.1 : Int) s.2
  le : s.1 ≤ n
  rd : Rd .u8 w b n f
  ne : n ≠ 0 → ∀ x, b = some x → x.block ≠ g
  len : n ≤ 1048576
  range : ∀ j, j < n → 0 ≤ f j ∧ f j < 256
/-- What has turned: the cursor, and what is new. -/
theorem fr_only {g : Nat} {w w' : World} (h : OnlyAt (some ⟨g, 0, none⟩) w w') : w.grownBy w' (some g) :=
  ⟨h.os, h.tape, h.output, by rw [h.size]; exact Nat.le_refl _, fun b hb hne => h.block b (fun x e q => hne (by injection e with e; rw [← e] at q; rw [← q]))⟩
theorem rd_apart {k : IntKind} {w w' : World} {b : Option Addr} {n g : Nat} {f : Nat → Int} (h : Rd k w b n f) (hne : n ≠ 0 → ∀ x, b = some x → x.block ≠ g) (ho : w.grownBy w' (some g)) : Rd k w' b n f := by
  by_cases hz : n = 0
  · exact Or.inl hz
  rcases h with h0 | ⟨bb, o, rfl, hc⟩
  · exact Or.inl h0
  · have hlt := World.block_lt_of_cell? _ _ (hc 0 (by omega))
    exact Or.inr ⟨bb, o, rfl, fun i hi => (World.cell?_of_block (a := ⟨bb, o + i, none⟩) (ho.block bb hlt (fun e => by injection e with e; exact hne hz _ rfl e))).trans (hc i hi)⟩
theorem DrX.below {w w' : World} {g : Nat} {b : Option Addr} {n c : Nat} {f : Nat → Int} {s : Nat × Int} (h : DrX w g b n c f s) (hb : Below w.heap.size w w') : DrX w' g b n c f s :=
  ⟨h.cur.of_block (hb.block g (rowIn.lt h.cur)), h.le, h.rd.below hb, h.ne, h.len, h.range⟩
theorem DrX.lt {w : World} {g : Nat} {b : Option Addr} {n c : Nat} {f : Nat → Int} {s : Nat × Int} (h : DrX w g b n c f s) : g < w.heap.size := rowIn.lt h.cur
/-- A drawn value and the state behind it. -/
def DRet (g : Nat) (b : Option Addr) (n c : Nat) (f : Nat → Int) (v : Value) (s' : Nat × Int) (w : World) (e : Ending) (w' : World) : Prop := e = .returned v ∧ DrX w' g b n c f s' ∧ w.grownBy w' (some g)

set_option maxHeartbeats 1000000 in
theorem l1Byte_x {g : Nat} {b : Option Addr} {n c : Nat} {f : Nat → Int} {s : Nat × Int} {w : World} (h : DrX w g b n c f s) :
    Calls Try.prog 122 #[.pointer (some ⟨g, 0, none⟩)] w (DRet g b n c f (.int .i64 (bX f n s)) (bS n s) w) := by
  obtain ⟨i, hh⟩ := s
  obtain ⟨c0, c1, c2, cf, cl⟩ := h.cur.cells
  have hi : i ≤ n := h.le
  have hn := h.len
  have HD : Hid (DrX w g b n c f (i, hh)) := h
  clear h
  have c1' : w.cell? ⟨g, 1, none⟩ = some (.int .i64 (i : Int)) := c1
  have c2' : w.cell? ⟨g, 2, none⟩ = some (.int .i64 hh) := c2
  clear c1 c2
  go_enter Try.func122, Try.ntmps122
  go_upto_region 2 with fail
  have HH1 : Hid (∃ h1, h1 = bH hh) := ⟨_, rfl⟩
  obtain ⟨h1, hh1⟩ := HH1.out
  have HB : Hid (h1 = bH hh) := hh1
  have eb : wrap64 (wrap64 (hh * 6364136223846793005) + 1442695040888963407) = h1 := hh1.symm
  rw [eb]
  clear hh1 HH1 eb
  obtain ⟨w1, hw1⟩ : ∃ W, W = w.setCell ⟨g, 2, none⟩ (.int .i64 h1) := ⟨_, rfl⟩
  rw [← hw1]
  have C1 : Hid (Cur w1 g (.slice b n c) (i : Int) h1 ∧ OnlyAt (some ⟨g, 0, none⟩) w w1) := by rw [hw1]; exact ⟨HD.out.cur.setH h1, (OnlyAt.refl _ _).setCell 2 _⟩
  clear hw1 c0 c1' c2' cf cl
  obtain ⟨c0, c1, c2, cf, cl⟩ := C1.out.1.cells
  go_wp2_with fail
  go_quiet (fail)
  go_wp2_with fail
  obtain ⟨x, hx⟩ : ∃ x, x = bX0 h1 := ⟨_, rfl⟩
  have hx' : bits .and .i64 (bits .xor .i64 (h1 / 8589934592) (h1 / 35184372088832)) 255 = x := hx.symm
  rw [hx']
  have hxr : 0 ≤ x ∧ x < 256 := by rw [hx]; exact and255 _
  have HX0 : Hid (x = bX0 h1) := hx
  obtain ⟨hx0, hx1⟩ := hxr
  clear hx hx'
  by_cases hlt : i < n
  · obtain ⟨bb, o, eb, hcl⟩ : ∃ bb o, b = some ⟨bb, o, none⟩ ∧ ∀ i, i < n → w.cell? ⟨bb, o + i, none⟩ = some (.int .u8 (f i)) := by
      rcases HD.out.rd with h0 | ⟨bb, o, e, hcl⟩
      · omega
      · exact ⟨bb, o, e, hcl⟩
    subst eb
    have hbg : bb ≠ g := HD.out.ne (by omega) _ rfl
    have hcell : w1.cell? ⟨bb, o + i, none⟩ = some (.int .u8 (f i)) := (World.cell?_of_block (a := ⟨bb, o + i, none⟩) (C1.out.2.block bb (fun y e => by injection e with e; subst e; exact fun e => hbg e.symm))).trans (hcl i hlt)
    clear hcl
    have hfi := HD.out.range i hlt
    obtain ⟨fi, hfe⟩ : ∃ fi, fi = f i := ⟨_, rfl⟩
    have HFI : Hid (fi = f i) := hfe
    rw [← hfe] at hfi hcell
    obtain ⟨hf0, hf1⟩ := hfi
    clear hfe
    have ij : (i : Int) < (n : Int) := by omega
    have ij1 : (0 : Int) ≤ (i : Int) := by omega
    go_quiet (fail)
    go_wp2_with fail
    go_quiet (fail)
    have HX : Hid (∀ q, DRet g (some ⟨bb, o, none⟩) n c f (.int .i64 (bX f n (i, hh))) (bS n (i, hh)) w (.returned (.int .i64 (bits .and .i64 (x + fi) 255))) ((w1.drewN q).setCell ⟨g, 1, none⟩ (.int .i64 ((i : Int) + 1)))) := fun q => by
      have ho : w.grownBy ((w1.drewN q).setCell ⟨g, 1, none⟩ (.int .i64 ((i : Int) + 1))) (some g) := grownN_trans (grownN_trans (fr_only C1.out.2) (grownN_below (below_drewN (Below.refl _ _) q) _)) grownN_set
      refine ⟨?_, ⟨?_, ?_, rd_apart HD.out.rd HD.out.ne ho, HD.out.ne, HD.out.len, HD.out.range⟩, ho⟩
      · unfold bX
        rw [if_pos hlt, HX0.out, HFI.out, HB.out]
      · unfold bS
        rw [if_pos hlt, ← HB.out]
        show Cur _ g _ ((i + 1 : Nat) : Int) h1
        rw [Int.natCast_add]
        exact (C1.out.1.drew q).setI _
      · unfold bS
        rw [if_pos hlt]
        exact hlt
    go_wp2
    go_ret
    exact HX.out _
  · have HX : Hid (∀ q, DRet g b n c f (.int .i64 (bX f n (i, hh))) (bS n (i, hh)) w (.returned (.int .i64 x)) (w1.drewN q)) := fun q => by
      have ho : w.grownBy (w1.drewN q) (some g) := grownN_trans (fr_only C1.out.2) (grownN_below (below_drewN (Below.refl _ _) q) _)
      refine ⟨?_, ⟨?_, ?_, rd_apart HD.out.rd HD.out.ne ho, HD.out.ne, HD.out.len, HD.out.range⟩, ho⟩
      · unfold bX
        rw [if_neg hlt, HX0.out, HB.out]
      · unfold bS
        rw [if_neg hlt, ← HB.out]
        exact C1.out.1.drew q
      · unfold bS
        rw [if_neg hlt]
        exact hi
    have ij : ¬ (i : Int) < (n : Int) := by omega
    go_quiet (fail)
    go_wp2
    go_ret
    exact HX.out _
end Go.Proofs.Ytocmbnocdjnfpaa

namespace Go.Proofs.Ytocmbnocdjnfpaa
open Go.RowKit Go.Deep
set_option linter.unusedVariables false
set_option maxRecDepth 100000

/-- A number below k, and the state behind it. -/
def nBl (f : Nat → Int) (n : Nat) (k : Int) (s : Nat × Int) : Int := if k ≤ 256 then bX f n s % k else (bX f n s * 65536 + bX f n (bS n s) * 256 + bX f n (bS n (bS n s))) % k
def nS (n : Nat) (k : Int) (s : Nat × Int) : Nat × Int := if k ≤ 256 then bS n s else bS n (bS n (bS n s))
theorem nBl_range (f : Nat → Int) (n : Nat) {k : Int} (hk : 1 ≤ k) (s : Nat × Int) : 0 ≤ nBl f n k s ∧ nBl f n k s < k := by
  unfold nBl
  split
  · exact ⟨Int.emod_nonneg _ (by omega), Int.emod_lt_of_pos _ (by omega)⟩
  · exact ⟨Int.emod_nonneg _ (by omega), Int.emod_lt_of_pos _ (by omega)⟩
section
variable {g : Nat} {b : Option Addr} {n c : Nat} {f : Nat → Int} {s : Nat × Int} {w : World}
set_option maxHeartbeats 1000000 in
theorem l1Below_x (h : DrX w g b n c f s) (k : Int) (hk : 1 ≤ k) (hk2 : k ≤ 2147483647) :
    Calls Try.prog 71 #[.pointer (some ⟨g, 0, none⟩), .int .i64 k] w (DRet g b n c f (.int .i64 (nBl f n k s)) (nS n k s) w) := by
  have H : Hid (DrX w g b n c f s) := h
  have hk0 : ¬ k = 0 := by omega
  have hk0' : (k == 0) = false := by simp; omega
  clear h
  by_cases hs : k ≤ 256
  · have HV : Hid (nBl f n k s = bX f n s % k ∧ nS n k s = bS n s) := ⟨by unfold nBl; rw [if_pos hs], by unfold nS; rw [if_pos hs]⟩
    go_enter Try.func71, Try.ntmps71
    go_wp2_with fail
    refine (l1Byte_x H.out).mono ?_
    rintro e w1 ⟨rfl, hd, ho⟩
    have HX : Hid (DrX w1 g b n c f (bS n s) ∧ w.grownBy w1 (some g)) := ⟨hd, ho⟩
    obtain ⟨h0, h1⟩ := bX_byte f n s
    have HR : Hid (∀ y, y = bX f n s % k → DRet g b n c f (.int .i64 (nBl f n k s)) (nS n k s) w (.returned (.int .i64 y)) w1) := fun y hy => by
      subst hy
      exact ⟨by rw [HV.out.1], by rw [HV.out.2]; exact HX.out.1, HX.out.2⟩
    generalize bX f n s = x at *
    have hm : x.tmod k = x % k := Int.tmod_eq_emod_of_nonneg h0
    have hm0 : 0 ≤ x % k := Int.emod_nonneg x (by omega)
    have hm1 : x % k < k := Int.emod_lt_of_pos x (by omega)
    clear hd ho HV
    go_wp2
    go_ret
    exact HR.out _ rfl
  · have HV : Hid (nBl f n k s = (bX f n s * 65536 + bX f n (bS n s) * 256 + bX f n (bS n (bS n s))) % k ∧ nS n k s = bS n (bS n (bS n s))) := ⟨by unfold nBl; rw [if_neg hs], by unfold nS; rw [if_neg hs]⟩
    go_enter Try.func71, Try.ntmps71
    go_wp2_with fail
    refine (l1Byte_x H.out).mono ?_
    rintro e w1 ⟨rfl, hd1, ho1⟩
    have H1 : Hid (DrX w1 g b n c f (bS n s) ∧ w.grownBy w1 (some g)) := ⟨hd1, ho1⟩
    clear hd1 ho1
    go_wp2_with fail
    refine (l1Byte_x H1.out.1).mono ?_
    rintro e w2 ⟨rfl, hd2, ho2⟩
    have H2 : Hid (DrX w2 g b n c f (bS n (bS n s)) ∧ w.grownBy w2 (some g)) := ⟨hd2, grownN_trans H1.out.2 ho2⟩
    clear hd2 ho2 H1
    go_wp2_with fail
    refine (l1Byte_x H2.out.1).mono ?_
    rintro e w3 ⟨rfl, hd3, ho3⟩
    have H3 : Hid (DrX w3 g b n c f (bS n (bS n (bS n s))) ∧ w.grownBy w3 (some g)) := ⟨hd3, grownN_trans H2.out.2 ho3⟩
    clear hd3 ho3 H2
    obtain ⟨h0, h1⟩ := bX_byte f n s
    obtain ⟨h2, h3⟩ := bX_byte f n (bS n s)
    obtain ⟨h4, h5⟩ := bX_byte f n (bS n (bS n s))
    have HR : Hid (∀ y, y = (bX f n s * 65536 + bX f n (bS n s) * 256 + bX f n (bS n (bS n s))) % k → DRet g b n c f (.int .i64 (nBl f n k s)) (nS n k s) w (.returned (.int .i64 y)) w3) := fun y hy => by
      subst hy
      exact ⟨by rw [HV.out.1], by rw [HV.out.2]; exact H3.out.1, H3.out.2⟩
    generalize bX f n s = x at *
    generalize bX f n (bS n s) = y at *
    generalize bX f n (bS n (bS n s)) = z at *
    have hs0 : 0 ≤ x * 65536 + y * 256 + z := by omega
    have hm : (x * 65536 + y * 256 + z).tmod k = (x * 65536 + y * 256 + z) % k := Int.tmod_eq_emod_of_nonneg hs0
    have hm0 : 0 ≤ (x * 65536 + y * 256 + z) % k := Int.emod_nonneg _ (by omega)
    have hm1 : (x * 65536 + y * 256 + z) % k < k := Int.emod_lt_of_pos _ (by omega)
    clear HV
    go_wp2
    go_ret
    exact HR.out _ rfl
set_option maxHeartbeats 1000000 in
theorem l1Once_x (h : DrX w g b n c f s) (k : Int) (hk : 1 ≤ k) (hk2 : k ≤ 2147483647) :
    Calls Try.prog 70 #[.pointer (some ⟨g, 0, none⟩), .int .i64 k] w (DRet g b n c f (.bool (nBl f n k s == 0)) (nS n k s) w) := by
  have H : Hid (DrX w g b n c f s) := h
  clear h
  go_enter Try.func70, Try.ntmps70
  go_wp2_with fail
  refine (l1Below_x H.out k hk hk2).mono ?_
  rintro e w1 ⟨rfl, hd, ho⟩
  have HX : Hid (DrX w1 g b n c f (nS n k s) ∧ w.grownBy w1 (some g)) := ⟨hd, ho⟩
  clear hd ho
  generalize nBl f n k s = x at *
  go_wp2
  go_ret
  exact ⟨rfl, HX.out⟩
end
/-- Where a cursor begins. -/
def hN (f : Nat → Int) (n : Nat) : Nat → Int
  | 0 => 54321 + n
  | k + 1 => bits .and .i64 (wrap64 (wrap64 (wrap64 (hN f n k * 131) + f k) + 7)) 1073741823
theorem Cur.new (w : World) (v : Value) (i h : Int) : Cur (w.alloc (.cells #[v, .int .i64 i, .int .i64 h] 135)) w.heap.size v i h :=
  ⟨_, blk_alloc_new _ _, by simp, fun j hj => by
    match j, hj with
    | 0, _ => rfl
    | 1, _ => rfl
    | 2, _ => rfl⟩
theorem rd_blockLt {k : IntKind} {w : World} {b : Option Addr} {n : Nat} {f : Nat → Int} (h : Rd k w b n f) (hz : n ≠ 0) : ∀ x, b = some x → x.block < w.heap.size := by
  rcases h with h0 | ⟨bb, o, rfl, hc⟩
  · exact absurd h0 hz
  · intro x e
    injection e with e
    subst e
    exact World.block_lt_of_cell? _ _ (hc 0 (by omega))
set_option maxHeartbeats 1000000 in
theorem l1New_x (b : Option Addr) (n c : Nat) (f : Nat → Int) (w : World) (hrd : Rd .u8 w b n f) (hn : n ≤ 1048576) (hf : ∀ j, j < n → 0 ≤ f j ∧ f j < 256) :
    Calls Try.prog 52 #[.slice b n c] w fun e w' => e = .returned (.pointer (some ⟨w.heap.size, 0, none⟩)) ∧ DrX w' w.heap.size b n c f (0, hN f n n) ∧ Below w.heap.size w w' := by
  have HRD : Hid (Rd .u8 w b n f) := hrd
  have HF : Hid (∀ j, j < n → 0 ≤ f j ∧ f j < 256) := hf
  clear hrd hf
  go_enter Try.func52, Try.ntmps52
  go_wp2
  go_loopw [3, 4] (fun h i wr => ∃ (k : Nat) (y : Int), k ≤ n ∧ i = .int .i64 k ∧ h = .int .i64 y ∧ y = hN f n k ∧ wr = w) (fun _ i _ => n - (intOf i).toNat)
  case atStart => exact ⟨0, _, Nat.zero_le _, rfl, rfl, rfl, rfl⟩
  case round =>
    obtain ⟨k, y, hk, rfl, rfl, hy, rfl⟩ := hrel
    have HY : Hid (y = hN f n k) := hy
    clear hy
    by_cases hlt : k < n
    · obtain ⟨bb, o, hb, hc⟩ : ∃ bb o, b = some ⟨bb, o, none⟩ ∧ ∀ i, i < n → wr.cell? ⟨bb, o + i, none⟩ = some (.int .u8 (f i)) := by
        rcases HRD.out with h0 | ⟨bb, o, hb, hc⟩
        · omega
        · exact ⟨bb, o, hb, hc⟩
      subst hb
      have hcell := hc k hlt
      obtain ⟨hf0, hf1⟩ := HF.out k hlt
      clear hc
      obtain ⟨fk, hfk⟩ : ∃ fk, fk = f k := ⟨_, rfl⟩
      have HFK : Hid (fk = f k) := hfk
      rw [← hfk] at hcell hf0 hf1
      clear hfk
      go_wp2
      go_roundw
      case rel => exact ⟨k + 1, _, by omega, by go_num, rfl, by show _ = bits .and .i64 (wrap64 (wrap64 (wrap64 (hN f n k * 131) + f k) + 7)) 1073741823; rw [← HY.out, ← HFK.out], trivial⟩
      case measure => simp [intOf]; omega
    · have e : k = n := by omega
      subst e
      have HE : Hid (DrX (wr.alloc (.cells #[.slice b k c, .int .i64 0, .int .i64 y] 135)) wr.heap.size b k c f (0, hN f k k)) := by
        show DrX _ _ _ _ _ _ _
        rw [← HY.out]
        exact ⟨Cur.new _ _ _ _, Nat.zero_le _, HRD.out.below (below_alloc _ _), fun hz x e => Nat.ne_of_lt (rd_blockLt HRD.out hz x e), hn, HF.out⟩
      go_wp2
      go_ret
      exact ⟨rfl, HE.out, below_alloc _ _⟩
end Go.Proofs.Ytocmbnocdjnfpaa

namespace Go.Proofs.Ytocmbnocdjnfpaa
open Go.RowKit Go.Deep
set_option linter.unusedVariables false
set_option linter.unusedSimpArgs false
set_option maxRecDepth 100000

theorem strOfNums_T (l : List Int) : strOfNums l = strT l := rfl
theorem lf_map (q : List Int) : (List.range q.length).map (lf q) = q := by
  apply List.ext_getElem (by simp)
  intro i h1 h2
  simp at h1 h2 ⊢
  unfold lf
  rw [List.getD_eq_getElem?_getD, List.getElem?_eq_getElem h1]
  rfl
/-- Bytes turned into a string. -/
theorem conv_T {w : World} {a : Option Addr} {q : List Int} (n c : Nat) (hn : n = q.length) (h : Rd .u8 w a n (lf q)) : (convert 33 9 (.slice a n c)).run Try.prog w = .ok (.string (strT q)) w := by
  subst hn
  by_cases h0 : q = []
  · subst h0
    cases a with
    | none => exact run_convert_bytes_nil (P := Try.prog) w 33 5 (by kernel_rfl) (by kernel_rfl) 0 c 9 (by kernel_rfl)
    | some x =>
      show (convert 33 9 (.slice (some x) 0 c)).run Try.prog w = _
      rw [run_convert_bytes_string (P := Try.prog) w 33 9 5 _ 0 c (by kernel_rfl) (by kernel_rfl) (by kernel_rfl)]
      simp [Conv.bytesToString, loadCells]
      rfl
  · rcases h with h1 | ⟨b, off, rfl, hc⟩
    · exact absurd (List.length_eq_zero_iff.1 h1) h0
    · have := run_convert_bytes_arg (P := Try.prog) w 33 5 (by kernel_rfl) (by kernel_rfl) b off q.length c ((List.range q.length).map (lf q)) (by simp) (fun i hi => by rw [hc i hi]; simp [List.getD, hi]) 9 (by kernel_rfl)
      rw [this, lf_map, strOfNums_T]
theorem strT_size (q : List Int) : (strT q).size = q.length := by unfold strT; simp [ByteArray.size]
theorem txS_T (q : List Int) : txS (strT q) = decide (1 ≤ q.length ∧ q.length ≤ 30) := by
  unfold txS
  rw [strT_size]
  by_cases h1 : 1 ≤ q.length <;> by_cases h2 : q.length ≤ 30 <;> simp [h1, h2]

theorem stepT1 {ops : Array Oper} {o : Oper} {a : Act} {w : World} {K : Act → World → Prop} {Q : Exit → Act → World → Prop} {E : Prop} (hgd : o.guard = none) (k : Nat) (i : Nat) (tys : Array TypeId)
    (ho : o.op = .call { callee := .value (.func k), args := #[.tmp i], argTypes := tys }) (u : Value) (hx : a.tmps[i]?.getD undef = u) (heg : ∀ args w, (callFunc k args).run Try.prog w = .ok (.enter k args) w)
    (h : Calls Try.prog k #[u] w fun e w' => ∃ r, e = .returned r ∧ K (a.put o.dst r) w') :
    if Region.wanted o (yielded ops a.tmps) = true then Oper.wp Try.prog o a w K Q else E := by
  have hw : Region.wanted o (yielded ops a.tmps) = true := by simp [Region.wanted, hgd]
  rw [if_pos hw]
  unfold Oper.wp
  simp [execOp, ho, resolve, invoke, hx, go_sem, heg]
  refine h.mono ?_
  rintro e w' ⟨u, rfl, hk⟩
  exact hk
theorem step_appb {ops : Array Oper} {o : Oper} {act : Act} {w : World} {K : Act → World → Prop} {Q : Exit → Act → World → Prop} {E : Prop} (hgd : o.guard = none) (s x : Operand)
    (ho : o.op = .call { callee := .builtin .append, args := #[s, x], argTypes := #[33, 33] })
    (B : Nat) (v : Value) (n : Nat) (l : List Int) (hs : act.eval s = v) (hown : TxA w B v n l)
    (a : Addr) (m c : Nat) (y : List Int) (hx : act.eval x = .slice (some a) m c) (hm : m = y.length) (hm0 : 0 < m) (hrd : ∀ j u, (bv y)[j]? = some u → w.cell? (Addr.add a j) = some u) (hnm : n + m ≤ 1099511627776) (hB : B ≤ w.heap.size)
    (h : ∀ v' w', TxA w' B v' (n + m) (l ++ y) → Below B w w' → K (act.put o.dst v') w') :
    if Region.wanted o (yielded ops act.tmps) = true then Oper.wp Try.prog o act w K Q else E := by
  have hw : Region.wanted o (yielded ops act.tmps) = true := by simp [Region.wanted, hgd]
  rw [if_pos hw]
  obtain ⟨v', w', hrun, r1, r2⟩ := app_run (c := c) o.type hown hm hm0 hrd hnm hB
  unfold Oper.wp
  simp [execOp, ho, resolve, invoke, builtin, hs, hx, hrun, Result.andThen]
  exact h v' w' r1 r2
theorem TxA.drew {w : World} {B n : Nat} {v : Value} {l : List Int} (h : TxA w B v n l) : TxA w.drew B v n l := h

/-- What l6Quoted gives back. -/
def QRet (f : Nat → Int) (n i : Nat) (w : World) (e : Ending) (w' : World) : Prop :=
  ∃ ok s k, e = .returned (.tuple #[.bool ok, .string s, .int .i64 k]) ∧ Below w.heap.size w w' ∧
    ((∃ q k', quoF f n (i + 1) [] = some (q, k') ∧ ok = true ∧ s = strT q ∧ k = (k' : Int)) ∨ (quoF f n (i + 1) [] = none ∧ ok = false))

set_option maxHeartbeats 4000000 in
theorem l6Quoted_any (a : Option Addr) (n c i : Nat) (f : Nat → Int) (w : World) (h : Rd .u8 w a n f) (hn : n ≤ 2000) (hi : i < n) (hf : ∀ i, i < n → 0 ≤ f i ∧ f i < 256) :
    Calls Try.prog 111 #[.slice a n c, .int .i64 (i : Int)] w (QRet f n i w) := by
  rcases h with h | ⟨b, off, rfl, hc⟩
  · omega
  have HC : Hid (∀ i, i < n → w.cell? ⟨b, off + i, none⟩ = some (.int .u8 (f i))) := hc
  have HFB : Hid (∀ i, i < n → 0 ≤ f i ∧ f i < 256) := hf
  have e1 : IntKind.i64.wrap ((i : Int) + 1) = ((i + 1 : Nat) : Int) := by rw [IntKind.wrap_i64]; omega
  obtain ⟨j0, hj0⟩ : ∃ j0, j0 = i + 1 := ⟨_, rfl⟩
  have HJ0 : Hid (j0 = i + 1) := hj0
  rw [← hj0] at e1
  have hj0n : j0 ≤ n := by omega
  clear hc hf hj0 hi
  go_enter Try.func111, Try.ntmps111
  go_wp2
  go_loopw [7, 8] (fun u v wr => ∃ (j : Nat) (q : List Int), v = .int .i64 (j : Int) ∧ j ≤ n ∧ quoF f n j0 [] = quoF f n j q ∧ q.length ≤ j ∧ TxA wr w.heap.size u q.length q ∧ Below w.heap.size w wr) (fun _ v _ => n - (intOf v).toNat)
  case atStart => exact ⟨j0, [], rfl, hj0n, rfl, Nat.zero_le _, ⟨rfl, .inl (World.ownsRow_lit w #[] 0 (Nat.le_refl _) (Nat.zero_le _) rfl)⟩, (Below.refl _ _).alloc (Nat.le_refl _) _⟩
  case round =>
    obtain ⟨j, q, rfl, hj, hq, hql, hown, hbel⟩ := hrel
    have hsz := hbel.size
    have HB : Hid (Below w.heap.size w wr) := hbel
    have HO : Hid (TxA wr w.heap.size u7 q.length q ∧ quoF f n j0 [] = quoF f n j q) := ⟨hown, hq⟩
    clear hown hbel hq
    obtain ⟨j1, hj1⟩ : ∃ j1, j1 = j + 1 := ⟨_, rfl⟩
    obtain ⟨j2, hj2⟩ : ∃ j2, j2 = j + 2 := ⟨_, rfl⟩
    obtain ⟨j3, hj3⟩ : ∃ j3, j3 = j + 3 := ⟨_, rfl⟩
    obtain ⟨j4, hj4⟩ : ∃ j4, j4 = j + 4 := ⟨_, rfl⟩
    have w1 : IntKind.i64.wrap ((j : Int) + 1) = (j1 : Int) := by rw [IntKind.wrap_i64]; omega
    have w2 : IntKind.i64.wrap ((j : Int) + 2) = (j2 : Int) := by rw [IntKind.wrap_i64]; omega
    have w3 : IntKind.i64.wrap ((j : Int) + 3) = (j3 : Int) := by rw [IntKind.wrap_i64]; omega
    have w4 : IntKind.i64.wrap ((j : Int) + 4) = (j4 : Int) := by rw [IntKind.wrap_i64]; omega
    have HJ : Hid (j1 = j + 1 ∧ j2 = j + 2 ∧ j3 = j + 3 ∧ j4 = j + 4) := ⟨hj1, hj2, hj3, hj4⟩
    have nn1 : (0 : Int) ≤ (j1 : Int) := by omega
    have nn2 : (0 : Int) ≤ (j2 : Int) := by omega
    have nn3 : (0 : Int) ≤ (j3 : Int) := by omega
    have CL : ∀ k, k < n → wr.cell? ⟨b, off + k, none⟩ = some (.int .u8 (f k)) := fun k hk => by
      rw [HB.out.cell (p := ⟨b, off + k, none⟩) (World.block_lt_of_cell? _ _ (HC.out k hk))]; exact HC.out k hk
    by_cases hlt : j < n
    · have ij : (j : Int) < (n : Int) := by omega
      have ij0 : ¬ (j : Int) < 0 := by omega
      have ij1 : (0 : Int) ≤ (j : Int) := by omega
      have cj := CL j hlt
      obtain ⟨x, hx⟩ : ∃ x, x = f j := ⟨_, rfl⟩
      have HX : Hid (x = f j) := hx
      have hx0 : 0 ≤ x ∧ x < 256 := by rw [hx]; exact HFB.out j hlt
      obtain ⟨hx0, hx1⟩ := hx0
      rw [← hx] at cj
      clear hx
      by_cases h34 : x = 34
      · subst h34
        obtain ⟨aq, cq, hu, hrd, _⟩ := HO.out.1.rd
        have HE : Hid (quoF f n (i + 1) [] = if 1 ≤ q.length ∧ q.length ≤ 30 then some (q, j1) else none) := by
          show _ = _
          rw [← HJ0.out, HO.out.2, quoF_end (by omega) (by rw [← HX.out]; exact fun e => e.2 rfl), hj1]
          by_cases h : 1 ≤ q.length ∧ q.length ≤ 30
          · rw [if_pos ⟨hlt, h⟩, if_pos h]
          · rw [if_neg (fun e => h e.2), if_neg h]
        have cv1 := conv_T (w := wr) q.length cq rfl hrd
        have cv2 : ∀ k, (convert 33 9 (.slice aq q.length cq)).run Try.prog (wr.drewN k) = .ok (.string (strT q)) (wr.drewN k) := fun k => conv_T (w := wr.drewN k) q.length cq rfl hrd
        have HTX : Hid (∀ W, Calls Try.prog 75 #[.string (strT q)] W fun e w' => e = .returned (.bool (decide (1 ≤ q.length ∧ q.length ≤ 30))) ∧ w' = W) := fun W => by
          rw [← txS_T]
          exact l6Text_any _ W
        have HSS : Hid (∃ Y, Y = strT q) := ⟨_, rfl⟩
        obtain ⟨Y, hY⟩ := HSS.out
        have HYY : Hid (Y = strT q) := hY
        rw [← hY] at cv1 cv2 HTX
        clear hrd CL hj1 hj2 hj3 hj4 hY HSS
        obtain rfl : u7 = .slice aq q.length cq := hu
        obtain ⟨N, hN⟩ : ∃ N, N = q.length := ⟨_, rfl⟩
        have HN : Hid (N = q.length) := hN
        obtain ⟨ok, hok⟩ : ∃ ok, ok = decide (1 ≤ q.length ∧ q.length ≤ 30) := ⟨_, rfl⟩
        have HOK : Hid (ok = decide (1 ≤ q.length ∧ q.length ≤ 30)) := hok
        rw [← hok] at HTX
        rw [← hN] at cv1 cv2 ⊢
        clear hok hN
        have dlt : decide ((j : Int) < (n : Int)) = true := decide_eq_true ij
        go_wp2_with fail
        go_quiet (first | (go_at_call 75; refine Calls.quiet_of_same (HTX.out _)))
        go_wp2
        refine bodyPost_ret (v := .tuple #[.bool ok, .string Y, .int .i64 (j1 : Int)]) (by simp [results, Try.results111, go_sem]) rfl ⟨ok, Y, _, rfl, below_drewN HB.out _, ?_⟩
        by_cases h : 1 ≤ q.length ∧ q.length ≤ 30
        · exact Or.inl ⟨q, j1, by rw [HE.out, if_pos h], by rw [HOK.out]; exact decide_eq_true h, HYY.out, rfl⟩
        · exact Or.inr ⟨by rw [HE.out, if_neg h], by rw [HOK.out]; exact decide_eq_false h⟩
      have d34 : (x == 34) = false := by simp [h34]
      have HNO : Hid (pcB f n j = none → quoF f n (i + 1) [] = none) := fun e => by
        rw [← HJ0.out, HO.out.2]
        exact quoF_bad hlt (by rw [← HX.out]; exact h34) e
      have HGO : Hid (∀ c l, pcB f n j = some (c, l) → quoF f n j0 [] = quoF f n (j + l) (q ++ [c])) := fun c l e => by
        rw [HO.out.2]
        exact quoF_go hlt (by rw [← HX.out]; exact h34) e
      by_cases h32 : x < 32
      · have HP : Hid (pcB f n j = none) := by show _ = _; unfold pcB; rw [← HX.out, if_neg (by omega), if_neg (by omega)]
        have d32 : decide (x < 32) = true := decide_eq_true h32
        clear CL hj1 hj2 hj3 hj4
        go_wp2
        refine bodyPost_ret (v := .tuple #[.bool false, .string { data := #[] }, .int .i64 (j : Int)]) (by simp [results, Try.results111, go_sem]) rfl ⟨false, _, _, rfl, HB.out, Or.inr ⟨HNO.out HP.out, rfl⟩⟩
      have d32 : decide (x < 32) = false := decide_eq_false h32
      by_cases h126 : 126 < x
      · have HP : Hid (pcB f n j = none) := by show _ = _; unfold pcB; rw [← HX.out, if_neg (by omega), if_neg (by omega)]
        have d126 : decide (126 < x) = true := decide_eq_true h126
        clear CL hj1 hj2 hj3 hj4
        go_wp2
        refine bodyPost_ret (v := .tuple #[.bool false, .string { data := #[] }, .int .i64 (j : Int)]) (by simp [results, Try.results111, go_sem]) rfl ⟨false, _, _, rfl, HB.out, Or.inr ⟨HNO.out HP.out, rfl⟩⟩
      have d126 : decide (126 < x) = false := decide_eq_false h126
      by_cases h92 : x = 92
      · subst h92
        have HX92 : Hid (f j = 92) := HX.out.symm
        by_cases hl1 : j1 < n
        · have il1 : (j1 : Int) < (n : Int) := by omega
          have dl1 : decide ((j1 : Int) < (n : Int)) = true := decide_eq_true il1
          have cj1 := CL j1 hl1
          obtain ⟨y, hy⟩ : ∃ y, y = f j1 := ⟨_, rfl⟩
          have HY : Hid (y = f (j + 1)) := by show _ = _; rw [hy, hj1]
          rw [← hy] at cj1
          clear hy
          by_cases hy34 : y = 34
          · subst hy34
            have HP : Hid (pcB f n j = some (34, 2)) := by show _ = _; unfold pcB; rw [HX92.out, if_pos rfl, ← HY.out, if_pos ⟨by omega, Or.inl rfl⟩]
            clear CL hj1 hj2 hj3 hj4
            go_wp2_with (at_builtin; refine app_b rfl _ _ rfl w.heap.size _ q.length q rfl (HO.out.1.below (below_alloc _ _)) ⟨wr.heap.size, 0, none⟩ 1 1 [34] rfl rfl (by omega) (new_cells _ [.int .u8 34] _) (by omega) (by simp; omega) ?_)
            intro v' wq hown' hgrow
            have HX2 : Hid (TxA wq w.heap.size v' (q.length + 1) (q ++ [34]) ∧ Below w.heap.size w wq) := ⟨hown', (HB.out.alloc hsz _).trans hgrow⟩
            clear hown' hgrow
            go_wp2
            go_roundw
            case rel =>
              have hp := pcB_pos HP.out (by omega)
              refine ⟨j2, q ++ [34], rfl, by have := HJ.out; omega, ?_, by rw [List.length_append, List.length_singleton]; have := HJ.out; omega, ?_, HX2.out.2⟩
              · rw [HGO.out _ _ HP.out]
                have := HJ.out
                rw [show j + 2 = j2 by omega]
              · rw [List.length_append]
                exact HX2.out.1
            case measure => have := HJ.out; simp [intOf]; omega
          by_cases hy92 : y = 92
          · subst hy92
            have HP : Hid (pcB f n j = some (92, 2)) := by show _ = _; unfold pcB; rw [HX92.out, if_pos rfl, ← HY.out, if_pos ⟨by omega, Or.inr rfl⟩]
            clear CL hj1 hj2 hj3 hj4
            go_wp2_with (at_builtin; refine app_b rfl _ _ rfl w.heap.size _ q.length q rfl (HO.out.1.below (below_alloc _ _)) ⟨wr.heap.size, 0, none⟩ 1 1 [92] rfl rfl (by omega) (new_cells _ [.int .u8 92] _) (by omega) (by simp; omega) ?_)
            intro v' wq hown' hgrow
            have HX2 : Hid (TxA wq w.heap.size v' (q.length + 1) (q ++ [92]) ∧ Below w.heap.size w wq) := ⟨hown', (HB.out.alloc hsz _).trans hgrow⟩
            clear hown' hgrow
            go_wp2
            go_roundw
            case rel =>
              have hp := pcB_pos HP.out (by omega)
              refine ⟨j2, q ++ [92], rfl, by have := HJ.out; omega, ?_, by rw [List.length_append, List.length_singleton]; have := HJ.out; omega, ?_, HX2.out.2⟩
              · rw [HGO.out _ _ HP.out]
                have := HJ.out
                rw [show j + 2 = j2 by omega]
              · rw [List.length_append]
                exact HX2.out.1
            case measure => have := HJ.out; simp [intOf]; omega
          have dy34 : (y == 34) = false := by simp [hy34]
          have dy92 : (y == 92) = false := by simp [hy92]
          by_cases hl3 : j3 < n
          · have il3 : (j3 : Int) < (n : Int) := by omega
            have il2 : (j2 : Int) < (n : Int) := by omega
            have dl3 : decide ((j3 : Int) < (n : Int)) = true := decide_eq_true il3
            have cj2 := CL j2 (by omega)
            have cj3 := CL j3 hl3
            obtain ⟨y2, hy2⟩ : ∃ y, y = f j2 := ⟨_, rfl⟩
            obtain ⟨y3, hy3⟩ : ∃ y, y = f j3 := ⟨_, rfl⟩
            have HY2 : Hid (y2 = f (j + 2) ∧ y3 = f (j + 3)) := ⟨by rw [hy2, hj2], by rw [hy3, hj3]⟩
            have b2 : 0 ≤ y2 ∧ y2 < 256 := by rw [hy2]; exact HFB.out _ (by omega)
            have b3 : 0 ≤ y3 ∧ y3 < 256 := by rw [hy3]; exact HFB.out _ hl3
            obtain ⟨b20, b21⟩ := b2
            obtain ⟨b30, b31⟩ := b3
            rw [← hy2] at cj2
            rw [← hy3] at cj3
            clear hy2 hy3
            by_cases h120 : y = 120
            · subst h120
              by_cases hv2 : 0 ≤ hxV y2
              · have dv2 : decide (0 ≤ hxV y2) = true := decide_eq_true hv2
                by_cases hv3 : 0 ≤ hxV y3
                · have dv3 : decide (0 ≤ hxV y3) = true := decide_eq_true hv3
                  have hl2 := hxV_lt y2
                  have hl3 := hxV_lt y3
                  have HP : Hid (pcB f n j = some (16 * hxV y2 + hxV y3, 4)) := by
                    show _ = _
                    unfold pcB
                    rw [HX92.out, if_pos rfl, ← HY.out, if_neg (by omega), ← HY2.out.1, ← HY2.out.2, if_pos ⟨by omega, rfl, hv2, hv3⟩]
                  have HF2 : Hid (∀ W, Calls Try.prog 134 #[.int .u8 y2] W fun e w' => e = .returned (.int .i64 (hxV y2)) ∧ w' = W) := fun W => l6Hex_any y2 W b20 b21
                  have HF3 : Hid (∀ W, Calls Try.prog 134 #[.int .u8 y3] W fun e w' => e = .returned (.int .i64 (hxV y3)) ∧ w' = W) := fun W => l6Hex_any y3 W b30 b31
                  clear CL hj1 hj2 hj3 hj4
                  generalize hxV y2 = z2 at *
                  generalize hxV y3 = z3 at *
                  obtain ⟨z, hz⟩ : ∃ z, z = 16 * z2 + z3 := ⟨_, rfl⟩
                  have HZ : Hid (z = 16 * z2 + z3) := hz
                  have m1 : IntKind.i64.wrap (16 * z2) = 16 * z2 := by rw [IntKind.wrap_i64]; omega
                  have m2 : IntKind.i64.wrap (16 * z2 + z3) = z := by rw [IntKind.wrap_i64]; omega
                  have m3 : IntKind.u8.wrap z = z := by simp [IntKind.wrap, IntKind.bits, IntKind.signed]; omega
                  clear hz
                  go_wp2_with fail
                  refine (HF2.out _).mono ?_
                  rintro e w8 ⟨rfl, hw8⟩
                  rw [hw8]
                  clear hw8 w8
                  go_wp2_with fail
                  refine (HF3.out _).mono ?_
                  rintro e w8 ⟨rfl, hw8⟩
                  rw [hw8]
                  clear hw8 w8
                  go_wp2_with fail
                  refine wp_region_late (S := fun W => W.cell? ⟨b, off + j2, none⟩ = some (.int .u8 y2) ∧ W.cell? ⟨b, off + j3, none⟩ = some (.int .u8 y3)) 18 (by kernel_rfl) ⟨cj2, cj3⟩ (fun hHeld => ?_)
                  refine tk 0 .zero (v := ?_) ?_ ?_
                  rotate_left
                  · (intro w0 hSw; obtain ⟨q2, q3⟩ := hSw; go_simp) <;> with_reducible rfl
                  simp only [tkp]
                  refine tk 1 (.succ .zero) (v := ?_) ?_ ?_
                  rotate_left
                  · (intro w0 hSw; obtain ⟨q2, q3⟩ := hSw; go_simp) <;> with_reducible rfl
                  simp only [tkp]
                  refine tk 2 (.succ (.succ .zero)) (v := ?_) ?_ ?_
                  rotate_left
                  · (intro w0 hSw; obtain ⟨q2, q3⟩ := hSw; go_simp) <;> with_reducible rfl
                  simp only [tkp]
                  refine tk 3 (.succ (.succ (.succ .zero))) (v := ?_) ?_ ?_
                  rotate_left
                  · (intro w0 hSw; obtain ⟨q2, q3⟩ := hSw; go_simp) <;> with_reducible rfl
                  simp only [tkp]
                  refine tk 4 (.succ (.succ (.succ (.succ .zero)))) (v := ?_) ?_ ?_
                  rotate_left
                  · (intro w0 hSw; obtain ⟨q2, q3⟩ := hSw; go_simp) <;> with_reducible rfl
                  simp only [tkp]
                  refine tk 5 (.succ (.succ (.succ (.succ (.succ .zero))))) (v := ?_) ?_ ?_
                  rotate_left
                  · (intro w0 hSw; obtain ⟨q2, q3⟩ := hSw; go_simp) <;> with_reducible rfl
                  simp only [tkp]
                  refine tk 8 (.succ (.succ (.succ (.succ (.succ (.succ (.succ (.succ .zero)))))))) (v := ?_) ?_ ?_
                  rotate_left
                  · (intro w0 hSw; obtain ⟨q2, q3⟩ := hSw; go_simp) <;> with_reducible rfl
                  simp only [tkp]
                  refine tk 9 (.succ (.succ (.succ (.succ (.succ (.succ (.succ (.succ (.succ .zero))))))))) (v := ?_) ?_ ?_
                  rotate_left
                  · (intro w0 hSw; obtain ⟨q2, q3⟩ := hSw; go_simp) <;> with_reducible rfl
                  simp only [tkp]
                  refine tk 10 (.succ (.succ (.succ (.succ (.succ (.succ (.succ (.succ (.succ (.succ .zero)))))))))) (v := ?_) ?_ ?_
                  rotate_left
                  · (intro w0 hSw; obtain ⟨q2, q3⟩ := hSw; go_simp) <;> with_reducible rfl
                  simp only [tkp]
                  refine tk 11 (.succ (.succ (.succ (.succ (.succ (.succ (.succ (.succ (.succ (.succ (.succ .zero))))))))))) (v := ?_) ?_ ?_
                  rotate_left
                  · (intro w0 hSw; obtain ⟨q2, q3⟩ := hSw; go_simp) <;> with_reducible rfl
                  simp only [tkp]
                  refine tk 12 (.succ (.succ (.succ (.succ (.succ (.succ (.succ (.succ (.succ (.succ (.succ (.succ .zero)))))))))))) (v := ?_) ?_ ?_
                  rotate_left
                  · (intro w0 hSw; obtain ⟨q2, q3⟩ := hSw; go_simp) <;> with_reducible rfl
                  simp only [tkp]
                  refine tk1 6 (.succ (.succ (.succ (.succ (.succ (.succ .zero)))))) (fun K hK => ?_)
                  refine stepT1 (by rfl) 134 117 _ (by rfl) (.int .u8 y2) (by rfl) (fun _ _ => by rfl) ?_
                  refine (HF2.out _).mono ?_
                  rintro e w8 ⟨rfl, hw8⟩
                  rw [hw8]
                  clear hw8 w8
                  refine ⟨_, rfl, hK.out _ _ (fun _ => hHeld) (fun _ => ?_)⟩
                  clear hK K
                  simp only [tkp]
                  refine tk 7 (.succ (.succ (.succ (.succ (.succ (.succ (.succ .zero))))))) (v := ?_) ?_ ?_
                  rotate_left
                  · (intro w0 hSw; obtain ⟨q2, q3⟩ := hSw; go_simp) <;> with_reducible rfl
                  simp only [tkp]
                  refine tk1 13 (.succ (.succ (.succ (.succ (.succ (.succ (.succ (.succ (.succ (.succ (.succ (.succ (.succ .zero))))))))))))) (fun K hK => ?_)
                  refine stepT1 (by rfl) 134 124 _ (by rfl) (.int .u8 y3) (by rfl) (fun _ _ => by rfl) ?_
                  refine (HF3.out _).mono ?_
                  rintro e w8 ⟨rfl, hw8⟩
                  rw [hw8]
                  clear hw8 w8
                  refine ⟨_, rfl, hK.out _ _ (fun _ => hHeld) (fun _ => ?_)⟩
                  clear hK K
                  simp only [tkp]
                  refine tk 14 (.succ (.succ (.succ (.succ (.succ (.succ (.succ (.succ (.succ (.succ (.succ (.succ (.succ (.succ .zero)))))))))))))) (v := ?_) ?_ ?_
                  rotate_left
                  · (intro w0 hSw; obtain ⟨q2, q3⟩ := hSw; go_simp) <;> with_reducible rfl
                  simp only [tkp]
                  refine tk 15 (.succ (.succ (.succ (.succ (.succ (.succ (.succ (.succ (.succ (.succ (.succ (.succ (.succ (.succ (.succ .zero))))))))))))))) (v := ?_) ?_ ?_
                  rotate_left
                  · (intro w0 hSw; obtain ⟨q2, q3⟩ := hSw; go_simp) <;> with_reducible rfl
                  simp only [tkp]
                  refine tk1 16 (.succ (.succ (.succ (.succ (.succ (.succ (.succ (.succ (.succ (.succ (.succ (.succ (.succ (.succ (.succ (.succ .zero)))))))))))))))) (fun K hK => ?_)
                  go_simp
                  refine hK.out _ _ (fun _ => ⟨?_, ?_⟩) (fun _ => ?_)
                  · exact ((below_alloc wr _).cell (p := ⟨b, off + j2, none⟩) (World.block_lt_of_cell? _ _ cj2)).trans cj2
                  · exact ((below_alloc wr _).cell (p := ⟨b, off + j3, none⟩) (World.block_lt_of_cell? _ _ cj3)).trans cj3
                  clear hK K
                  try simp only [tkp]
                  refine tk1 17 (.succ (.succ (.succ (.succ (.succ (.succ (.succ (.succ (.succ (.succ (.succ (.succ (.succ (.succ (.succ (.succ (.succ .zero))))))))))))))))) (fun K hK => ?_)
                  refine step_appb (by rfl) _ _ (by rfl) w.heap.size _ q.length q (by rfl) (HO.out.1.below (below_alloc _ _)).drew ⟨wr.heap.size, 0, none⟩ 1 1 [z] (by rfl) rfl (by omega) (new_cells _ [.int .u8 z] _) (by omega) (by simp; omega) ?_
                  intro v' wq hown' hgrow
                  have HX2 : Hid (TxA wq w.heap.size v' (q.length + 1) (q ++ [z]) ∧ Below w.heap.size w wq) := ⟨hown', ((HB.out.alloc hsz _).drew).trans hgrow⟩
                  clear hown' hgrow
                  refine hK.out _ _ (fun _ => ⟨?_, ?_⟩) (fun _ => ?_)
                  · rw [HX2.out.2.cell (p := ⟨b, off + j2, none⟩) (World.block_lt_of_cell? _ _ (HC.out j2 (by omega))), HC.out j2 (by omega)]
                    have := HB.out.cell (p := ⟨b, off + j2, none⟩) (World.block_lt_of_cell? _ _ (HC.out j2 (by omega)))
                    rw [← HC.out j2 (by omega), ← this]
                    exact cj2
                  · rw [HX2.out.2.cell (p := ⟨b, off + j3, none⟩) (World.block_lt_of_cell? _ _ (HC.out j3 (by omega))), HC.out j3 (by omega)]
                    have := HB.out.cell (p := ⟨b, off + j3, none⟩) (World.block_lt_of_cell? _ _ (HC.out j3 (by omega)))
                    rw [← HC.out j3 (by omega), ← this]
                    exact cj3
                  clear hK K hHeld
                  try simp only [tkp]
                  refine tk1 18 (.succ (.succ (.succ (.succ (.succ (.succ (.succ (.succ (.succ (.succ (.succ (.succ (.succ (.succ (.succ (.succ (.succ (.succ .zero)))))))))))))))))) (fun K hK => ?_)
                  go_simp
                  refine hK.out _ _ (fun hne => absurd rfl hne) (fun _ => ?_)
                  clear hK K
                  try simp only [tkp]
                  refine wpLate_done (by kernel_rfl) ?_ _
                  go_wp2
                  go_roundw
                  case rel =>
                    have hp := pcB_pos HP.out (by omega)
                    refine ⟨j4, q ++ [z], rfl, by have := HJ.out; omega, ?_, by rw [List.length_append, List.length_singleton]; have := HJ.out; omega, ?_, HX2.out.2⟩
                    · rw [HGO.out _ _ HP.out, ← HZ.out]
                      have := HJ.out
                      rw [show j + 4 = j4 by omega]
                    · rw [List.length_append]
                      exact HX2.out.1
                  case measure => have := HJ.out; simp [intOf]; omega
                have dv3 : decide (0 ≤ hxV y3) = false := decide_eq_false hv3
                have HP : Hid (pcB f n j = none) := by
                  show _ = _
                  unfold pcB
                  rw [HX92.out, if_pos rfl, ← HY.out, if_neg (by omega), ← HY2.out.1, ← HY2.out.2, if_neg (fun e => hv3 e.2.2.2)]
                clear CL hj1 hj2 hj3 hj4
                go_wp2_with fail
                refine (l6Hex_any y2 _ b20 b21).mono ?_
                rintro e w8 ⟨rfl, hw8⟩
                rw [hw8]
                clear hw8 w8
                generalize hxV y2 = z2 at *
                go_wp2_with fail
                refine (l6Hex_any y3 _ b30 b31).mono ?_
                rintro e w8 ⟨rfl, hw8⟩
                rw [hw8]
                clear hw8 w8
                generalize hxV y3 = z3 at *
                go_wp2
                refine bodyPost_ret (v := .tuple #[.bool false, .string { data := #[] }, .int .i64 (j : Int)]) (by simp [results, Try.results111, go_sem]) rfl ⟨false, _, _, rfl, HB.out, Or.inr ⟨HNO.out HP.out, rfl⟩⟩
              have dv2 : decide (0 ≤ hxV y2) = false := decide_eq_false hv2
              have HP : Hid (pcB f n j = none) := by
                show _ = _
                unfold pcB
                rw [HX92.out, if_pos rfl, ← HY.out, if_neg (by omega), ← HY2.out.1, ← HY2.out.2, if_neg (fun e => hv2 e.2.2.1)]
              clear CL hj1 hj2 hj3 hj4
              go_wp2_with fail
              refine (l6Hex_any y2 _ b20 b21).mono ?_
              rintro e w8 ⟨rfl, hw8⟩
              rw [hw8]
              clear hw8 w8
              generalize hxV y2 = z2 at *
              go_wp2
              refine bodyPost_ret (v := .tuple #[.bool false, .string { data := #[] }, .int .i64 (j : Int)]) (by simp [results, Try.results111, go_sem]) rfl ⟨false, _, _, rfl, HB.out, Or.inr ⟨HNO.out HP.out, rfl⟩⟩
            have d120 : (y == 120) = false := by simp [h120]
            have HP : Hid (pcB f n j = none) := by
              show _ = _
              unfold pcB
              rw [HX92.out, if_pos rfl, ← HY.out, if_neg (by omega), if_neg (fun e => h120 e.2.1)]
            clear CL hj1 hj2 hj3 hj4
            go_wp2
            refine bodyPost_ret (v := .tuple #[.bool false, .string { data := #[] }, .int .i64 (j : Int)]) (by simp [results, Try.results111, go_sem]) rfl ⟨false, _, _, rfl, HB.out, Or.inr ⟨HNO.out HP.out, rfl⟩⟩
          have il3 : ¬ (j3 : Int) < (n : Int) := by omega
          have dl3 : decide ((j3 : Int) < (n : Int)) = false := decide_eq_false il3
          have HP : Hid (pcB f n j = none) := by
            show _ = _
            unfold pcB
            rw [HX92.out, if_pos rfl, ← HY.out, if_neg (by omega), if_neg (by omega)]
          clear CL hj1 hj2 hj3 hj4
          go_wp2
          refine bodyPost_ret (v := .tuple #[.bool false, .string { data := #[] }, .int .i64 (j : Int)]) (by simp [results, Try.results111, go_sem]) rfl ⟨false, _, _, rfl, HB.out, Or.inr ⟨HNO.out HP.out, rfl⟩⟩
        have il1 : ¬ (j1 : Int) < (n : Int) := by omega
        have dl1 : decide ((j1 : Int) < (n : Int)) = false := decide_eq_false il1
        have dl3 : decide ((j3 : Int) < (n : Int)) = false := decide_eq_false (by omega)
        have il3 : ¬ (j3 : Int) < (n : Int) := by omega
        have HP : Hid (pcB f n j = none) := by
          show _ = _
          unfold pcB
          rw [HX92.out, if_pos rfl, if_neg (by omega), if_neg (by omega)]
        clear CL hj1 hj2 hj3 hj4
        go_wp2
        refine bodyPost_ret (v := .tuple #[.bool false, .string { data := #[] }, .int .i64 (j : Int)]) (by simp [results, Try.results111, go_sem]) rfl ⟨false, _, _, rfl, HB.out, Or.inr ⟨HNO.out HP.out, rfl⟩⟩
      have d92 : (x == 92) = false := by simp [h92]
      have HP : Hid (pcB f n j = some (x, 1)) := by show _ = _; unfold pcB; rw [← HX.out, if_neg h92, if_pos (by omega)]
      clear CL hj1 hj2 hj3 hj4
      go_wp2_with (at_builtin; refine app_b rfl _ _ rfl w.heap.size _ q.length q rfl (HO.out.1.below (below_alloc _ _)) ⟨wr.heap.size, 0, none⟩ 1 1 [x] rfl rfl (by omega) (new_cells _ [.int .u8 x] _) (by omega) (by simp; omega) ?_)
      intro v' wq hown' hgrow
      have HX2 : Hid (TxA wq w.heap.size v' (q.length + 1) (q ++ [x]) ∧ Below w.heap.size w wq) := ⟨hown', (HB.out.alloc hsz _).trans hgrow⟩
      clear hown' hgrow
      go_wp2
      go_roundw
      case rel =>
        have hp := pcB_pos HP.out (by omega)
        refine ⟨j1, q ++ [x], rfl, by have := HJ.out; omega, ?_, by rw [List.length_append, List.length_singleton]; have := HJ.out; omega, ?_, HX2.out.2⟩
        · rw [HGO.out _ _ HP.out]
          have := HJ.out
          rw [show j + 1 = j1 by omega]
        · rw [List.length_append]
          exact HX2.out.1
      case measure => have := HJ.out; simp [intOf]; omega
    have ij : ¬ (j : Int) < (n : Int) := by omega
    have dlt : decide ((j : Int) < (n : Int)) = false := decide_eq_false ij
    obtain ⟨aq, cq, hu, hrd, _⟩ := HO.out.1.rd
    have HE : Hid (quoF f n (i + 1) [] = none) := by
      show _ = _
      rw [← HJ0.out, HO.out.2, quoF_end hj (fun e => hlt e.1), if_neg (fun e => hlt e.1)]
    have cv1 := conv_T (w := wr) q.length cq rfl hrd
    have cv2 : ∀ k, (convert 33 9 (.slice aq q.length cq)).run Try.prog (wr.drewN k) = .ok (.string (strT q)) (wr.drewN k) := fun k => conv_T (w := wr.drewN k) q.length cq rfl hrd
    obtain ⟨Y, hY⟩ : ∃ Y, Y = strT q := ⟨_, rfl⟩
    rw [← hY] at cv1 cv2
    clear hrd CL hj1 hj2 hj3 hj4 hY
    obtain rfl : u7 = .slice aq q.length cq := hu
    obtain ⟨N, hN⟩ : ∃ N, N = q.length := ⟨_, rfl⟩
    rw [← hN] at cv1 cv2 ⊢
    clear hN
    go_wp2_with fail
    go_quiet (fail)
    go_wp2
    refine bodyPost_ret (v := .tuple #[.bool false, .string Y, .int .i64 (j1 : Int)]) (by simp [results, Try.results111, go_sem]) rfl ⟨false, Y, _, rfl, below_drewN HB.out _, Or.inr ⟨HE.out, rfl⟩⟩
end Go.Proofs.Ytocmbnocdjnfpaa

namespace Go.Proofs.Ytocmbnocdjnfpaa
open Go.RowKit Go.Deep
set_option linter.unusedVariables false
set_option linter.unusedSimpArgs false
set_option maxRecDepth 100000

theorem strT_inj {p q : List Int} (hp : Byt p) (hq : Byt q) (h : strT p = strT q) : p = q := by
  rw [← bl_strT hp, ← bl_strT hq, h]
theorem strT_list (q : List Int) : (strT q).toList = q.map (fun x => UInt8.ofNat x.toNat) := by
  rw [ByteArray.toList_eq]
  unfold strT
  simp
theorem strT_nl {p q : List Int} (hp : Byt p) (hq : Byt q) (h : p ≠ q) : ¬ (strT p).toList = q.map (fun x => UInt8.ofNat x.toNat) := fun e => by
  rw [← strT_list] at e
  exact h (strT_inj hp hq (strB_eq.1 (by rw [e]; simp)))
theorem byt_lit {q : List Int} (h : q.all (fun x => decide (0 ≤ x) && decide (x < 256)) = true) : Byt q := fun x hx => by
  have := List.all_eq_true.1 h x hx
  simpa using this

theorem l6Word_any (q : List Int) (hq : Byt q) (w : World) : Calls Try.prog 110 #[.string (strT q)] w fun e w' => e = .returned (.bool (decide (cdW q ≠ 0))) ∧ w' = w := by
  have HE : Hid (cdW q = if q = [97, 108, 108] then 1 else if q = [118] then 2 else if q = [111, 117, 116] then 3 else if q = [105, 110] then 4 else if q = [104, 97, 115] then 5 else if q = [103, 114, 97, 112, 104] then 9 else 0) := rfl
  by_cases h1 : q = [97, 108, 108]
  · subst h1
    show Calls Try.prog 110 #[.string { data := #[97, 108, 108] }] w _
    go_enter Try.func110, Try.ntmps110
    go_wp2
    go_ret
    exact ⟨rfl, rfl⟩
  by_cases h2 : q = [118]
  · subst h2
    show Calls Try.prog 110 #[.string { data := #[118] }] w _
    go_enter Try.func110, Try.ntmps110
    go_wp2
    go_ret
    exact ⟨rfl, rfl⟩
  by_cases h9 : q = [103, 114, 97, 112, 104]
  · subst h9
    show Calls Try.prog 110 #[.string { data := #[103, 114, 97, 112, 104] }] w _
    go_enter Try.func110, Try.ntmps110
    go_wp2
    go_ret
    exact ⟨rfl, rfl⟩
  by_cases h3 : q = [111, 117, 116]
  · subst h3
    show Calls Try.prog 110 #[.string { data := #[111, 117, 116] }] w _
    go_enter Try.func110, Try.ntmps110
    go_wp2
    go_ret
    exact ⟨rfl, rfl⟩
  by_cases h4 : q = [105, 110]
  · subst h4
    show Calls Try.prog 110 #[.string { data := #[105, 110] }] w _
    go_enter Try.func110, Try.ntmps110
    go_wp2
    go_ret
    exact ⟨rfl, rfl⟩
  by_cases h5 : q = [104, 97, 115]
  · subst h5
    show Calls Try.prog 110 #[.string { data := #[104, 97, 115] }] w _
    go_enter Try.func110, Try.ntmps110
    go_wp2
    go_ret
    exact ⟨rfl, rfl⟩
  have n1 : ¬ (strT q).toList = [97, 108, 108] := strT_nl hq (q := [97, 108, 108]) (byt_lit rfl) h1
  have n2 : ¬ (strT q).toList = [118] := strT_nl hq (q := [118]) (byt_lit rfl) h2
  have n9 : ¬ (strT q).toList = [103, 114, 97, 112, 104] := strT_nl hq (q := [103, 114, 97, 112, 104]) (byt_lit rfl) h9
  have n3 : ¬ (strT q).toList = [111, 117, 116] := strT_nl hq (q := [111, 117, 116]) (byt_lit rfl) h3
  have n4 : ¬ (strT q).toList = [105, 110] := strT_nl hq (q := [105, 110]) (byt_lit rfl) h4
  have n5 : ¬ (strT q).toList = [104, 97, 115] := strT_nl hq (q := [104, 97, 115]) (byt_lit rfl) h5
  have HC : Hid (cdW q = 0) := by
    show _ = _
    rw [HE.out, if_neg h1, if_neg h2, if_neg h3, if_neg h4, if_neg h5, if_neg h9]
  generalize strT q = X at *
  clear h1 h2 h3 h4 h5 h9 hq
  go_enter Try.func110, Try.ntmps110
  go_wp2
  go_ret
  exact ⟨by rw [HC.out]; simp [n1, n2, n3, n4, n5, n9], rfl⟩
end Go.Proofs.Ytocmbnocdjnfpaa
