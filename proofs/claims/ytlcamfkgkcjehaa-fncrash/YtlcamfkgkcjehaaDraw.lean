import Derived.Test.YtlcamfkgkcjehaaSec
namespace Go.Proofs.Ytlcamfkgkcjehaa
open Go.RowKit Go.Deep
set_option linter.unusedVariables false
set_option maxRecDepth 100000

theorem and255 (x : Int) : 0 ≤ bits .and .i64 x 255 ∧ bits .and .i64 x 255 < 256 := by
  have h1 : (BitVec.ofInt 64 x &&& BitVec.ofInt 64 255).toNat ≤ 255 := by
    rw [BitVec.toNat_and]
    exact Nat.and_le_right
  show 0 ≤ IntKind.i64.wrap ((BitVec.ofInt 64 x &&& BitVec.ofInt 64 255).toNat : Int) ∧ IntKind.i64.wrap ((BitVec.ofInt 64 x &&& BitVec.ofInt 64 255).toNat : Int) < 256
  rw [IntKind.wrap_i64]
  omega

/-- The cells of a cursor. -/
def curCell (v : Value) (i h : Int) : Nat → Value := fun k => if k = 0 then v else if k = 1 then .int .i64 i else .int .i64 h
/-- A cursor over drawn bytes, in block g. -/
def Cur (w : World) (g : Nat) (v : Value) (i h : Int) : Prop := rowIn w g 73 3 (curCell v i h)
theorem Cur.cells {w : World} {g : Nat} {v : Value} {i h : Int} (k : Cur w g v i h) : w.cell? ⟨g, 0, none⟩ = some v ∧ w.cell? ⟨g, 1, none⟩ = some (.int .i64 i) ∧ w.cell? ⟨g, 2, none⟩ = some (.int .i64 h) ∧ (∀ o, w.frozen? ⟨g, o, none⟩ = false) ∧ g < w.heap.size :=
  ⟨by simpa [curCell] using rowIn.cell k (i := 0) (by omega), by simpa [curCell] using rowIn.cell k (i := 1) (by omega), by simpa [curCell] using rowIn.cell k (i := 2) (by omega), fun o => rowIn.frozen k o, rowIn.lt k⟩
theorem Cur.setH {w : World} {g : Nat} {v : Value} {i h : Int} (k : Cur w g v i h) (x : Int) : Cur (w.setCell ⟨g, 2, none⟩ (.int .i64 x)) g v i x :=
  (rowIn.set k 2 _).congr (fun j hj => by
    unfold curCell
    by_cases e : j = 2
    · subst e; simp
    · simp [e]
      by_cases e0 : j = 0
      · simp [e0]
      · have : j = 1 := by omega
        simp [this])
theorem Cur.setI {w : World} {g : Nat} {v : Value} {i h : Int} (k : Cur w g v i h) (x : Int) : Cur (w.setCell ⟨g, 1, none⟩ (.int .i64 x)) g v x h :=
  (rowIn.set k 1 _).congr (fun j hj => by
    unfold curCell
    by_cases e : j = 1
    · subst e; simp
    · simp [e])

/-- A byte drawn. -/
def DrawnB (w : World) (e : Ending) (w' : World) (g : Nat) (v : Value) (n : Nat) : Prop := ∃ (x : Int) (i' : Nat) (h' : Int), e = .returned (.int .i64 x) ∧ 0 ≤ x ∧ x < 256 ∧ i' ≤ n ∧ Cur w' g v i' h' ∧ OnlyAt (some ⟨g, 0, none⟩) w w'

theorem OnlyAt.drew' {a : Option Addr} {w w' : World} (h : OnlyAt a w w') : OnlyAt a w w'.drew := ⟨h.os, h.tape, h.output, h.size, h.block⟩

set_option maxHeartbeats 1000000 in
theorem l1Byte_any (g : Nat) (b : Option Addr) (n c i : Nat) (f : Nat → Int) (h : Int) (w : World) (hc : Cur w g (.slice b n c) i h) (hrd : Rd .u8 w b n f) (hi : i ≤ n) (hne : n ≠ 0 → ∀ x, b = some x → x.block ≠ g) (hn : n ≤ 1048576) (hf : ∀ j, j < n → 0 ≤ f j ∧ f j < 256) :
    Calls Try.prog 61 #[.pointer (some ⟨g, 0, none⟩)] w fun e w' => DrawnB w e w' g (.slice b n c) n := by
  obtain ⟨c0, c1, c2, cf, cl⟩ := hc.cells
  have HC : Hid (Cur w g (.slice b n c) i h) := hc
  have HRD : Hid (Rd .u8 w b n f) := hrd
  have HNE : Hid (n ≠ 0 → ∀ x, b = some x → x.block ≠ g) := hne
  clear hc hrd hne
  go_enter Try.func61, Try.ntmps61
  go_wp2_with fail
  generalize wrap64 (wrap64 (h * 6364136223846793005) + 1442695040888963407) = h1
  obtain ⟨w1, hw1⟩ : ∃ W, W = w.setCell ⟨g, 2, none⟩ (.int .i64 h1) := ⟨_, rfl⟩
  rw [← hw1]
  have C1 : Hid (Cur w1 g (.slice b n c) i h1 ∧ OnlyAt (some ⟨g, 0, none⟩) w w1) := by rw [hw1]; exact ⟨HC.out.setH h1, (OnlyAt.refl _ _).setCell 2 _⟩
  clear hw1 c0 c1 c2 cf cl
  obtain ⟨c0, c1, c2, cf, cl⟩ := C1.out.1.cells
  go_wp2
  go_region
  generalize hx : bits .and .i64 _ 255 = x
  have hxr : 0 ≤ x ∧ x < 256 := by rw [← hx]; exact and255 _
  clear hx
  by_cases hlt : i < n
  · rcases HRD.out with h0 | ⟨bb, o, hb, hcl⟩
    · omega
    subst hb
    have hbg : bb ≠ g := HNE.out (by omega) _ rfl
    have hcell : w1.cell? ⟨bb, o + i, none⟩ = some (.int .u8 (f i)) := (World.cell?_of_block (a := ⟨bb, o + i, none⟩) (C1.out.2.block bb (fun y e => by injection e with e; subst e; exact fun e => hbg e.symm))).trans (hcl i hlt)
    clear hcl
    have hfi := hf i hlt
    generalize f i = fi at *
    go_wp2
    go_region
    go_wp2
    go_region
    generalize hy : bits .and .i64 _ 255 = y
    have hyr : 0 ≤ y ∧ y < 256 := by rw [← hy]; exact and255 _
    clear hy
    have HX : Hid (Cur (w1.setCell ⟨g, 1, none⟩ (.int .i64 ((i : Int) + 1))) g (.slice (some ⟨bb, o, none⟩) n c) ((i + 1 : Nat) : Int) h1 ∧ OnlyAt (some ⟨g, 0, none⟩) w (w1.setCell ⟨g, 1, none⟩ (.int .i64 ((i : Int) + 1)))) := ⟨by rw [Int.natCast_add]; exact C1.out.1.setI _, C1.out.2.setCell 1 _⟩
    go_wp2
    go_ret
    refine ⟨y, i + 1, h1, rfl, hyr.1, hyr.2, hlt, HX.out.1, ⟨HX.out.2.os, HX.out.2.tape, HX.out.2.output, HX.out.2.size, HX.out.2.block⟩⟩
  · have HX : Hid (Cur w1 g (.slice b n c) (i : Int) h1 ∧ OnlyAt (some ⟨g, 0, none⟩) w w1) := C1.out
    go_wp2
    go_region
    go_wp2
    go_ret
    exact ⟨x, i, h1, rfl, hxr.1, hxr.2, hi, HX.out.1, ⟨HX.out.2.os, HX.out.2.tape, HX.out.2.output, HX.out.2.size, HX.out.2.block⟩⟩
end Go.Proofs.Ytlcamfkgkcjehaa
