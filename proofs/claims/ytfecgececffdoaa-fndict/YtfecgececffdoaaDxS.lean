import Derived.Test.YtfecgececffdoaaMkD
import Derived.Test.YtfecgececffdoaaSzT
import Derived.Test.YtfecgececffdoaaToT
import Derived.Test.YtfecgececffdoaaOpenDict
namespace Go.Proofs.Ytfecgececffdoaa
open Go.RowKit Go.Deep
set_option linter.unusedVariables false
set_option maxRecDepth 100000

/-- A box of cells. -/
def Bx (W : World) (b : Nat) (cs : Array Value) (t : TypeId) : Prop := W.heap[b]? = some (.cells cs t)
theorem Bx.lt {W : World} {b : Nat} {cs : Array Value} {t : TypeId} (h : Bx W b cs t) : b < W.heap.size := (Array.getElem?_eq_some_iff.1 h).1
theorem Bx.keep {W W' : World} {b : Nat} {cs : Array Value} {t : TypeId} (h : Bx W b cs t) (hb : Below W.heap.size W W') : Bx W' b cs t := (hb.block _ h.lt).trans h
theorem Bx.cell {W : World} {b : Nat} {cs : Array Value} {t : TypeId} (h : Bx W b cs t) (i : Nat) : W.cell? ⟨b, i, none⟩ = cs[i]? := by unfold Bx at h; simp [World.cell?, h]
theorem Bx.new (W : World) (cs : Array Value) (t : TypeId) : Bx (W.alloc (.cells cs t)) W.heap.size cs t := blk_alloc_new _ _

/-- What marking leaves as it was. -/
theorem MkOnly.block {W W' : World} {a : Option Addr} {n : Nat} (h : MkOnly a n W W') {b : Nat} (hb : b < W.heap.size) (hne : n ≠ 0 → a ≠ some ⟨b, 0, none⟩) : W'.heap[b]? = W.heap[b]? := by
  obtain ⟨row, hg, hr⟩ := h
  refine hg.block b hb (fun e => ?_)
  obtain ⟨h1, h2⟩ := hr b e.symm
  exact hne h1 h2
theorem MkOnly.bx {W W' : World} {a : Option Addr} {n B : Nat} {I : Nat → Int} {X : Nat → ByteArray} {R : Nat → Int} (h : MkOnly a n W W') (ho : OwnT W B a n I X R) {b : Nat} {cs : Array Value} {t : TypeId} (hbx : Bx W b cs t) (ht : t ≠ 51) : Bx W' b cs t := by
  refine (h.block hbx.lt (fun hn e => ?_)).trans hbx
  rcases ho with h0 | ⟨g, e2, _, cur, hc, _⟩
  · exact hn h0
  · rw [e2] at e
    injection e with e
    injection e with e
    subst e
    unfold Bx at hbx
    rw [hbx] at hc
    injection hc with hc
    injection hc with _ h2 _
    exact ht h2
theorem MkOnly.own {W W' : World} {a a' : Option Addr} {n n' B B' : Nat} {I I' : Nat → Int} {X X' : Nat → ByteArray} {R R' : Nat → Int} (h : MkOnly a n W W') (ho : OwnT W B' a' n' I' X' R') (hne : n ≠ 0 → n' ≠ 0 → a ≠ a') : OwnT W' B' a' n' I' X' R' := by
  by_cases hn' : n' = 0
  · exact Or.inl hn'
  rcases ho with h0 | ⟨g, e2, hg, hr⟩
  · exact absurd h0 hn'
  · subst e2
    exact Or.inr ⟨g, rfl, hg, hr.of_block (h.block hr.lt (fun hn => hne hn hn'))⟩
theorem MkOnly.below {W W' : World} {a : Option Addr} {n B : Nat} {I : Nat → Int} {X : Nat → ByteArray} {R : Nat → Int} (h : MkOnly a n W W') (ho : OwnT W B a n I X R) (hB : B ≤ W.heap.size) : Below B W W' := by
  obtain ⟨row, hg, hr⟩ := h
  refine (Below.refl _ _).grown hg hB (fun g e => ?_)
  obtain ⟨h1, h2⟩ := hr g e
  rcases ho with h0 | ⟨g', e2, hg', _⟩
  · exact absurd h0 h1
  · rw [e2] at h2
    injection h2 with h2
    injection h2 with h2
    omega

/-- Rows made at different times lie apart. -/
theorem OwnT.apart {W W' : World} {a a' : Option Addr} {n n' B B' : Nat} {I I' : Nat → Int} {X X' : Nat → ByteArray} {R R' : Nat → Int} (h : OwnT W B a n I X R) (h' : OwnT W' B' a' n' I' X' R') (hB : W.heap.size ≤ B') : n ≠ 0 → n' ≠ 0 → a ≠ a' := fun hn hn' e => by
  rcases h with h0 | ⟨g, e2, _, hr⟩
  · exact hn h0
  rcases h' with h0 | ⟨g', e2', hg', _⟩
  · exact hn' h0
  rw [e2, e2'] at e
  injection e with e
  injection e with e
  have := hr.lt
  omega

/-- The law's world: the argument's box, the answers' boxes, the rows. -/
structure LwS (w W : World) (A : Obj) (bW bX bG : Nat) (ok : Bool) (id nx next : Int) (n n' : Nat) (aS : Option Addr) (cS : Nat) (aX : Option Addr) (cX : Nat) (aG : Option Addr) (cG : Nat)
    (IX : Nat → Int) (XX : Nat → ByteArray) (RX : Nat → Int) (IS : Nat → Int) (XS : Nat → ByteArray) (RS : Nat → Int) (IG : Nat → Int) (XG : Nat → ByteArray) (RG : Nat → Int) : Prop where
  low : Below (w.heap.size + 1) (w.alloc A) W
  hW : Bx W bW #[.bool ok, .int .i64 id, .int .i64 nx, .slice aS n' cS] 30
  hX : Bx W bX #[.int .i64 next, .slice aX n cX] 28
  hG : Bx W bG #[.bool ok, .int .i64 id, .int .i64 nx, .slice aG n' cG] 30
  rS : OwnT W (w.heap.size + 1) aS n' IS XS RS
  rX : OwnT W (w.heap.size + 1) aX n IX XX RX
  rG : OwnT W (w.heap.size + 1) aG n' IG XG RG
  sx : n' ≠ 0 → n ≠ 0 → aS ≠ aX
  xg : n ≠ 0 → n' ≠ 0 → aX ≠ aG
  sg : n' ≠ 0 → n' ≠ 0 → aS ≠ aG

section
variable {w W W' : World} {A : Obj} {bW bX bG : Nat} {ok : Bool} {id nx next : Int} {n n' : Nat} {aS : Option Addr} {cS : Nat} {aX : Option Addr} {cX : Nat} {aG : Option Addr} {cG : Nat} {IX IS IG : Nat → Int} {XX XS XG : Nat → ByteArray} {RX RS RG : Nat → Int}

theorem LwS.keep (h : LwS w W A bW bX bG ok id nx next n n' aS cS aX cX aG cG IX XX RX IS XS RS IG XG RG) (hb : Below W.heap.size W W') : LwS w W' A bW bX bG ok id nx next n n' aS cS aX cX aG cG IX XX RX IS XS RS IG XG RG := by
  have hs := h.low.size
  simp only [World.size_alloc] at hs
  exact ⟨h.low.trans (hb.mono hs), h.hW.keep hb, h.hX.keep hb, h.hG.keep hb, h.rS.below hb, h.rX.below hb, h.rG.below hb, h.sx, h.xg, h.sg⟩

theorem LwS.markX (h : LwS w W A bW bX bG ok id nx next n n' aS cS aX cX aG cG IX XX RX IS XS RS IG XG RG) (hm : MkOnly aX n W W') (hr : OwnT W' (w.heap.size + 1) aX n mI mX mR) : LwS w W' A bW bX bG ok id nx next n n' aS cS aX cX aG cG mI mX mR IS XS RS IG XG RG := by
  have hs := h.low.size
  simp only [World.size_alloc] at hs
  exact ⟨h.low.trans (hm.below h.rX hs), hm.bx h.rX h.hW (by decide), hm.bx h.rX h.hX (by decide), hm.bx h.rX h.hG (by decide), hm.own (B := 0) (I := mI) (X := mX) (R := mR) h.rS (fun h1 h2 => (h.sx h2 h1).symm), hr, hm.own (B := 0) (I := mI) (X := mX) (R := mR) h.rG h.xg, h.sx, h.xg, h.sg⟩

theorem LwS.markG (h : LwS w W A bW bX bG ok id nx next n n' aS cS aX cX aG cG IX XX RX IS XS RS IG XG RG) (hm : MkOnly aG n' W W') (hr : OwnT W' (w.heap.size + 1) aG n' mI mX mR) : LwS w W' A bW bX bG ok id nx next n n' aS cS aX cX aG cG IX XX RX IS XS RS mI mX mR := by
  have hs := h.low.size
  simp only [World.size_alloc] at hs
  exact ⟨h.low.trans (hm.below h.rG hs), hm.bx h.rG h.hW (by decide), hm.bx h.rG h.hX (by decide), hm.bx h.rG h.hG (by decide), hm.own (B := 0) (I := mI) (X := mX) (R := mR) h.rS (fun h1 h2 => (h.sg h2 h1).symm), hm.own (B := 0) (I := mI) (X := mX) (R := mR) h.rX (fun h1 h2 => (h.xg h2 h1).symm), hr, h.sx, h.xg, h.sg⟩

theorem LwS.cells {v0 v1 : Value} {t : TypeId} (h : LwS w W (.cells #[v0, v1] t) bW bX bG ok id nx next n n' aS cS aX cX aG cG IX XX RX IS XS RS IG XG RG) :
    (W.cell? ⟨w.heap.size, 0, none⟩ = some v0 ∧ W.cell? ⟨w.heap.size, 1, none⟩ = some v1) ∧ (W.cell? ⟨bW, 0, none⟩ = some (.bool ok) ∧ W.cell? ⟨bW, 1, none⟩ = some (.int .i64 id) ∧ W.cell? ⟨bW, 2, none⟩ = some (.int .i64 nx) ∧ W.cell? ⟨bW, 3, none⟩ = some (.slice aS n' cS)) ∧
    (W.cell? ⟨bX, 0, none⟩ = some (.int .i64 next) ∧ W.cell? ⟨bX, 1, none⟩ = some (.slice aX n cX)) ∧ (W.cell? ⟨bG, 0, none⟩ = some (.bool ok) ∧ W.cell? ⟨bG, 1, none⟩ = some (.int .i64 id) ∧ W.cell? ⟨bG, 2, none⟩ = some (.int .i64 nx) ∧ W.cell? ⟨bG, 3, none⟩ = some (.slice aG n' cG)) ∧ w.heap.size < W.heap.size ∧ bW < W.heap.size ∧ bX < W.heap.size ∧ bG < W.heap.size ∧ Below w.heap.size w W := by
  obtain ⟨d0, d1, dz, db⟩ := dbox h.low
  exact ⟨⟨d0, d1⟩, ⟨by rw [h.hW.cell]; rfl, by rw [h.hW.cell]; rfl, by rw [h.hW.cell]; rfl, by rw [h.hW.cell]; rfl⟩, ⟨by rw [h.hX.cell]; rfl, by rw [h.hX.cell]; rfl⟩, ⟨by rw [h.hG.cell]; rfl, by rw [h.hG.cell]; rfl, by rw [h.hG.cell]; rfl, by rw [h.hG.cell]; rfl⟩, dz, h.hW.lt, h.hX.lt, h.hG.lt, db⟩
end

theorem InAns.le {next : Int} {n : Nat} {I : Nat → Int} {X : Nat → ByteArray} {R : Nat → Int} {x : ByteArray} {ok : Bool} {id next' : Int} {n' : Nat} {I' : Nat → Int} {X' : Nat → ByteArray} {R' : Nat → Int}
    (h : InAns next n I X R x ok id next' n' I' X' R') (hn : n ≤ 1048576) : n' ≤ 1048576 := by
  rcases h with ⟨_, _, _, _, e, _⟩ | ⟨_, i, _, _, _, _, _, _, e, _⟩ | ⟨hv, _, _, p, _, _, _, _, e, _⟩
  · omega
  · omega
  · have := hv.2.1; omega
theorem ReAns.le {next : Int} {n : Nat} {I : Nat → Int} {X : Nat → ByteArray} {R : Nat → Int} {x : Int} {ok : Bool} {id next' : Int} {n' : Nat} {I' : Nat → Int} {X' : Nat → ByteArray} {R' : Nat → Int}
    (h : ReAns next n I X R x ok id next' n' I' X' R') (hn : n ≤ 1048576) : n' ≤ 1048576 := by
  rcases h with ⟨_, _, _, _, e, _⟩ | ⟨_, i, _, _, _, _, _, _, e, _⟩ | ⟨_, i, _, _, _, _, _, _, e, _⟩
  · omega
  · omega
  · omega
end Go.Proofs.Ytfecgececffdoaa
