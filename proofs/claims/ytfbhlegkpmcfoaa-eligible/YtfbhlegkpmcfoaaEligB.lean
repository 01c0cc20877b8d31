import Derived.Test.YtfbhlegkpmcfoaaElig2
import Derived.Test.YtfbhlegkpmcfoaaOwn
namespace Go.Proofs.Ytfbhlegkpmcfoaa
open Go.RowKit Go.Deep
set_option linter.unusedVariables false
set_option maxRecDepth 100000

theorem cellOf {w : World} {b : Nat} {A : Array Value} {t : TypeId} (h : w.heap[b]? = some (.cells A t)) (o : Nat) : w.cell? ⟨b, o, none⟩ = A[o]? := by simp [World.cell?, h]
theorem frozenOf {w : World} {b : Nat} {A : Array Value} {t : TypeId} (h : w.heap[b]? = some (.cells A t)) (o : Nat) : w.frozen? ⟨b, o, none⟩ = false := by simp [World.frozen?, h]

theorem box3 {w w2 : World} {A B C : Array Value} {t : TypeId} (hb : Below (w.heap.size + 3) (((w.alloc (.cells A t)).alloc (.cells B t)).alloc (.cells C t)) w2) :
    (∀ o, w2.cell? ⟨w.heap.size, o, none⟩ = A[o]?) ∧ (∀ o, w2.cell? ⟨w.heap.size + 1, o, none⟩ = B[o]?) ∧ (∀ o, w2.cell? ⟨w.heap.size + 1 + 1, o, none⟩ = C[o]?) ∧
    (∀ o, w2.frozen? ⟨w.heap.size + 1, o, none⟩ = false) ∧ (∀ o, w2.frozen? ⟨w.heap.size + 1 + 1, o, none⟩ = false) ∧ w.heap.size + 3 ≤ w2.heap.size ∧ Below w.heap.size w w2 := by
  have e1 : (w.alloc (.cells A t)).heap.size = w.heap.size + 1 := by simp
  have e2 : ((w.alloc (.cells A t)).alloc (.cells B t)).heap.size = w.heap.size + 1 + 1 := by simp
  have b0 := blk_alloc_new w (.cells A t)
  have b1 := blk_alloc_new (w.alloc (.cells A t)) (.cells B t)
  have b2 := blk_alloc_new ((w.alloc (.cells A t)).alloc (.cells B t)) (.cells C t)
  rw [e1] at b1
  rw [e2] at b2
  have g0 := (hb.block w.heap.size (by omega)).trans (((below_alloc _ _).block w.heap.size (by omega)).trans (((below_alloc _ _).block w.heap.size (by omega)).trans b0))
  have g1 := (hb.block (w.heap.size + 1) (by omega)).trans (((below_alloc _ _).block (w.heap.size + 1) (by omega)).trans b1)
  have g2 := (hb.block (w.heap.size + 1 + 1) (by omega)).trans b2
  exact ⟨cellOf g0, cellOf g1, cellOf g2, frozenOf g1, frozenOf g2, by have := hb.size; simp at this; omega, ((((below_alloc _ _).alloc (by simp) _).alloc (by simp; omega) _)).trans (hb.mono (by omega))⟩

theorem box2 {w : World} {A B : Array Value} {t : TypeId} :
    (∀ o, ((w.alloc (.cells A t)).alloc (.cells B t)).cell? ⟨w.heap.size, o, none⟩ = A[o]?) ∧ (∀ o, ((w.alloc (.cells A t)).alloc (.cells B t)).cell? ⟨w.heap.size + 1, o, none⟩ = B[o]?) ∧
    (∀ b o, b < w.heap.size → ((w.alloc (.cells A t)).alloc (.cells B t)).cell? ⟨b, o, none⟩ = w.cell? ⟨b, o, none⟩) ∧ (∀ b o, b < w.heap.size → ((w.alloc (.cells A t)).alloc (.cells B t)).frozen? ⟨b, o, none⟩ = w.frozen? ⟨b, o, none⟩) ∧ True := by
  have e1 : (w.alloc (.cells A t)).heap.size = w.heap.size + 1 := by simp
  have b0 := blk_alloc_new w (.cells A t)
  have b1 := blk_alloc_new (w.alloc (.cells A t)) (.cells B t)
  rw [e1] at b1
  have g0 := ((below_alloc (w.alloc (.cells A t)) (.cells B t)).block w.heap.size (by omega)).trans b0
  have q : Below w.heap.size w ((w.alloc (.cells A t)).alloc (.cells B t)) := (below_alloc _ _).alloc (by simp) _
  exact ⟨cellOf g0, cellOf b1, fun b o h => q.cell (p := ⟨b, o, none⟩) h, fun b o h => q.frozen (p := ⟨b, o, none⟩) h, trivial⟩
theorem keepFar {w : World} {b b' o o' : Nat} {v u : Value} (h : ¬ b = b') (hc : w.cell? ⟨b', o', none⟩ = some u) : (w.setCell ⟨b, o, none⟩ v).drew.cell? ⟨b', o', none⟩ = some u := (World.cell?_setCell_far w ⟨b, o, none⟩ ⟨b', o', none⟩ v h).trans hc
theorem keepOff {w : World} {b o o' : Nat} {v u : Value} (h : ¬ o = o') (hc : w.cell? ⟨b, o', none⟩ = some u) : (w.setCell ⟨b, o, none⟩ v).drew.cell? ⟨b, o', none⟩ = some u := (World.cell?_setCell_other (w := w) (v := v) (a := ⟨b, o, none⟩) (b := ⟨b, o', none⟩) (by intro e; cases e; exact h rfl)).trans hc
theorem putIn {w : World} {b o : Nat} {v u : Value} (hc : w.cell? ⟨b, o, none⟩ = some u) : (w.setCell ⟨b, o, none⟩ v).drew.cell? ⟨b, o, none⟩ = some v := World.cell?_setCell_same' w ⟨b, o, none⟩ v (by rw [hc]; rfl)

theorem bA {w w' : World} {o : Obj} (h : Below w.heap.size w w') : Below w.heap.size w (w'.alloc o) := h.alloc h.size o
theorem bS {w w' : World} {b o : Nat} {v : Value} (hb : w.heap.size ≤ b) (h : Below w.heap.size w w') : Below w.heap.size w (w'.setCell ⟨b, o, none⟩ v) := h.setCell hb v
theorem bD {w w' : World} (h : Below w.heap.size w w') : Below w.heap.size w w'.drew := h.drew
end Go.Proofs.Ytfbhlegkpmcfoaa
