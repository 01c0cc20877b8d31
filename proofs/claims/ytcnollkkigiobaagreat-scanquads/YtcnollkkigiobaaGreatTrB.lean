import Derived.Test.YtcnollkkigiobaaGreatOwn
namespace Go.Proofs.YtcnollkkigiobaaGreat
open Go.RowKit Go.Deep
set_option linter.unusedVariables false

/-- Block b holds these cells, none frozen. -/
def Bx (w : World) (b : Nat) (t : TypeId) (cur : Array Value) : Prop := w.heap[b]? = some (.cells cur t (0, 0))

namespace Bx
variable {w w' : World} {b : Nat} {t : TypeId} {cur : Array Value}
theorem new (w : World) (cur : Array Value) (t : TypeId) : Bx (w.alloc (.cells cur t)) w.heap.size t cur := blk_alloc_new _ _
theorem lt (h : Bx w b t cur) : b < w.heap.size := (Array.getElem?_eq_some_iff.1 h).1
theorem of_block (h : Bx w b t cur) (e : w'.heap[b]? = w.heap[b]?) : Bx w' b t cur := e.trans h
theorem below (h : Bx w b t cur) (hb : Below w.heap.size w w') : Bx w' b t cur := h.of_block (hb.block b h.lt)
theorem below' {B : Nat} (h : Bx w b t cur) (hb : Below B w w') (hB : b < B) : Bx w' b t cur := h.of_block (hb.block b hB)
theorem cell (h : Bx w b t cur) (i : Nat) : w.cell? ⟨b, i, none⟩ = cur[i]? := by
  unfold Bx at h
  simp [World.cell?, h]
theorem frozen (h : Bx w b t cur) (i : Nat) : w.frozen? ⟨b, i, none⟩ = false := by
  unfold Bx at h
  simp [World.frozen?, h]
theorem set (h : Bx w b t cur) (i : Nat) (v : Value) : Bx (w.setCell ⟨b, i, none⟩ v) b t (cur.setIfInBounds i v) := by
  unfold Bx at h ⊢
  simp [World.setCell, Array.getElem?_modify, h]
theorem other (h : Bx w b t cur) {p : Addr} (hp : b ≠ p.block) (v : Value) : Bx (w.setCell p v) b t cur := h.of_block (Below.heap_setCell _ _ _ _ hp)
theorem grown {row : Option Nat} (h : Bx w b t cur) (hg : w.grownBy w' row) (hr : row ≠ some b) : Bx w' b t cur := h.of_block (hg.block b h.lt (fun e => hr e.symm))
theorem alloc (h : Bx w b t cur) (o : Obj) : Bx (w.alloc o) b t cur := h.below (below_alloc _ _)
theorem drew (h : Bx w b t cur) : Bx w.drew b t cur := h
end Bx

theorem own_lt {w : World} {base : Nat} {e : TypeId} {size : Nat} {v : Value} {n : Nat} {xs : List Value} (h : w.ownsRow base e size v n xs) : ∀ g, v.ownBlock = some g → base ≤ g ∧ g < w.heap.size := by
  intro g hg
  rcases h.2 with ⟨rfl, _⟩ | ⟨g', cap, cur, rfl, hb, hh, _⟩
  · simp [Value.ownBlock] at hg
  · simp [Value.ownBlock] at hg
    subst hg
    exact ⟨hb, (Array.getElem?_eq_some_iff.1 hh).1⟩
theorem own_form {w : World} {base : Nat} {e : TypeId} {size : Nat} {v : Value} {n : Nat} {xs : List Value} (h : w.ownsRow base e size v n xs) : ∃ a c, v = .slice a n c ∧ (n ≠ 0 → ∃ g, a = some ⟨g, 0, none⟩ ∧ base ≤ g ∧ g < w.heap.size ∧ ∀ j u, xs[j]? = some u → w.cell? ⟨g, j, none⟩ = some u) := by
  rcases h.2 with ⟨rfl, rfl⟩ | ⟨g', cap, cur, rfl, hb, hh, h1, h2, h3, h4⟩
  · exact ⟨none, 0, rfl, fun h => absurd rfl h⟩
  · refine ⟨_, _, rfl, fun _ => ⟨g', rfl, hb, (Array.getElem?_eq_some_iff.1 hh).1, fun j u hj => ?_⟩⟩
    rw [← h4, List.getElem?_take] at hj
    split at hj
    · simp only [World.cell?, hh]
      simpa using hj
    · cases hj
theorem own_below {w w' : World} {base : Nat} {e : TypeId} {size : Nat} {v : Value} {n : Nat} {xs : List Value} (h : w.ownsRow base e size v n xs) (hb : Below w.heap.size w w') : w'.ownsRow base e size v n xs :=
  h.kept (w' := w') (row := none) ⟨hb.os, hb.tape, hb.output, hb.size, fun k hk _ => hb.block k hk⟩ (by cases hv : v.ownBlock <;> simp)
theorem own_cap {w : World} {base : Nat} {e : TypeId} {size : Nat} {a : Option Addr} {n c : Nat} {xs : List Value} (h : w.ownsRow base e size (.slice a n c) n xs) : n ≤ c ∧ c ≤ 9223372036854775807 := by
  rcases h.2 with ⟨q, rfl⟩ | ⟨g, cap, cur, q, _, _, h1, h2, _⟩
  · injection q with _ _ q
    omega
  · injection q with _ _ q
    unfold maxLen at h2
    omega
end Go.Proofs.YtcnollkkigiobaaGreat
