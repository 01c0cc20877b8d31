import Derived.Test.YtbpcafcipncloaaBase
namespace Go.Proofs.Ytbpcafcipncloaa
open Go.RowKit Go.Deep

/-- Block g is a row of cells of type t, none frozen, whose first n cells hold F 0, F 1, .. -/
def rowIn (w : World) (g : Nat) (t : TypeId) (n : Nat) (F : Nat → Value) : Prop :=
  ∃ cur : Array Value, w.heap[g]? = some (.cells cur t (0, 0)) ∧ n ≤ cur.size ∧ ∀ i, i < n → cur[i]? = some (F i)

namespace rowIn
variable {w : World} {g : Nat} {t : TypeId} {n : Nat} {F G : Nat → Value}

theorem cell (h : rowIn w g t n F) {i : Nat} (hi : i < n) : w.cell? ⟨g, i, none⟩ = some (F i) := by
  obtain ⟨c, hb, _, hc⟩ := h
  simp [World.cell?, hb, hc i hi]

theorem frozen (h : rowIn w g t n F) (i : Nat) : w.frozen? ⟨g, i, none⟩ = false := by
  obtain ⟨c, hb, _, _⟩ := h
  simp [World.frozen?, hb]

theorem lt (h : rowIn w g t n F) : g < w.heap.size := by
  obtain ⟨c, hb, _, _⟩ := h
  obtain ⟨hlt, _⟩ := Array.getElem?_eq_some_iff.1 hb
  exact hlt

theorem congr (h : rowIn w g t n F) (e : ∀ i, i < n → F i = G i) : rowIn w g t n G := by
  obtain ⟨c, hb, hn, hc⟩ := h
  exact ⟨c, hb, hn, fun i hi => by rw [hc i hi, e i hi]⟩

theorem of_block {w' : World} (h : rowIn w g t n F) (e : w'.heap[g]? = w.heap[g]?) : rowIn w' g t n F := by
  obtain ⟨c, hb, hn, hc⟩ := h
  exact ⟨c, e.trans hb, hn, hc⟩

theorem set (h : rowIn w g t n F) (i : Nat) (v : Value) : rowIn (w.setCell ⟨g, i, none⟩ v) g t n (fun j => if j = i then v else F j) := by
  obtain ⟨c, hb, hn, hc⟩ := h
  refine ⟨c.setIfInBounds i v, ?_, by simpa using hn, fun j hj => ?_⟩
  · simp [World.setCell, Array.getElem?_modify, hb]
  · rw [Array.getElem?_setIfInBounds]
    by_cases e : j = i
    · subst e
      have : j < c.size := by omega
      simp [this]
    · rw [if_neg (fun h => e h.symm)]
      show c[j]? = some (if j = i then v else F j)
      rw [if_neg e]
      exact hc j hj

theorem setOther (h : rowIn w g t n F) {p : Addr} (hp : g ≠ p.block) (v : Value) : rowIn (w.setCell p v) g t n F := h.of_block (Below.heap_setCell _ _ _ _ hp)

theorem ofIs (h : w.rowIs g t n F) : rowIn w g t n F := by
  obtain ⟨c, hb, hn, hc⟩ := h
  exact ⟨c, hb, by omega, hc⟩

theorem ne {g' : Nat} {t' : TypeId} {n' : Nat} (h : rowIn w g t n F) (h' : rowIn w g' t' n' G) (ht : t ≠ t') : g ≠ g' := by
  rintro rfl
  obtain ⟨c, hb, _, _⟩ := h
  obtain ⟨c', hb', _, _⟩ := h'
  rw [hb] at hb'
  injection hb' with e
  injection e with _ e2 _
  exact ht e2
end rowIn

/-- The world w' is w but for the block that 'a' leads to. -/
structure OnlyAt (a : Option Addr) (w w' : World) : Prop where
  os : w'.os = w.os
  tape : w'.tape = w.tape
  output : w'.output = w.output
  size : w'.heap.size = w.heap.size
  block : ∀ k, (∀ x, a = some x → x.block ≠ k) → w'.heap[k]? = w.heap[k]?

theorem OnlyAt.refl (a : Option Addr) (w : World) : OnlyAt a w w := ⟨rfl, rfl, rfl, rfl, fun _ _ => rfl⟩
theorem OnlyAt.below {B : Nat} {a : Option Addr} {w w' : World} (h : OnlyAt a w w') (hB : ∀ x, a = some x → B ≤ x.block) : Below B w w' :=
  ⟨h.os, h.tape, h.output, by rw [h.size]; exact Nat.le_refl _, fun k hk => h.block k (fun x e => by have := hB x e; omega)⟩
theorem OnlyAt.setCell {g : Nat} {w w' : World} (h : OnlyAt (some ⟨g, 0, none⟩) w w') (i : Nat) (v : Value) : OnlyAt (some ⟨g, 0, none⟩) w (w'.setCell ⟨g, i, none⟩ v) :=
  ⟨h.os, h.tape, h.output, by rw [← h.size]; simp [World.setCell], fun k hk => by
    rw [← h.block k hk]
    exact Below.heap_setCell _ _ _ _ (fun e => hk _ rfl e.symm)⟩

/-- A slice of bytes in the call's own memory (blocks from B on). -/
def OwnB (w : World) (B : Nat) (a : Option Addr) (n : Nat) (f : Nat → Int) : Prop :=
  n = 0 ∨ ∃ g, a = some ⟨g, 0, none⟩ ∧ B ≤ g ∧ rowIn w g 5 n (fun i => .int .u8 (f i))

theorem OwnB.rd {w : World} {B : Nat} {a : Option Addr} {n : Nat} {f : Nat → Int} (h : OwnB w B a n f) : Rd .u8 w a n f := by
  rcases h with h | ⟨g, rfl, _, hr⟩
  · exact Or.inl h
  · exact Or.inr ⟨g, 0, rfl, fun i hi => by rw [Nat.zero_add]; exact hr.cell hi⟩

theorem OwnB.mono {w : World} {B B' : Nat} {a : Option Addr} {n : Nat} {f : Nat → Int} (h : OwnB w B a n f) (hB : B' ≤ B) : OwnB w B' a n f := by
  rcases h with h | ⟨g, rfl, hg, hr⟩
  · exact Or.inl h
  · exact Or.inr ⟨g, rfl, by omega, hr⟩

theorem OwnB.congr {w : World} {B : Nat} {a : Option Addr} {n : Nat} {f f' : Nat → Int} (h : OwnB w B a n f) (e : ∀ i, i < n → f i = f' i) : OwnB w B a n f' := by
  rcases h with h | ⟨g, rfl, hg, hr⟩
  · exact Or.inl h
  · exact Or.inr ⟨g, rfl, hg, hr.congr (fun i hi => by rw [e i hi])⟩

theorem OwnB.below {w w' : World} {B : Nat} {a : Option Addr} {n : Nat} {f : Nat → Int} (h : OwnB w B a n f) (hb : Below w.heap.size w w') : OwnB w' B a n f := by
  rcases h with h | ⟨g, rfl, hg, hr⟩
  · exact Or.inl h
  · exact Or.inr ⟨g, rfl, hg, hr.of_block (hb.block g hr.lt)⟩

theorem OwnB.only {w w' : World} {B : Nat} {a a' : Option Addr} {n : Nat} {f : Nat → Int} (h : OwnB w B a n f) (ho : OnlyAt a' w w') (hne : n ≠ 0 → ∀ x y, a = some x → a' = some y → y.block ≠ x.block) : OwnB w' B a n f := by
  rcases h with h | ⟨g, rfl, hg, hr⟩
  · exact Or.inl h
  · by_cases hn : n = 0
    · exact Or.inl hn
    · exact Or.inr ⟨g, rfl, hg, hr.of_block (ho.block g (fun y e => hne hn ⟨g, 0, none⟩ y rfl e))⟩
end Go.Proofs.Ytbpcafcipncloaa
