import Derived.Test.YtlcamfkgkcjehaaMarkB
import Derived.Test.YtlcamfkgkcjehaaOwnP
namespace Go.Proofs.Ytlcamfkgkcjehaa
open Go.RowKit Go.Deep

/-- w' is w but for the row of writes and their bytes. -/
structure OnlyP (gC m : Nat) (L : Nat → Nat) (A : Nat → Option Addr) (w w' : World) : Prop where
  os : w'.os = w.os
  tape : w'.tape = w.tape
  output : w'.output = w.output
  size : w'.heap.size = w.heap.size
  block : ∀ g, g ≠ gC → (∀ i, i < m → L i ≠ 0 → A i ≠ some ⟨g, 0, none⟩) → w'.heap[g]? = w.heap[g]?

theorem OnlyP.refl (gC m : Nat) (L : Nat → Nat) (A : Nat → Option Addr) (w : World) : OnlyP gC m L A w w := ⟨rfl, rfl, rfl, rfl, fun _ _ _ => rfl⟩

theorem OnlyP.below {B gC m : Nat} {L : Nat → Nat} {A : Nat → Option Addr} {w w' : World} (h : OnlyP gC m L A w w') (hC : B ≤ gC) (hA : ∀ i, i < m → L i ≠ 0 → ∀ x, A i = some x → B ≤ x.block) : Below B w w' :=
  ⟨h.os, h.tape, h.output, by rw [h.size]; exact Nat.le_refl _, fun k hk => h.block k (by omega) (fun i hi hl e => by have := hA i hi hl _ e; simp at this; omega)⟩

theorem OwnPA.setSec {w : World} {B gC m : Nat} {S : Nat → Int} {L : Nat → Nat} {F : Nat → Nat → Int} {A : Nat → Option Addr} {C : Nat → Nat} (h : OwnPA w B gC m S L F A C) (k : Nat) (v : Int) :
    OwnPA (w.setCell ⟨gC, k * 2, none⟩ (.int .i64 v)) B gC m (fun i => if i = k then v else S i) L F A C := by
  refine ⟨h.le, (h.row.set (k * 2) _).congr (fun c _ => ?_), fun i hi => ?_, h.apart⟩
  · by_cases e : c = k * 2
    · subst e; simp [pendCell_even]
    · rw [if_neg e]
      unfold pendCell
      by_cases e2 : c % 2 = 0
      · have : ¬ c / 2 = k := by omega
        simp [e2, this]
      · rw [if_neg e2, if_neg e2]
  · rcases h.each i hi with h0 | ⟨g, hA, hg, hr⟩
    · exact Or.inl h0
    · have hne : g ≠ gC := hr.ne h.row (by decide)
      exact Or.inr ⟨g, hA, hg, hr.of_block (Below.heap_setCell _ _ _ _ hne)⟩

theorem OwnPA.setBytes {w w2 : World} {B gC m : Nat} {S : Nat → Int} {L : Nat → Nat} {F : Nat → Nat → Int} {A : Nat → Option Addr} {C : Nat → Nat} (h : OwnPA w B gC m S L F A C) (k : Nat) (hk : k < m) (f' : Nat → Int)
    (hb : OwnB w2 B (A k) (L k) f') (ho : OnlyAt (A k) w w2) (hz : L k = 0 → w2 = w) :
    OwnPA w2 B gC m S L (fun i => if i = k then f' else F i) A C := by
  by_cases hl : L k = 0
  · have e := hz hl
    subst e
    refine ⟨h.le, h.row, fun i hi => ?_, h.apart⟩
    by_cases e : i = k
    · subst e; exact Or.inl hl
    · simp only [if_neg e]; exact h.each i hi
  · have hbk := h.each k hk
    rcases hbk with h0 | ⟨g, hA, hg, hr⟩
    · exact absurd h0 hl
    · have hne : g ≠ gC := hr.ne h.row (by decide)
      refine ⟨h.le, h.row.of_block (ho.block gC (fun x e => by rw [hA] at e; injection e with e; subst e; exact hne)), fun i hi => ?_, h.apart⟩
      by_cases e : i = k
      · subst e; simp only [if_true]; exact hb
      · simp only [if_neg e]
        refine (h.each i hi).only ho (fun hn x y hx hy => ?_)
        intro hxy
        rcases h.each i hi with h0 | ⟨g', hA', _, _⟩
        · exact hn h0
        · rw [hA] at hy; injection hy with hy; subst hy
          rw [hA'] at hx; injection hx with hx; subst hx
          simp at hxy
          subst hxy
          exact h.apart i k hi hk e hn hl (by rw [hA, hA'])

theorem OnlyP.setSec {gC m : Nat} {L : Nat → Nat} {A : Nat → Option Addr} {w w' : World} (h : OnlyP gC m L A w w') (k : Nat) (v : Value) : OnlyP gC m L A w (w'.setCell ⟨gC, k, none⟩ v) :=
  ⟨h.os, h.tape, h.output, by rw [← h.size]; simp [World.setCell], fun g hg hA => by rw [← h.block g hg hA]; exact Below.heap_setCell _ _ _ _ hg⟩

theorem OnlyP.setBytes {gC m : Nat} {L : Nat → Nat} {A : Nat → Option Addr} {w w' w2 : World} (h : OnlyP gC m L A w w') (k : Nat) (hk : k < m) (hz : L k = 0 → w2 = w') (ho : OnlyAt (A k) w' w2) (hA0 : L k ≠ 0 → ∃ g, A k = some ⟨g, 0, none⟩) : OnlyP gC m L A w w2 := by
  by_cases hl : L k = 0
  · rw [hz hl]; exact h
  · refine ⟨ho.os.trans h.os, ho.tape.trans h.tape, ho.output.trans h.output, ho.size.trans h.size, fun g hg hA => ?_⟩
    rw [← h.block g hg hA]
    refine ho.block g (fun x hx e => ?_)
    obtain ⟨g', hg'⟩ := hA0 hl
    rw [hg'] at hx
    injection hx with hx
    subst hx
    simp at e
    subst e
    exact hA k hk hl hg'

end Go.Proofs.Ytlcamfkgkcjehaa
