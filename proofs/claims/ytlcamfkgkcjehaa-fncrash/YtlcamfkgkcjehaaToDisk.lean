import Derived.Test.YtlcamfkgkcjehaaToByteS
import Derived.Test.YtlcamfkgkcjehaaOwnP
namespace Go.Proofs.Ytlcamfkgkcjehaa
open Go.RowKit Go.Deep

theorem Try.info49 : (Try.prog.info? 49).map (fun i => (i.zero, i.size, i.bytes)) = some (some (.agg #[.int .i64 0, .slice none 0 0]), 2, 32) := by kernel_rfl

/-- A write put into its place among those that the call has made. -/
theorem OwnPA.put {w w2 : World} {B gC m : Nat} {S : Nat → Int} {L : Nat → Nat} {F : Nat → Nat → Int} {A : Nat → Option Addr} {C : Nat → Nat} (h : OwnPA w B gC m S L F A C) (hB : B ≤ w.heap.size) (hb : Below w.heap.size w w2) (k : Nat) (s : Int) (g n c : Nat) (f : Nat → Int)
    (hg : w.heap.size ≤ g) (hr : rowIn w2 g 5 n (fun i => .int .u8 (f i))) :
    OwnPA ((w2.setCell ⟨gC, k * 2, none⟩ (.int .i64 s)).setCell ⟨gC, k * 2 + 1, none⟩ (.slice (some ⟨g, 0, none⟩) n c)) B gC m (fun i => if i = k then s else S i) (fun i => if i = k then n else L i) (fun i => if i = k then f else F i)
      (fun i => if i = k then some ⟨g, 0, none⟩ else A i) (fun i => if i = k then c else C i) := by
  have hrow2 : rowIn w2 gC 49 (m * 2) (pendCell S A L C) := h.row.of_block (hb.block gC h.row.lt)
  have hne : g ≠ gC := hr.ne hrow2 (by decide)
  refine ⟨h.le, ((hrow2.set (k * 2) _).set (k * 2 + 1) _).congr (fun x hx => ?_), fun i hi => ?_, fun i j hi hj hij hl1 hl2 => ?_⟩
  · unfold pendCell
    by_cases e1 : x = k * 2 + 1
    · subst e1
      have q1 : ¬ (k * 2 + 1) % 2 = 0 := by omega
      have q2 : (k * 2 + 1) / 2 = k := by omega
      simp only [if_true, q1, q2, if_false]
    · by_cases e2 : x = k * 2
      · subst e2
        have q1 : (k * 2) % 2 = 0 := by omega
        have q2 : (k * 2) / 2 = k := by omega
        simp [q1, q2]
      · have q : ¬ x / 2 = k := by omega
        simp only [if_neg e1, if_neg e2, q, if_false]
  · by_cases e : i = k
    · subst e
      simp only [if_true]
      exact Or.inr ⟨g, rfl, by omega, (hr.setOther (by simpa using hne) _).setOther (by simpa using hne) _⟩
    · simp only [if_neg e]
      rcases (h.each i hi).below hb with h0 | ⟨g', hA, hg', hr'⟩
      · exact Or.inl h0
      · have hne' : g' ≠ gC := hr'.ne hrow2 (by decide)
        exact Or.inr ⟨g', hA, hg', (hr'.setOther (by simpa using hne') _).setOther (by simpa using hne') _⟩
  · have key : ∀ j, j < m → L j ≠ 0 → A j ≠ some ⟨g, 0, none⟩ := by
      intro j hj hl e
      rcases h.each j hj with h0 | ⟨g', hA, hg', hr'⟩
      · exact hl h0
      · rw [hA] at e
        injection e with e
        injection e with e
        have := hr'.lt
        omega
    by_cases e1 : i = k
    · by_cases e2 : j = k
      · omega
      · simp only [if_pos e1, if_neg e2] at hl2 ⊢
        exact fun e => key j hj hl2 e.symm
    · by_cases e2 : j = k
      · simp only [if_neg e1, if_pos e2] at hl1 ⊢
        exact key i hi hl1
      · simp only [if_neg e1, if_neg e2] at hl1 hl2 ⊢
        exact h.apart i j hi hj hij hl1 hl2

theorem made2 (w : World) (m : Nat) : rowIn (w.alloc (.cells (madeCells #[.int .i64 0, .slice none 0 0] (m * 2)) 49)) w.heap.size 49 (m * 2) (pendCell (fun _ => 0) (fun _ => none) (fun _ => 0) (fun _ => 0)) := by
  refine ⟨_, blk_alloc_new _ _, by rw [size_madeCells]; exact Nat.le_refl _, fun i hi => ?_⟩
  unfold pendCell
  by_cases e : i % 2 = 0
  · simp [madeCells, hi, e]
  · have e1 : i % 2 = 1 := by omega
    simp [madeCells, hi, e1]

end Go.Proofs.Ytlcamfkgkcjehaa
