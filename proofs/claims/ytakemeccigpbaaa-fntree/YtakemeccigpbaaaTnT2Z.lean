import Derived.Test.YtakemeccigpbaaaTnTo
import Derived.Test.YtakemeccigpbaaaTnSzZ
namespace Go.Proofs.Ytakemeccigpbaaa
open Go.RowKit Go.Deep
set_option linter.unusedVariables false
set_option maxRecDepth 100000

/-- A node put into its place among those that the call has made. -/
theorem OwnTn.put {w w2 : World} {B g m : Nat} {M : Nat → Tn} {KA DA : Nat → Option Addr} {KC DC : Nat → Nat} (h : OwnTn w B g m M KA DA KC DC) (hB : B ≤ w.heap.size) (hb : Below w.heap.size w w2) (k : Nat) (x : Tn) (gk gd ck cd : Nat)
    (hgk : w.heap.size ≤ gk) (hgd : w.heap.size ≤ gd) (hrk : rowIn w2 gk 9 x.kn (fun i => .string (x.ks i))) (hrd : rowIn w2 gd 2 x.dn (fun i => .int .i64 (x.kd i))) :
    OwnTn ((((w2.setCell ⟨g, k * 4, none⟩ (.bool x.lf)).setCell ⟨g, k * 4 + 1, none⟩ (.slice (some ⟨gk, 0, none⟩) x.kn ck)).setCell ⟨g, k * 4 + 2, none⟩ (.slice (some ⟨gd, 0, none⟩) x.dn cd)).setCell ⟨g, k * 4 + 3, none⟩ (.int .i64 x.ct)) B g m (fun i => if i = k then x else M i)
      (fun i => if i = k then some ⟨gk, 0, none⟩ else KA i) (fun i => if i = k then some ⟨gd, 0, none⟩ else DA i) (fun i => if i = k then ck else KC i) (fun i => if i = k then cd else DC i) := by
  have hrow2 : rowIn w2 g 88 (m * 4) (tnCell M KA DA KC DC) := h.row.of_block (hb.block g h.row.lt)
  have hnk : gk ≠ g := hrk.ne hrow2 (by decide)
  have hnd : gd ≠ g := hrd.ne hrow2 (by decide)
  refine ⟨h.le, ((((hrow2.set (k * 4) _).set (k * 4 + 1) _).set (k * 4 + 2) _).set (k * 4 + 3) _).congr (fun y hy => ?_), fun i hi => ?_, fun i hi => ?_, fun i j hi hj hij hl1 hl2 => ?_, fun i j hi hj hij hl1 hl2 => ?_⟩
  · unfold tnCell
    by_cases e : y / 4 = k
    · have h4 : y = k * 4 ∨ y = k * 4 + 1 ∨ y = k * 4 + 2 ∨ y = k * 4 + 3 := by omega
      rcases h4 with rfl | rfl | rfl | rfl
      · have q1 : (k * 4) % 4 = 0 := by omega
        have q2 : (k * 4) / 4 = k := by omega
        simp [q1, q2]
      · have q1 : (k * 4 + 1) % 4 = 1 := by omega
        have q2 : (k * 4 + 1) / 4 = k := by omega
        simp [q1, q2]
      · have q1 : (k * 4 + 2) % 4 = 2 := by omega
        have q2 : (k * 4 + 2) / 4 = k := by omega
        simp [q1, q2]
      · have q1 : (k * 4 + 3) % 4 = 3 := by omega
        have q2 : (k * 4 + 3) / 4 = k := by omega
        simp [q1, q2]
    · have e0 : ¬ y = k * 4 := by omega
      have e1 : ¬ y = k * 4 + 1 := by omega
      have e2 : ¬ y = k * 4 + 2 := by omega
      have e3 : ¬ y = k * 4 + 3 := by omega
      simp only [if_neg e, if_neg e0, if_neg e1, if_neg e2, if_neg e3]
  · by_cases e : i = k
    · simp only [if_pos e]
      exact Or.inr ⟨gk, rfl, by omega, (((hrk.setOther (by simpa using hnk) _).setOther (by simpa using hnk) _).setOther (by simpa using hnk) _).setOther (by simpa using hnk) _⟩
    · simp only [if_neg e]
      rcases (h.keys i hi).below hb with h0 | ⟨g', hA, hg', hr'⟩
      · exact Or.inl h0
      · have hne' : g' ≠ g := hr'.ne hrow2 (by decide)
        exact Or.inr ⟨g', hA, hg', (((hr'.setOther (by simpa using hne') _).setOther (by simpa using hne') _).setOther (by simpa using hne') _).setOther (by simpa using hne') _⟩
  · by_cases e : i = k
    · simp only [if_pos e]
      exact Or.inr ⟨gd, rfl, by omega, (((hrd.setOther (by simpa using hnd) _).setOther (by simpa using hnd) _).setOther (by simpa using hnd) _).setOther (by simpa using hnd) _⟩
    · simp only [if_neg e]
      rcases (h.kids i hi).below hb with h0 | ⟨g', hA, hg', hr'⟩
      · exact Or.inl h0
      · have hne' : g' ≠ g := hr'.ne hrow2 (by decide)
        exact Or.inr ⟨g', hA, hg', (((hr'.setOther (by simpa using hne') _).setOther (by simpa using hne') _).setOther (by simpa using hne') _).setOther (by simpa using hne') _⟩
  · have key : ∀ j, j < m → (M j).kn ≠ 0 → KA j ≠ some ⟨gk, 0, none⟩ := by
      intro j hj hl e
      rcases h.keys j hj with h0 | ⟨g', hA, hg', hr'⟩
      · exact hl h0
      · rw [hA] at e
        injection e with e
        injection e with e
        have := hr'.lt
        omega
    by_cases e1 : i = k
    · by_cases e2 : j = k
      · omega
      · simp only [if_pos e1, if_neg e2] at hl2 ⊢
        exact fun e => key j hj hl2 e.symm
    · by_cases e2 : j = k
      · simp only [if_neg e1, if_pos e2] at hl1 ⊢
        exact key i hi hl1
      · simp only [if_neg e1, if_neg e2] at hl1 hl2 ⊢
        exact h.apartK i j hi hj hij hl1 hl2
  · have key : ∀ j, j < m → (M j).dn ≠ 0 → DA j ≠ some ⟨gd, 0, none⟩ := by
      intro j hj hl e
      rcases h.kids j hj with h0 | ⟨g', hA, hg', hr'⟩
      · exact hl h0
      · rw [hA] at e
        injection e with e
        injection e with e
        have := hr'.lt
        omega
    by_cases e1 : i = k
    · by_cases e2 : j = k
      · omega
      · simp only [if_pos e1, if_neg e2] at hl2 ⊢
        exact fun e => key j hj hl2 e.symm
    · by_cases e2 : j = k
      · simp only [if_neg e1, if_pos e2] at hl1 ⊢
        exact key i hi hl1
      · simp only [if_neg e1, if_neg e2] at hl1 hl2 ⊢
        exact h.apartD i j hi hj hij hl1 hl2

def zTn : Tn := ⟨false, 0, fun _ => { data := #[] }, 0, fun _ => 0, 0⟩
/-- The first k nodes, the others empty. -/
def cutN (N : Nat → Tn) (k i : Nat) : Tn := if i < k then N i else zTn

end Go.Proofs.Ytakemeccigpbaaa
