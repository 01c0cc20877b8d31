import Derived.Test.YtcnollkkigiobaaGreatTrD
import Derived.Test.YtcnollkkigiobaaGreatTrE
namespace Go.Proofs.YtcnollkkigiobaaGreat
open Go.RowKit Go.Deep
set_option linter.unusedVariables false
set_option maxRecDepth 100000

/-- How many nodes lie in front of child k. -/
def offR (d : Nat) (l : List (Ro d)) (k : Nat) : Nat := ((l.take k).map (nodesR d)).sum

theorem offR_zero (d : Nat) (l : List (Ro d)) : offR d l 0 = 0 := by simp [offR]
theorem offR_succ (d : Nat) (l : List (Ro d)) (k : Nat) (h : k < l.length) : offR d l (k + 1) = offR d l k + nodesR d l[k] := by
  unfold offR
  rw [← List.take_append_getElem h, List.map_append, List.sum_append]
  simp
theorem offR_all (d : Nat) (l : List (Ro d)) : offR d l l.length = (l.map (nodesR d)).sum := by
  unfold offR
  rw [List.take_length]
theorem offR_mono (d : Nat) (l : List (Ro d)) {j k : Nat} (h : j ≤ k) (hk : k ≤ l.length) : offR d l j ≤ offR d l k := by
  induction k with
  | zero => have : j = 0 := by omega
            subst this; exact Nat.le_refl _
  | succ k ih =>
    by_cases e : j = k + 1
    · subst e; exact Nat.le_refl _
    · have := ih (by omega) (by omega)
      rw [offR_succ d l k (by omega)]
      omega
theorem offR_le (d : Nat) (l : List (Ro d)) (k : Nat) (h : k < l.length) : offR d l k + nodesR d l[k] ≤ (l.map (nodesR d)).sum := by
  rw [← offR_succ d l k h, ← offR_all]
  exact offR_mono d l (by omega) (Nat.le_refl _)
theorem offR_find (d : Nat) (l : List (Ro d)) (m : Nat) (h : m < (l.map (nodesR d)).sum) : ∃ k, ∃ hk : k < l.length, offR d l k ≤ m ∧ m < offR d l k + nodesR d l[k] := by
  have key : ∀ k, k ≤ l.length → m < offR d l k → ∃ k, ∃ hk : k < l.length, offR d l k ≤ m ∧ m < offR d l k + nodesR d l[k] := by
    intro k
    induction k with
    | zero => intro _ h; rw [offR_zero] at h; omega
    | succ k ih =>
      intro hk h
      by_cases e : m < offR d l k
      · exact ih (by omega) e
      · rw [offR_succ d l k (by omega)] at h
        exact ⟨k, by omega, by omega, h⟩
  exact key l.length (Nat.le_refl _) (by rw [offR_all]; exact h)

/-- The nodes from number x on tell a tree; base: what is added to the numbers of children. -/
def Tells (F : Nat → Tn) (base : Int) : (d : Nat) → Ro d → Nat → Prop
  | 0, _, _ => False
  | d + 1, .inl t, x => (F x).lf = true ∧ (F x).kn = t.length ∧ (∀ j, j < t.length → (F x).ks j = gt t j) ∧ (F x).dn = 0 ∧ (F x).ct = (t.length : Int)
  | d + 1, .inr l, x => (F x).lf = false ∧ (F x).dn = l.length ∧ (F x).ct = ((l.flatMap (keysR d)).length : Int) ∧ (F x).kn + 1 = l.length ∧ (∀ k, k < l.length → (F x).kd k = base + ((x + 1 + offR d l k : Nat) : Int)) ∧
      (∀ k (h : k + 1 < l.length), (F x).ks k = gt (keysR d l[k + 1]) 0) ∧ ∀ k (h : k < l.length), Tells F base d l[k] (x + 1 + offR d l k)

theorem Tells.shift {F G : Nat → Tn} {base : Int} {s : Nat} : ∀ {d : Nat} {t : Ro d} {x : Nat}, (∀ i, x ≤ i → i < x + nodesR d t → SameN (G i) (F (i + s))) → Tells G (base + (s : Int)) d t x → Tells F base d t (x + s)
  | 0, _, _, _, h => h
  | d + 1, .inl t, x, hFG, h => by
    obtain ⟨h1, h2, h3, h4, h5⟩ := h
    obtain ⟨q1, q2, q3, q4, q5, q6⟩ := hFG x (Nat.le_refl _) (Nat.lt_succ_self _)
    exact ⟨by rw [← q1]; exact h1, by rw [← q3]; exact h2, fun j hj => by rw [← q5 j (by omega)]; exact h3 j hj, by rw [← q4]; exact h4, by rw [← q2]; exact h5⟩
  | d + 1, .inr l, x, hFG, h => by
    obtain ⟨h1, h2, h3, h4, h5, h6, h7⟩ := h
    have hn : nodesR (d + 1) (.inr l) = 1 + (l.map (nodesR d)).sum := rfl
    obtain ⟨q1, q2, q3, q4, q5, q6⟩ := hFG x (Nat.le_refl _) (by omega)
    refine ⟨by rw [← q1]; exact h1, by rw [← q4]; exact h2, by rw [← q2]; exact h3, by rw [← q3]; exact h4, fun k hk => ?_, fun k hk => ?_, fun k hk => ?_⟩
    · rw [← q6 k (by omega), h5 k hk]
      omega
    · rw [← q5 k (by omega)]
      exact h6 k hk
    · have hle := offR_le d l k hk
      have := Tells.shift (F := F) (G := G) (base := base) (s := s) (fun i hi1 hi2 => hFG i (by omega) (by omega)) (h7 k hk)
      rwa [show x + 1 + offR d l k + s = x + s + 1 + offR d l k by omega] at this

theorem Tells.congr {F G : Nat → Tn} {base : Int} {d : Nat} {t : Ro d} {x : Nat} (hFG : ∀ i, x ≤ i → i < x + nodesR d t → SameN (G i) (F i)) (h : Tells G base d t x) : Tells F base d t x :=
  Tells.shift (s := 0) (fun i h1 h2 => hFG i h1 h2) (by simpa using h)

/-- A tree tells its nodes. -/
theorem Tells.same {F G : Nat → Tn} {base : Int} : ∀ {d : Nat} {t : Ro d} {x : Nat}, Tells F base d t x → Tells G base d t x → ∀ i, x ≤ i → i < x + nodesR d t → SameN (F i) (G i)
  | 0, _, _, h, _, _, _, _ => h.elim
  | d + 1, .inl t, x, h, g, i, hi1, hi2 => by
    have hn : nodesR (d + 1) (.inl t) = 1 := rfl
    have e : i = x := by omega
    subst e
    obtain ⟨h1, h2, h3, h4, h5⟩ := h
    obtain ⟨g1, g2, g3, g4, g5⟩ := g
    exact ⟨h1.trans g1.symm, h5.trans g5.symm, h2.trans g2.symm, h4.trans g4.symm, fun j hj => (h3 j (by omega)).trans (g3 j (by omega)).symm, fun j hj => by omega⟩
  | d + 1, .inr l, x, h, g, i, hi1, hi2 => by
    have hn : nodesR (d + 1) (.inr l) = 1 + (l.map (nodesR d)).sum := rfl
    obtain ⟨h1, h2, h3, h4, h5, h6, h7⟩ := h
    obtain ⟨g1, g2, g3, g4, g5, g6, g7⟩ := g
    by_cases e : i = x
    · subst e
      exact ⟨h1.trans g1.symm, h3.trans g3.symm, by omega, h2.trans g2.symm, fun j hj => (h6 j (by omega)).trans (g6 j (by omega)).symm, fun j hj => (h5 j (by omega)).trans (g5 j (by omega)).symm⟩
    · obtain ⟨k, hk, k1, k2⟩ := offR_find d l (i - (x + 1)) (by omega)
      exact Tells.same (h7 k hk) (g7 k hk) i (by omega) (by omega)

theorem flat_pos {T : Type} (f : T → List ByteArray) (l : List T) (h0 : 0 < l.length) (h : ∀ t, t ∈ l → 0 < (f t).length) : 0 < (l.flatMap f).length := by
  cases l with
  | nil => simp at h0
  | cons t l =>
    rw [List.flatMap_cons, List.length_append]
    have := h t (by simp)
    omega

/-- A balanced tree that is no root has keys. -/
theorem bal_pos : ∀ {d : Nat} {t : Ro d} {h : Nat}, BalR d false t h → 0 < (keysR d t).length
  | 0, t, _, _ => t.elim
  | d + 1, .inl t, h, hb => by
    obtain ⟨_, _, h2⟩ := hb
    have : 2 ≤ t.length := by simpa using h2
    show 0 < t.length
    omega
  | d + 1, .inr l, h, hb => by
    obtain ⟨h2, _, h', _, hall⟩ := hb
    exact flat_pos _ l (by omega) (fun t ht => bal_pos (hall t ht))

/-- The first key below child j. -/
def hd (d : Nat) (l : List (Ro d)) (j : Nat) : ByteArray := match l[j]? with
  | some t => gt (keysR d t) 0
  | none => { data := #[] }
def hdL (d : Nat) (l : List (Ro d)) (k : Nat) : List ByteArray := (List.range (k - 1)).map fun j => hd d l (j + 1)
def stL (a : Int) (d : Nat) (l : List (Ro d)) (k : Nat) : List Int := (List.range k).map fun j => a + ((1 + offR d l j : Nat) : Int)
theorem hdL_length (d : Nat) (l : List (Ro d)) (k : Nat) : (hdL d l k).length = k - 1 := by simp [hdL]
theorem stL_length (a : Int) (d : Nat) (l : List (Ro d)) (k : Nat) : (stL a d l k).length = k := by simp [stL]
theorem hdL_succ (d : Nat) (l : List (Ro d)) (k : Nat) (h : 0 < k) : hdL d l (k + 1) = hdL d l k ++ [hd d l k] := by
  unfold hdL
  rw [show k + 1 - 1 = (k - 1) + 1 by omega, List.range_succ, List.map_append]
  simp
  rw [show k - 1 + 1 = k by omega]
theorem stL_succ (a : Int) (d : Nat) (l : List (Ro d)) (k : Nat) : stL a d l (k + 1) = stL a d l k ++ [a + ((1 + offR d l k : Nat) : Int)] := by
  unfold stL
  rw [List.range_succ, List.map_append]
  simp
theorem hd_get (d : Nat) (l : List (Ro d)) (j : Nat) (h : j < l.length) : hd d l j = gt (keysR d l[j]) 0 := by
  unfold hd
  rw [List.getElem?_eq_getElem h]
/-- An element of a list of numbers. -/
def gi (l : List Int) (i : Nat) : Int := l.getD i 0
theorem gi_stL (a : Int) (d : Nat) (l : List (Ro d)) (k j : Nat) (h : j < k) : gi (stL a d l k) j = a + ((1 + offR d l j : Nat) : Int) := by
  unfold gi stL
  simp [List.getD_eq_getElem?_getD, h]
theorem gt_hdL (d : Nat) (l : List (Ro d)) (k j : Nat) (h : j < k - 1) : gt (hdL d l k) j = hd d l (j + 1) := by
  unfold gt hdL
  simp [List.getD_eq_getElem?_getD, h]
end Go.Proofs.YtcnollkkigiobaaGreat
