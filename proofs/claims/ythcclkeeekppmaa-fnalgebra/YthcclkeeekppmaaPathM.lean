import Derived.Test.YthcclkeeekppmaaPnT
namespace Go.Proofs.Ythcclkeeekppmaa

/-- How many nodes stand open behind the first i, a being the nodes' counts of operands. -/
def dep (a : Nat → Nat) : Nat → Int
  | 0 => 0
  | i + 1 => dep a i - a i + 1

/-- The first n nodes can be read: each finds its operands. -/
def StackOk (a : Nat → Nat) (n : Nat) : Prop := ∀ i, i < n → (a i : Int) ≤ dep a i

theorem dep_succ (a : Nat → Nat) (i : Nat) : dep a (i + 1) = dep a i - a i + 1 := rfl
theorem dep_up (a : Nat → Nat) (i : Nat) : dep a (i + 1) ≤ dep a i + 1 := by rw [dep_succ]; omega

theorem StackOk.pos {a : Nat → Nat} {n : Nat} (h : StackOk a n) : ∀ j, 0 < j → j ≤ n → 1 ≤ dep a j
  | 0, h0, _ => absurd h0 (Nat.lt_irrefl _)
  | j + 1, _, h1 => by
    have := h j (by omega)
    rw [dep_succ]
    omega

theorem stackOk_iff (a : Nat → Nat) (n : Nat) : StackOk a n ↔ ∀ j, 0 < j → j ≤ n → 1 ≤ dep a j := by
  constructor
  · intro h j h0 h1
    exact h.pos j h0 h1
  · intro h i hi
    have := h (i + 1) (by omega) (by omega)
    rw [dep_succ] at this
    omega

/-- Going down by ones at most, every depth between is met. -/
theorem dep_meet (a : Nat → Nat) (d : Int) : ∀ (e j : Nat), j ≤ e → dep a j ≤ d → d ≤ dep a e → ∃ k, j ≤ k ∧ k ≤ e ∧ dep a k = d
  | 0, j, hj, h1, h2 => ⟨0, by omega, by omega, by have : j = 0 := by omega
                                                   subst this; omega⟩
  | e + 1, j, hj, h1, h2 => by
    by_cases h : d ≤ dep a e
    · by_cases h3 : j = e + 1
      · subst h3; exact ⟨e + 1, by omega, by omega, by omega⟩
      · obtain ⟨k, k1, k2, k3⟩ := dep_meet a d e j (by omega) h1 h
        exact ⟨k, k1, by omega, k3⟩
    · have := dep_up a e
      exact ⟨e + 1, hj, by omega, by omega⟩

/-- What the specification counts from the end: how many nodes are still wanted ahead of j, behind it e nodes having been told. -/
def need (a : Nat → Nat) (e j : Nat) : Int := 1 - dep a e + dep a j
theorem need_end (a : Nat → Nat) (e : Nat) : need a e e = 1 := by unfold need; omega
theorem need_step (a : Nat → Nat) (e j : Nat) : need a e j = need a e (j + 1) - 1 + a j := by unfold need; rw [dep_succ]; omega

/-- The subtree that ends ahead of e begins at s. -/
def Begins (a : Nat → Nat) (e s : Nat) : Prop := s < e ∧ need a e s = 0 ∧ ∀ j, s < j → j ≤ e → 0 < need a e j

theorem Begins.uniq {a : Nat → Nat} {e s s' : Nat} (h : Begins a e s) (h' : Begins a e s') : s = s' := by
  rcases Nat.lt_trichotomy s s' with hl | hl | hl
  · have := h.2.2 s' hl (by have := h'.1; omega)
    have := h'.2.1
    omega
  · exact hl
  · have := h'.2.2 s hl (by have := h.1; omega)
    have := h.2.1
    omega

/-- In nodes that can be read, every node's subtree begins somewhere. -/
theorem StackOk.begins {a : Nat → Nat} {n : Nat} (h : StackOk a n) : ∀ e, 0 < e → e ≤ n → ∃ s, Begins a e s := by
  intro e h0 h1
  have hp := h.pos e h0 h1
  have key : ∀ k, k ≤ e → (∀ j, e - k < j → j ≤ e → 0 < need a e j) ∨ ∃ s, Begins a e s := by
    intro k
    induction k with
    | zero => exact fun _ => Or.inl (fun j h2 h3 => absurd h2 (by omega))
    | succ k ih =>
      intro hk
      rcases ih (by omega) with h2 | h2
      · by_cases hz : need a e (e - k) = 0
        · have hk0 : k ≠ 0 := fun e0 => by subst e0; rw [Nat.sub_zero, need_end] at hz; omega
          exact Or.inr ⟨e - k, by omega, hz, h2⟩
        · refine Or.inl (fun j h3 h4 => ?_)
          by_cases hj : j = e - k
          · subst hj
            by_cases hk0 : k = 0
            · subst hk0; rw [Nat.sub_zero, need_end]; omega
            · have h5 := h2 (e - k + 1) (by omega) (by omega)
              have h6 := need_step a e (e - k)
              omega
          · exact h2 j (by omega) h4
      · exact Or.inr h2
  rcases key e (Nat.le_refl _) with h2 | h2
  · refine ⟨0, h0, ?_, fun j hj hje => h2 j (by omega) hje⟩
    have h3 := h2 1 (by omega) (by omega)
    have h4 : need a e 0 = need a e 1 - 1 + a 0 := need_step a e 0
    have h5 : dep a 0 = 0 := rfl
    have h6 : need a e 0 = 1 - dep a e := by unfold need; rw [h5]; omega
    omega
  · exact h2

/-- The whole is one tree: counted from the end it begins at 0. -/
theorem whole_iff (a : Nat → Nat) (n : Nat) (hn : 0 < n) : Begins a n 0 ↔ (StackOk a n ∧ dep a n = 1) := by
  constructor
  · rintro ⟨_, h1, h2⟩
    have hd : dep a n = 1 := by
      unfold need at h1
      have : dep a 0 = 0 := rfl
      omega
    refine ⟨(stackOk_iff a n).2 (fun j h3 h4 => ?_), hd⟩
    have := h2 j h3 h4
    unfold need at this
    omega
  · rintro ⟨h1, h2⟩
    refine ⟨hn, ?_, fun j h3 h4 => ?_⟩
    · unfold need
      have : dep a 0 = 0 := rfl
      omega
    · have := h1.pos j h3 h4
      unfold need
      omega

/-- Where the node that lies k-th in the stack behind e nodes stands: the last whose depth is k. -/
def StackAt (a : Nat → Nat) (e k r : Nat) : Prop := r < e ∧ dep a (r + 1) = k ∧ ∀ j, r < j → j < e → k < dep a (j + 1)

theorem StackAt.uniq {a : Nat → Nat} {e k r r' : Nat} (h : StackAt a e k r) (h' : StackAt a e k r') : r = r' := by
  rcases Nat.lt_trichotomy r r' with hl | hl | hl
  · have := h.2.2 r' hl h'.1
    have := h'.2.1
    omega
  · exact hl
  · have := h'.2.2 r hl h.1
    have := h.2.1
    omega

/-- The node that has just been read lies on top. -/
theorem stackAt_top {a : Nat → Nat} {e k : Nat} (hk : dep a (e + 1) = k) : StackAt a (e + 1) k e := ⟨by omega, hk, fun j h1 h2 => absurd h1 (by omega)⟩

/-- Those that lie below the operands stay. -/
theorem StackAt.stay {a : Nat → Nat} {e k r : Nat} (h : StackAt a e k r) (hk : (k : Int) ≤ dep a e - a e) : StackAt a (e + 1) k r := by
  refine ⟨by have := h.1; omega, h.2.1, fun j h1 h2 => ?_⟩
  by_cases e1 : j = e
  · subst e1; rw [dep_succ]; omega
  · exact h.2.2 j h1 (by omega)

/-- Ahead of the subtree that ends at e lies the next node of the stack. -/
theorem Begins.next {a : Nat → Nat} {e s k : Nat} (h : Begins a e s) (hk : dep a e = k + 1) (h0 : 0 < k) : ∃ r, s = r + 1 ∧ StackAt a e k r := by
  obtain ⟨h1, h2, h3⟩ := h
  unfold need at h2
  cases s with
  | zero =>
    have : dep a 0 = 0 := rfl
    omega
  | succ r =>
    refine ⟨r, rfl, by omega, by omega, fun j h4 h5 => ?_⟩
    have := h3 (j + 1) (by omega) (by omega)
    unfold need at this
    omega
end Go.Proofs.Ythcclkeeekppmaa
