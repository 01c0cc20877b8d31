import Derived.Test.YtcnollkkigiobaaGreatRows
import Derived.Test.YtcnollkkigiobaaGreatTnR
namespace Go.Proofs.YtcnollkkigiobaaGreat
set_option linter.unusedVariables false

/-- Trees of any shape, less than d high: a leaf's keys, or a node's children. -/
def Ro : Nat → Type
  | 0 => Empty
  | d + 1 => Sum (List ByteArray) (List (Ro d))

/-- How many nodes a tree has. -/
def nodesR : (d : Nat) → Ro d → Nat
  | 0, t => t.elim
  | d + 1, .inl _ => 1
  | d + 1, .inr l => 1 + (l.map (nodesR d)).sum

/-- The keys, left to right. -/
def keysR : (d : Nat) → Ro d → List ByteArray
  | 0, t => t.elim
  | d + 1, .inl t => t
  | d + 1, .inr l => l.flatMap (keysR d)

/-- All leaves lie h deep, and no node but the root has fewer than two keys or children, none more than four. -/
def BalR : (d : Nat) → Bool → Ro d → Nat → Prop
  | 0, _, t, _ => t.elim
  | d + 1, root, .inl t, h => h = 0 ∧ t.length ≤ 4 ∧ (root = true ∨ 2 ≤ t.length)
  | d + 1, root, .inr l, h => 2 ≤ l.length ∧ l.length ≤ 4 ∧ ∃ h', h = h' + 1 ∧ ∀ t, t ∈ l → BalR d false t h'

theorem sum_ge {l : List Nat} {k : Nat} (h : ∀ x, x ∈ l → k ≤ x) : l.length * k ≤ l.sum := by
  induction l with
  | nil => simp
  | cons x l ih =>
    have h1 := h x (by simp)
    have h2 := ih (fun y hy => h y (by simp [hy]))
    simp only [List.length_cons, List.sum_cons, Nat.add_mul, Nat.one_mul]
    omega

/-- A balanced tree h high has at least 2^h nodes. -/
theorem BalR.nodes : ∀ {d : Nat} {root : Bool} {t : Ro d} {h : Nat}, BalR d root t h → 2 ^ h ≤ nodesR d t
  | 0, root, t, h, hb => t.elim
  | d + 1, root, .inl t, h, hb => by
    obtain ⟨rfl, _⟩ := hb
    exact Nat.le_refl _
  | d + 1, root, .inr l, h, hb => by
    obtain ⟨h2, _, h', rfl, hall⟩ := hb
    have h1 : ∀ x, x ∈ l.map (nodesR d) → 2 ^ h' ≤ x := by
      intro x hx
      obtain ⟨t, ht, rfl⟩ := List.mem_map.1 hx
      exact BalR.nodes (hall t ht)
    have h3 := sum_ge h1
    rw [List.length_map] at h3
    have h4 : 2 * 2 ^ h' ≤ l.length * 2 ^ h' := Nat.mul_le_mul_right _ h2
    show 2 ^ (h' + 1) ≤ 1 + (l.map (nodesR d)).sum
    rw [Nat.pow_succ]
    omega

/-- With 5000 nodes at most, the bound of 20 is never met. -/
theorem BalR.low {d : Nat} {root : Bool} {t : Ro d} {h : Nat} (hb : BalR d root t h) (hn : nodesR d t ≤ 5000) : h ≤ 12 := by
  rcases Nat.lt_or_ge h 13 with q | q
  · omega
  · have h1 := hb.nodes
    have h2 : 2 ^ 13 ≤ 2 ^ h := Nat.pow_le_pow_right (by decide) q
    have h3 : 2 ^ 13 = 8192 := by decide
    omega

/-- The first k children whose numbers are told, one behind the other. -/
def kidsF {T : Type} (f : Nat → Option (T × Nat)) (kd : Nat → Int) (x : Nat) : Nat → Option (List T × Nat)
  | 0 => some ([], x)
  | k + 1 => match kidsF f kd x k with
    | some (ts, e) => if kd k = (e : Int) then (match f e with
      | some (t, e') => some (ts ++ [t], e')
      | none => none) else none
    | none => none

/-- The keys of a node as a list. -/
def ksL (x : Tn) : List ByteArray := (List.range x.kn).map x.ks
theorem ksL_length (x : Tn) : (ksL x).length = x.kn := by simp [ksL]
/-- An element of a list of keys. -/
def gt (l : List ByteArray) (i : Nat) : ByteArray := l.getD i { data := #[] }
theorem gt_ksL (x : Tn) (i : Nat) (h : i < x.kn) : gt (ksL x) i = x.ks i := by
  unfold gt ksL
  simp [List.getD_eq_getElem?_getD, h]

/-- The tree that n nodes tell from number x on, and the number behind it. -/
def nestR (N : Nat → Tn) (n : Nat) : (d : Nat) → Nat → Option (Ro d × Nat)
  | 0, _ => none
  | d + 1, x => if x < n then
      (if (N x).lf = true then (if (N x).dn = 0 then some (.inl (ksL (N x)), x + 1) else none)
       else (if (N x).dn = 0 then none else (match kidsF (nestR N n d) (N x).kd (x + 1) (N x).dn with
        | some (ts, e) => some (.inr ts, e)
        | none => none)))
    else none

theorem kidsF_none {T : Type} {f : Nat → Option (T × Nat)} {kd : Nat → Int} {x k m : Nat} (h : kidsF f kd x k = none) (hk : k ≤ m) : kidsF f kd x m = none := by
  induction m with
  | zero =>
    have e : k = 0 := by omega
    subst e
    exact h
  | succ m ih =>
    by_cases e : k = m + 1
    · subst e
      exact h
    · unfold kidsF
      rw [ih (by omega)]

theorem kidsF_end {T : Type} {f : Nat → Option (T × Nat)} {g : T → Nat} (hf : ∀ x t e, f x = some (t, e) → e = x + g t) {kd : Nat → Int} {x : Nat} : ∀ {k : Nat} {ts : List T} {e : Nat}, kidsF f kd x k = some (ts, e) → e = x + (ts.map g).sum ∧ ts.length = k
  | 0, ts, e, h => by
    simp only [kidsF, Option.some.injEq, Prod.mk.injEq] at h
    obtain ⟨rfl, rfl⟩ := h
    simp
  | k + 1, ts, e, h => by
    unfold kidsF at h
    split at h
    · rename_i ts1 e1 h1
      obtain ⟨q2, q3⟩ := kidsF_end hf h1
      split at h
      · split at h
        · rename_i t e2 h2
          simp only [Option.some.injEq, Prod.mk.injEq] at h
          obtain ⟨rfl, rfl⟩ := h
          have q1 := hf _ _ _ h2
          simp only [List.map_append, List.sum_append, List.length_append, List.map_cons, List.map_nil, List.sum_cons, List.sum_nil, List.length_cons, List.length_nil]
          exact ⟨by omega, by omega⟩
        · cases h
      · cases h
    · cases h

/-- A tree ends behind as many nodes as it has. -/
theorem nestR_end {N : Nat → Tn} {n : Nat} : ∀ {d x : Nat} {t : Ro d} {e : Nat}, nestR N n d x = some (t, e) → e = x + nodesR d t
  | 0, x, t, e, h => t.elim
  | d + 1, x, t, e, h => by
    unfold nestR at h
    split at h
    · split at h
      · split at h
        · injection h with h
          cases h
          rfl
        · cases h
      · split at h
        · cases h
        · split at h
          · rename_i ts e1 h1
            injection h with h
            cases h
            have q := (kidsF_end (g := nodesR d) (fun x t e hx => nestR_end hx) h1).1
            show e = x + (1 + (ts.map (nodesR d)).sum)
            omega
          · cases h
    · cases h

theorem kidsF_le {T : Type} {f : Nat → Option (T × Nat)} {n : Nat} (hf : ∀ x t e, f x = some (t, e) → x < e ∧ e ≤ n) {kd : Nat → Int} {x : Nat} (hx : x ≤ n) : ∀ {k : Nat} {ts : List T} {e : Nat}, kidsF f kd x k = some (ts, e) → e ≤ n ∧ x ≤ e
  | 0, ts, e, h => by
    simp only [kidsF, Option.some.injEq, Prod.mk.injEq] at h
    omega
  | k + 1, ts, e, h => by
    unfold kidsF at h
    split at h
    · rename_i ts1 e1 h1
      have q := kidsF_le hf hx h1
      split at h
      · split at h
        · rename_i t e2 h2
          simp only [Option.some.injEq, Prod.mk.injEq] at h
          obtain ⟨rfl, rfl⟩ := h
          have q1 := hf _ _ _ h2
          omega
        · cases h
      · cases h
    · cases h

theorem nestR_le {N : Nat → Tn} {n : Nat} : ∀ {d x : Nat} {t : Ro d} {e : Nat}, nestR N n d x = some (t, e) → x < e ∧ e ≤ n
  | 0, x, t, e, h => t.elim
  | d + 1, x, t, e, h => by
    unfold nestR at h
    split at h
    · rename_i hx
      split at h
      · split at h
        · injection h with h
          cases h
          omega
        · cases h
      · split at h
        · cases h
        · split at h
          · rename_i ts e1 h1
            injection h with h
            cases h
            have q := kidsF_le (n := n) (fun x t e hx => nestR_le hx) (by omega) h1
            omega
          · cases h
    · cases h
end Go.Proofs.YtcnollkkigiobaaGreat
