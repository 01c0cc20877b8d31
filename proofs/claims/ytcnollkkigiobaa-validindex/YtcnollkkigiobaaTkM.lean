import Derived.Test.YtcnollkkigiobaaTiR
namespace Go.Proofs.Ytcnollkkigiobaa
open Go.RowKit Go.Deep
set_option linter.unusedVariables false
set_option maxRecDepth 100000

/-- Keys that ascend. -/
def Asc (L : List ByteArray) : Prop := L.Pairwise (fun a b => Op.bytesLess a.toList b.toList = true)
/-- How many keys are less than a key. -/
def cntL (key : ByteArray) (L : List ByteArray) : Nat := (L.filter (fun k => Op.bytesLess k.toList key.toList)).length

theorem asc_of_ascK {L : List ByteArray} (h : AscK L L.length) : Asc L := by
  unfold Asc
  rw [List.pairwise_iff_getElem]
  intro i j hi hj hij
  have q := asc_less (X := gt L) (k := L.length) (fun m hm h0 => (h m hm).2 h0) j hj i hij
  unfold gt at q
  rw [List.getD_eq_getElem?_getD, List.getD_eq_getElem?_getD, List.getElem?_eq_getElem hi, List.getElem?_eq_getElem hj] at q
  exact q

theorem cntL_app (key : ByteArray) (L M : List ByteArray) : cntL key (L ++ M) = cntL key L + cntL key M := by
  unfold cntL
  rw [List.filter_append, List.length_append]
theorem cntL_all {key : ByteArray} {L : List ByteArray} (h : ∀ k, k ∈ L → Op.bytesLess k.toList key.toList = true) : cntL key L = L.length := by
  unfold cntL
  rw [List.filter_eq_self.2 h]
theorem cntL_none {key : ByteArray} {L : List ByteArray} (h : ∀ k, k ∈ L → Op.bytesLess k.toList key.toList = false) : cntL key L = 0 := by
  unfold cntL
  rw [List.length_eq_zero_iff, List.filter_eq_nil_iff]
  intro k hk
  rw [h k hk]
  simp

/-- Where less and not less part, the count is the place. -/
theorem cntL_at {key : ByteArray} {L : List ByteArray} {i : Nat} (hi : i ≤ L.length) (h1 : ∀ j, j < i → Op.bytesLess (gt L j).toList key.toList = true) (h2 : ∀ j, i ≤ j → j < L.length → Op.bytesLess (gt L j).toList key.toList = false) : cntL key L = i := by
  rw [← List.take_append_drop i L, cntL_app, cntL_all, cntL_none, List.length_take]
  · omega
  · intro k hk
    obtain ⟨j, hj, rfl⟩ := List.getElem_of_mem hk
    rw [List.length_drop] at hj
    have q := h2 (i + j) (by omega) (by omega)
    unfold gt at q
    rw [List.getD_eq_getElem?_getD, List.getElem?_eq_getElem (by omega)] at q
    rw [List.getElem_drop]
    exact q
  · intro k hk
    obtain ⟨j, hj, rfl⟩ := List.getElem_of_mem hk
    rw [List.length_take] at hj
    have q := h1 j (by omega)
    unfold gt at q
    rw [List.getD_eq_getElem?_getD, List.getElem?_eq_getElem (by omega)] at q
    rw [List.getElem_take]
    exact q

theorem gt_mem {L : List ByteArray} {i : Nat} (h : i < L.length) : gt L i ∈ L := by
  unfold gt
  rw [List.getD_eq_getElem?_getD, List.getElem?_eq_getElem h]
  exact List.getElem_mem h

theorem asc_lt {L : List ByteArray} (h : Asc L) {i j : Nat} (hij : i < j) (hj : j < L.length) : Op.bytesLess (gt L i).toList (gt L j).toList = true := by
  have q := List.pairwise_iff_getElem.1 h i j (by omega) hj hij
  unfold gt
  rw [List.getD_eq_getElem?_getD, List.getD_eq_getElem?_getD, List.getElem?_eq_getElem (by omega), List.getElem?_eq_getElem hj]
  exact q

theorem less_asym {a b : List UInt8} (h : Op.bytesLess a b = true) : Op.bytesLess b a = false := by
  cases e : Op.bytesLess b a with
  | false => rfl
  | true =>
    have := less_trans _ _ _ h e
    rw [less_irrefl] at this
    cases this

/-- 'not key < x' and 'x < y' : 'not key <= ..'. -/
theorem less_of_le {x y z : List UInt8} (h : Op.bytesLess y x = false) (h2 : Op.bytesLess y z = true) : Op.bytesLess x z = true := by
  have t := less_total x y
  cases e : Op.bytesLess x y with
  | true => exact less_trans _ _ _ e h2
  | false =>
    rw [h, e] at t
    simp at t
    rw [← t]
    exact h2
theorem less_of_lt_le {x y z : List UInt8} (h : Op.bytesLess x y = true) (h2 : Op.bytesLess z y = false) : Op.bytesLess x z = true := by
  have t := less_total y z
  cases e : Op.bytesLess y z with
  | true => exact less_trans _ _ _ h e
  | false =>
    rw [h2, e] at t
    simp at t
    rw [t]
    exact h

/-- The child that a key belongs to counts for all: those in front are less, those behind are not. -/
theorem cntL_kid {d : Nat} {l : List (Ro d)} {key : ByteArray} {i : Nat} (hi : i < l.length) (ha : Asc (l.flatMap (keysR d))) (hp : ∀ k (h : k < l.length), 0 < (keysR d l[k]).length) (h1 : 0 < i → Op.bytesLess key.toList (gt (keysR d l[i]) 0).toList = false) (h2 : ∀ h : i + 1 < l.length, Op.bytesLess key.toList (gt (keysR d l[i + 1]) 0).toList = true) :
    cntL key (l.flatMap (keysR d)) = ((l.take i).flatMap (keysR d)).length + cntL key (keysR d l[i]) := by
  have e : l = l.take i ++ (l[i] :: l.drop (i + 1)) := by
    conv => lhs; rw [← List.take_append_drop (i + 1) l, ← List.take_append_getElem hi]
    simp
  have ef : l.flatMap (keysR d) = (l.take i).flatMap (keysR d) ++ (keysR d l[i] ++ (l.drop (i + 1)).flatMap (keysR d)) := by
    conv => lhs; rw [e]
    rw [List.flatMap_append, List.flatMap_cons]
  rw [ef] at ha ⊢
  unfold Asc at ha
  rw [List.pairwise_append] at ha
  obtain ⟨_, ha2, ha3⟩ := ha
  rw [List.pairwise_append] at ha2
  obtain ⟨_, ha4, ha5⟩ := ha2
  rw [cntL_app, cntL_app, cntL_all, cntL_none (L := (l.drop (i + 1)).flatMap (keysR d))]
  · rfl
  · intro k hk
    by_cases hl : i + 1 < l.length
    · have h3 := h2 hl
      have hd : l.drop (i + 1) = l[i + 1] :: l.drop (i + 2) := List.drop_eq_getElem_cons hl
      rw [hd, List.flatMap_cons] at hk ha4
      rw [List.pairwise_append] at ha4
      obtain ⟨q1, _, q3⟩ := ha4
      have hf : gt (keysR d l[i + 1]) 0 ∈ keysR d l[i + 1] := gt_mem (hp (i + 1) hl)
      rcases List.mem_append.1 hk with hk | hk
      · obtain ⟨j, hj, rfl⟩ := List.getElem_of_mem hk
        by_cases e0 : j = 0
        · subst e0
          have : (keysR d l[i + 1])[0] = gt (keysR d l[i + 1]) 0 := by
            unfold gt
            rw [List.getD_eq_getElem?_getD, List.getElem?_eq_getElem hj]
            rfl
          rw [this]
          exact less_asym h3
        · have := asc_lt q1 (show 0 < j by omega) hj
          have e1 : (keysR d l[i + 1])[j] = gt (keysR d l[i + 1]) j := by
            unfold gt
            rw [List.getD_eq_getElem?_getD, List.getElem?_eq_getElem hj]
            rfl
          rw [e1]
          exact less_asym (less_trans _ _ _ h3 this)
      · exact less_asym (less_trans _ _ _ h3 (q3 _ hf _ hk))
    · rw [List.drop_eq_nil_of_le (by omega)] at hk
      simp at hk
  · intro k hk
    by_cases h0 : 0 < i
    · have hf : gt (keysR d l[i]) 0 ∈ keysR d l[i] := gt_mem (hp i hi)
      have := ha3 k hk (gt (keysR d l[i]) 0) (List.mem_append_left _ hf)
      exact less_of_lt_le this (h1 h0)
    · have : i = 0 := by omega
      subst this
      simp at hk

theorem asc_kid {d : Nat} {l : List (Ro d)} (ha : Asc (l.flatMap (keysR d))) (i : Nat) (hi : i < l.length) : Asc (keysR d l[i]) := by
  have e : l = l.take i ++ (l[i] :: l.drop (i + 1)) := by
    conv => lhs; rw [← List.take_append_drop (i + 1) l, ← List.take_append_getElem hi]
    simp
  rw [e, List.flatMap_append, List.flatMap_cons] at ha
  unfold Asc at ha ⊢
  rw [List.pairwise_append] at ha
  have := ha.2.1
  rw [List.pairwise_append] at this
  exact this.1
end Go.Proofs.Ytcnollkkigiobaa
