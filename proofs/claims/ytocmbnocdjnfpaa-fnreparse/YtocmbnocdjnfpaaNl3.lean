import Derived.Test.YtocmbnocdjnfpaaNl2
import Derived.Test.YtocmbnocdjnfpaaPpC
import Derived.Test.YtocmbnocdjnfpaaPpD
import Derived.Test.YtocmbnocdjnfpaaNm1
import Derived.Test.YtocmbnocdjnfpaaPpK
import Derived.Deep.CutRange
namespace Go.Proofs.Ytocmbnocdjnfpaa
open Go.RowKit Go.Deep
set_option linter.unusedVariables false
set_option maxRecDepth 100000

/-- The bytes x stand at p. -/
def AtB (f : Nat → Int) (n p : Nat) (x : List Int) : Prop := p + x.length ≤ n ∧ ∀ j (h : j < x.length), f (p + j) = x[j]
theorem AtB.app {f : Nat → Int} {n p : Nat} {x y : List Int} (h : AtB f n p (x ++ y)) : AtB f n p x ∧ AtB f n (p + x.length) y := by
  obtain ⟨h1, h2⟩ := h
  rw [List.length_append] at h1
  refine ⟨⟨by omega, fun j hj => ?_⟩, by omega, fun j hj => ?_⟩
  · rw [h2 j (by rw [List.length_append]; omega), List.getElem_append_left hj]
  · rw [Nat.add_assoc, h2 (x.length + j) (by rw [List.length_append]; omega), List.getElem_append_right (by omega)]
    simp
theorem AtB.head {f : Nat → Int} {n p : Nat} {b : Int} {y : List Int} (h : AtB f n p (b :: y)) : p < n ∧ f p = b ∧ AtB f n (p + 1) y := by
  have h' : AtB f n p ([b] ++ y) := h
  obtain ⟨h1, h2⟩ := h'.app
  refine ⟨?_, ?_, h2⟩
  · have := h1.1; simp at this; omega
  · have := h1.2 0 (by simp); simpa using this

section
variable {f : Nat → Int} {n k p : Nat}
theorem lx_sp (hp : p < n) (h : f p = 32) : endF isSp f n p = endF isSp f n (p + 1) := endSp_go hp h
theorem lx_sym (hk : tkPos f n k = endF isSp f n p) (hp : p < n) {b : Int} (h : f p = b) {c : Nat} (hc : cdS b = c) (hc0 : c ≠ 0) : (tkF f n k).c = c ∧ tkPos f n (k + 1) = endF isSp f n (p + 1) := by
  have hb := cdS_ne (x := b) (by rw [hc]; exact hc0)
  have e : tkPos f n k = p := by rw [hk]; exact endSp_at (by rw [h]; omega)
  have t : tkF f n k = ⟨c, [], p + 1⟩ := by
    show tkA f n (tkPos f n k) = _
    rw [e, tkA_sym hp (by rw [h]; omega) (by rw [h]; omega) (by rw [h, hc]; exact hc0), h, hc]
  refine ⟨by rw [t], ?_⟩
  show endF isSp f n (tkF f n k).e = _
  rw [t]
theorem lx_quo_go {q : List Int} : ∀ (s : List Int) (q0 : List Int) (p : Nat), (∀ x, x ∈ s → 0 ≤ x ∧ x < 256) → AtB f n p (s.flatMap qB ++ [34]) → quoF f n p q0 = quoF f n (p + (s.flatMap qB).length) (q0 ++ s)
  | [], q0, p, _, _ => by simp
  | x :: s, q0, p, hs, h => by
    have hx := hs x (List.mem_cons_self ..)
    rw [List.flatMap_cons, List.append_assoc] at h
    obtain ⟨h1, h2⟩ := h.app
    have ih := fun q => lx_quo_go (q := q0) s q _ (fun y hy => hs y (List.mem_cons_of_mem _ hy)) h2
    have fin : ∀ l, pcB f n p = some (x, l) → (qB x).length = l → f p ≠ 34 → p < n → quoF f n p q0 = quoF f n (p + ((x :: s).flatMap qB).length) (q0 ++ x :: s) := by
      intro l hp hl h34 hpn
      rw [quoF_go hpn h34 hp, ← hl, ih, List.flatMap_cons, List.length_append]
      rw [show p + (qB x).length + (s.flatMap qB).length = p + ((qB x).length + (s.flatMap qB).length) by omega]
      simp
    by_cases c1 : x = 34 ∨ x = 92
    · have e : qB x = [92, x] := by unfold qB; rw [if_pos c1]
      rw [e] at h1
      obtain ⟨a1, a2, a3⟩ := h1.head
      obtain ⟨b1, b2, _⟩ := a3.head
      refine fin 2 ?_ (by rw [e]; rfl) (by omega) a1
      unfold pcB
      rw [if_pos a2, b2, if_pos ⟨b1, by omega⟩]
    · by_cases c2 : 32 ≤ x ∧ x ≤ 126
      · have e : qB x = [x] := by unfold qB; rw [if_neg c1, if_pos c2]
        rw [e] at h1
        obtain ⟨a1, a2, _⟩ := h1.head
        refine fin 1 ?_ (by rw [e]; rfl) (by omega) a1
        unfold pcB
        rw [a2, if_neg (by omega), if_pos c2]
      · have e : qB x = [92, 120, hexC (x.toNat / 16), hexC (x.toNat % 16)] := by unfold qB; rw [if_neg c1, if_neg c2]
        rw [e] at h1
        obtain ⟨a1, a2, a3⟩ := h1.head
        obtain ⟨b1, b2, b3⟩ := a3.head
        obtain ⟨d1, d2, d3⟩ := b3.head
        obtain ⟨e1, e2, _⟩ := d3.head
        have hh : ∀ m, m < 16 → hxV (hexC m) = (m : Int) := by decide
        refine fin 4 ?_ (by rw [e]; rfl) (by omega) a1
        unfold pcB
        rw [if_pos a2, b2, show p + 2 = p + 1 + 1 by omega, d2, show p + 3 = p + 1 + 1 + 1 by omega, e2, if_neg (by omega), hh _ (by omega), hh _ (by omega), if_pos ⟨by omega, rfl, by omega, by omega⟩]
        congr 2
        omega
theorem lx_quo (hk : tkPos f n k = endF isSp f n p) {s : List Int} (hs : txL s) (h : AtB f n p (qL s)) : (tkF f n k).c = 14 ∧ (tkF f n k).q = s ∧ tkPos f n (k + 1) = endF isSp f n (p + (qL s).length) := by
  have h' : AtB f n p (34 :: (s.flatMap qB ++ [34])) := h
  obtain ⟨h1, h2, h3⟩ := h'.head
  have e : tkPos f n k = p := by rw [hk]; exact endSp_at (by omega)
  have hg := lx_quo_go (q := []) s [] (p + 1) hs.2.2 h3
  obtain ⟨_, h4⟩ := h3.app
  obtain ⟨g1, g2, _⟩ := h4.head
  rw [quoF_end (by omega) (fun e => e.2 g2), List.nil_append, if_pos ⟨g1, hs.1, hs.2.1⟩] at hg
  have t : tkF f n k = ⟨14, s, p + 1 + (s.flatMap qB).length + 1⟩ := by
    show tkA f n (tkPos f n k) = _
    rw [e]
    exact tkA_quo h1 h2 hg
  refine ⟨by rw [t], by rw [t], ?_⟩
  show endF isSp f n (tkF f n k).e = _
  rw [t]
  show endF isSp f n (p + 1 + (s.flatMap qB).length + 1) = _
  congr 1
  unfold qL
  simp
  omega
theorem endF_word {q : List Int} : ∀ (q : List Int) (p : Nat), (∀ x, x ∈ q → 97 ≤ x ∧ x ≤ 122) → AtB f n p q → (p + q.length < n → ¬ (97 ≤ f (p + q.length) ∧ f (p + q.length) ≤ 122)) → endF isLt f n p = p + q.length
  | [], p, _, _, hn => by
    show endF isLt f n p = p + 0
    exact endF_stop (fun e => hn (by simpa using e.1) ((isLt_iff _).1 e.2))
  | x :: q, p, hq, h, hn => by
    obtain ⟨h1, h2, h3⟩ := h.head
    rw [endF_go h1 ((isLt_iff _).2 (by rw [h2]; exact hq x (List.mem_cons_self ..))), endF_word (q := q) q (p + 1) (fun y hy => hq y (List.mem_cons_of_mem _ hy)) h3 (by rw [show p + 1 + q.length = p + (x :: q).length by simp; omega]; exact hn)]
    simp
    omega
theorem seg_at {q : List Int} (h : AtB f n p q) : seg f p (p + q.length) = q := by
  apply List.ext_getElem
  · rw [seg_length]; omega
  · intro i h1 h2
    unfold seg
    simp
    exact h.2 i h2
theorem lx_word (hk : tkPos f n k = endF isSp f n p) {q : List Int} (h : AtB f n p q) (h0 : q ≠ []) (hq : ∀ x, x ∈ q → 97 ≤ x ∧ x ≤ 122) (hn : p + q.length < n → ¬ (97 ≤ f (p + q.length) ∧ f (p + q.length) ≤ 122)) {c : Nat} (hc : cdW q = c) (hc0 : c ≠ 0) : (tkF f n k).c = c ∧ tkPos f n (k + 1) = endF isSp f n (p + q.length) := by
  have he := endF_word (q := q) q p hq h hn
  obtain ⟨x, t, rfl⟩ : ∃ x t, q = x :: t := by
    cases q with
    | nil => exact absurd rfl h0
    | cons x t => exact ⟨x, t, rfl⟩
  obtain ⟨h1, h2, _⟩ := h.head
  have hx := hq x (List.mem_cons_self ..)
  have e : tkPos f n k = p := by rw [hk]; exact endSp_at (by omega)
  have tt : tkF f n k = ⟨c, [], p + (x :: t).length⟩ := by
    show tkA f n (tkPos f n k) = _
    rw [e, tkA_word h1 (by omega) (by rw [he, seg_at h, hc]; exact hc0), he, seg_at h, hc]
  refine ⟨by rw [tt], ?_⟩
  show endF isSp f n (tkF f n k).e = _
  rw [tt]
end
end Go.Proofs.Ytocmbnocdjnfpaa

namespace Go.Proofs.Ytocmbnocdjnfpaa
open Go.RowKit Go.Deep
set_option linter.unusedVariables false
set_option maxRecDepth 100000

theorem emS_size {x : ByteArray} (h : emS x = true) : x.size ≤ 30 := by
  have := emS_yes h
  have e : x.toList = x.data.toList := by rw [ByteArray.toList_eq]
  rw [e] at this
  have : x.data.size = 0 := by rw [← Array.length_toList, this]; rfl
  show x.data.size ≤ 30
  omega
theorem txS_size {x : ByteArray} (h : txS x = true) : x.size ≤ 30 := by
  unfold txS at h
  simp at h
  exact h.2
theorem gn_good {k : Int} {s t : ByteArray} (h : gnB k s t = true) : (1 ≤ k ∧ k ≤ 9) ∧ s.size ≤ 30 ∧ t.size ≤ 30 := by
  unfold gnB at h
  split at h
  · simp only [Bool.and_eq_true] at h
    exact ⟨by omega, emS_size h.1, emS_size h.2⟩
  · split at h
    · simp only [Bool.and_eq_true] at h
      exact ⟨by omega, txS_size h.1, emS_size h.2⟩
    · split at h
      · simp only [Bool.and_eq_true] at h
        exact ⟨by omega, txS_size h.1, txS_size h.2⟩
      · cases h
theorem VPth.gd {n : Nat} {I : Nat → Int} {X R : Nat → ByteArray} (h : VPth n I X R) : GdN n I X R := fun i hi => by
  obtain ⟨h1, h2, h3⟩ := gn_good (h.2.1 i hi)
  exact ⟨h1, by omega, by omega⟩
theorem VPth.gd30 {n : Nat} {I : Nat → Int} {X R : Nat → ByteArray} (h : VPth n I X R) (i : Nat) (hi : i < n) : (1 ≤ I i ∧ I i ≤ 9) ∧ (X i).size ≤ 30 ∧ (R i).size ≤ 30 := gn_good (h.2.1 i hi)
/-- The text of a path: pt. -/
def IsTx (n : Nat) (I : Nat → Int) (X R : Nat → ByteArray) (pt : List Int) : Prop := (VPth n I X R ∧ pt = T I X R (n - 1)) ∨ (¬ VPth n I X R ∧ pt = [])
theorem isTx_ex (n : Nat) (I : Nat → Int) (X R : Nat → ByteArray) : ∃ pt, IsTx n I X R pt := by
  by_cases h : VPth n I X R
  · exact ⟨_, .inl ⟨h, rfl⟩⟩
  · exact ⟨_, .inr ⟨h, rfl⟩⟩
theorem IsTx.len {n : Nat} {I : Nat → Int} {X R : Nat → ByteArray} {pt : List Int} (ht : IsTx n I X R pt) : pt.length ≤ 30000 := by
  rcases ht with ⟨h, rfl⟩ | ⟨_, rfl⟩
  · have h1 := h.1
    have := T_len h.gd n 0 (n - 1) (by omega) (by omega) (by simpa only [Nat.zero_add, show n - 1 + 1 = n by omega] using h.2.2.1)
    rw [Nat.zero_add] at this
    omega
  · simp

end Go.Proofs.Ytocmbnocdjnfpaa

namespace Go.Proofs.Ytocmbnocdjnfpaa
open Go.RowKit Go.Deep
set_option linter.unusedVariables false
set_option maxRecDepth 100000

section
variable {T : Nat → Tok} {A : Nat → Nat} {m : Nat}
theorem tk_ok {c i nd : Nat} {N : List Nd} (hc : (T i).c = c) (h1 : (T (i + 1)).c ≠ 0) (hn : 1 ≤ c ∧ c ≤ 9 → nd ≠ 100) : tkP T A c (.inl (i, nd, N)) = .inl (i + 1, nd + (if 1 ≤ c ∧ c ≤ 9 then 1 else 0), N) := by
  show (if (T i).c = c then (if 1 ≤ c ∧ c ≤ 9 then (if nd = 100 then .inr (4, (A i : Int)) else nrm T A (i + 1) (nd + 1) N) else nrm T A (i + 1) nd N) else .inr (3, (A i : Int))) = _
  rw [if_pos hc]
  by_cases h : 1 ≤ c ∧ c ≤ 9
  · rw [if_pos h, if_neg (hn h), if_pos h]
    unfold nrm
    rw [if_neg h1]
  · rw [if_neg h, if_neg h]
    unfold nrm
    rw [if_neg h1]
    rfl
theorem tk_sy {c i nd : Nat} {N : List Nd} (hc : (T i).c = c) (h9 : 9 < c) (h1 : (T (i + 1)).c ≠ 0) : tkP T A c (.inl (i, nd, N)) = .inl (i + 1, nd, N) := by
  rw [tk_ok hc h1 (fun e => by omega), if_neg (by omega)]
  rfl
theorem tk_mk {c i nd : Nat} {N : List Nd} (hc : (T i).c = c) (h0 : 1 ≤ c) (h9 : c ≤ 9) (h1 : (T (i + 1)).c ≠ 0) (hn : nd < 100) : tkP T A c (.inl (i, nd, N)) = .inl (i + 1, nd + 1, N) := by
  rw [tk_ok hc h1 (fun e => by omega), if_pos ⟨h0, h9⟩]
theorem call_ok {c i nd : Nat} {N : List Nd} (hc : (T i).c = c) (hc0 : 1 ≤ c) (hc9 : c ≤ 9) (h1 : (T (i + 1)).c = 11) (h2 : (T (i + 2)).c = 14) (h3 : (T (i + 3)).c = 12) (h4 : (T (i + 4)).c ≠ 0) (hnd : nd < 100) : callF T A c (.inl (i, nd, N)) = .inl (i + 4, nd + 1, N ++ [⟨c, (T (i + 2)).q, []⟩]) := by
  unfold callF
  rw [tk_mk hc hc0 hc9 (by omega) hnd, tk_sy h1 (by omega) (by rw [show i + 1 + 1 = i + 2 by omega]; omega), tk_q]
  rw [show i + 1 + 1 = i + 2 by omega, if_pos h2, tk_sy h2 (by omega) (by rw [show i + 2 + 1 = i + 3 by omega]; omega)]
  rw [show i + 2 + 1 = i + 3 by omega, tk_sy h3 (by omega) h4]
  rfl
theorem pc_op {s c i nd i1 nd1 i2 nd2 : Nat} {N N1 N2 : List Nd} (h : PC T A s (s + 1) i nd N (.inl (i1, nd1, N1))) (hc : (T i1).c = c) (hc1 : 6 ≤ c) (hc2 : c ≤ 8) (hsc : stg c = s) (hnd : nd1 < 100) (h1 : (T (i1 + 1)).c ≠ 0) (hk : PC T A (s + 1) (s + 1) (i1 + 1) (nd1 + 1) N1 (.inl (i2, nd2, N2))) : PC T A s (s + 1) i nd N (.inl (i2, nd2, N2 ++ [⟨c, [], []⟩])) := by
  have e := tk_mk (A := A) (N := N1) hc (by omega) (by omega) h1 hnd
  exact pc_two (σ3 := .inl (i2, nd2, N2)) h hc hc1 hc2 hsc (fun x q => by rw [e] at q; cases q) (fun i3 nd3 N3 q => by rw [e] at q; cases q; exact hk)
theorem pc_st2 (hq : ∀ i, (T i).c = 14 → txL (T i).q) {i nd i1 nd1 : Nat} {N N1 : List Nd} (h : PC T A 3 4 i nd N (.inl (i1, nd1, N1))) (h0 : (T i1).c = 10) (hc : (T (i1 + 1)).c = 5) (h1 : (T (i1 + 2)).c = 11) (h2 : (T (i1 + 3)).c = 14) (h3 : (T (i1 + 4)).c = 13) (h4 : (T (i1 + 5)).c = 14) (h5 : (T (i1 + 6)).c = 12) (h6 : (T (i1 + 7)).c ≠ 0) (hnd : nd1 < 100) : PC T A 3 4 i nd N (.inl (i1 + 7, nd1 + 1, N1 ++ [⟨5, (T (i1 + 3)).q, (T (i1 + 5)).q⟩])) := by
  have k := pc_move hq h h0
  rw [tk_sy h0 (by omega) (by omega)] at k
  have kk : kdS T (.inl (i1 + 1, nd1, N1)) = 5 := hc
  unfold moveF at k
  rw [kk, if_neg (by omega), if_pos rfl] at k
  unfold hasF at k
  rw [tk_mk hc (by omega) (by omega) (by rw [show i1 + 1 + 1 = i1 + 2 by omega]; omega) hnd] at k
  rw [show i1 + 1 + 1 = i1 + 2 by omega, tk_sy h1 (by omega) (by rw [show i1 + 2 + 1 = i1 + 3 by omega]; omega)] at k
  rw [show i1 + 2 + 1 = i1 + 3 by omega, tk_q, if_pos h2, tk_sy h2 (by omega) (by rw [show i1 + 3 + 1 = i1 + 4 by omega]; omega)] at k
  rw [show i1 + 3 + 1 = i1 + 4 by omega, tk_sy h3 (by omega) (by rw [show i1 + 4 + 1 = i1 + 5 by omega]; omega)] at k
  rw [show i1 + 4 + 1 = i1 + 5 by omega, tk_q, if_pos h4, tk_sy h4 (by omega) (by rw [show i1 + 5 + 1 = i1 + 6 by omega]; omega)] at k
  rw [show i1 + 5 + 1 = i1 + 6 by omega, tk_sy h5 (by omega) h6] at k
  exact k
theorem pc_st1 (hq : ∀ i, (T i).c = 14 → txL (T i).q) {c i nd i1 nd1 : Nat} {N N1 : List Nd} (h : PC T A 3 4 i nd N (.inl (i1, nd1, N1))) (h0 : (T i1).c = 10) (hc : (T (i1 + 1)).c = c) (hc34 : c = 3 ∨ c = 4) (h1 : (T (i1 + 2)).c = 11) (h2 : (T (i1 + 3)).c = 14) (h3 : (T (i1 + 4)).c = 12) (h4 : (T (i1 + 5)).c ≠ 0) (hnd : nd1 < 100) : PC T A 3 4 i nd N (.inl (i1 + 5, nd1 + 1, N1 ++ [⟨c, (T (i1 + 3)).q, []⟩])) := by
  have k := pc_move hq h h0
  rw [tk_sy h0 (by omega) (by omega)] at k
  have kk : kdS T (.inl (i1 + 1, nd1, N1)) = c := hc
  have e : callF T A c (.inl (i1 + 1, nd1, N1)) = .inl (i1 + 5, nd1 + 1, N1 ++ [⟨c, (T (i1 + 3)).q, []⟩]) := call_ok hc (by omega) (by omega) h1 h2 h3 h4 hnd
  unfold moveF at k
  rw [kk] at k
  rcases hc34 with rfl | rfl
  · rw [if_neg (by omega), if_neg (by omega), e] at k
    exact k
  · rw [if_pos rfl, e] at k
    exact k
theorem pc_paren (hq : ∀ i, (T i).c = 14 → txL (T i).q) (hl : LastK T m) {i nd : Nat} {N : List Nd} {σ : (Nat × Nat × List Nd) ⊕ (Int × Int)} (hi : i < m) (hc : (T i).c = 11) (h1 : (T (i + 1)).c ≠ 0) (hnd : nd ≤ 100) (hk : PC T A 1 1 (i + 1) nd N σ) : PC T A 3 4 i nd N (tkP T A 12 σ) := by
  have h := pc_prim hq hl (A := A) (rec := fun _ => σ) (N := N) hi (by omega) hnd (fun i' nd' N' _ _ _ _ e => by
    rcases e with e | e
    · rw [tk_sy hc (by omega) h1] at e
      cases e
      exact hk
    · obtain ⟨i2, nd2, N2, e2, _⟩ := tk_inv e
      obtain ⟨i3, nd3, N3, e3, _⟩ := tk_inv e2
      obtain ⟨i4, nd4, N4, e4, g4, _⟩ := tk_inv e3
      cases e4
      omega)
  have kk : kdS T (.inl (i, nd, N)) = 11 := hc
  unfold primF at h
  rw [kk, if_neg (by omega), if_neg (by omega), if_neg (by omega)] at h
  unfold innerF at h
  rw [tk_sy hc (by omega) h1] at h
  exact h
theorem pc_graph (hq : ∀ i, (T i).c = 14 → txL (T i).q) (hl : LastK T m) {i nd : Nat} {N : List Nd} {σ : (Nat × Nat × List Nd) ⊕ (Int × Int)} (hi : i < m) (hc : (T i).c = 9) (hc1 : (T (i + 1)).c = 14) (hc2 : (T (i + 2)).c = 11) (h1 : (T (i + 3)).c ≠ 0) (hnd : nd < 100) (hk : PC T A 1 1 (i + 3) (nd + 1) N σ) : PC T A 3 4 i nd N (emP ⟨9, (T (i + 1)).q, []⟩ (tkP T A 12 σ)) := by
  have h := pc_prim hq hl (A := A) (rec := fun _ => σ) (N := N) (nd := nd) hi (by omega) (by omega) (fun i' nd' N' _ _ _ _ e => by
    rcases e with e | e
    · obtain ⟨i4, nd4, N4, e4, g4, _⟩ := tk_inv e
      cases e4
      omega
    · rw [tk_mk hc (by omega) (by omega) (by omega) hnd, tk_sy hc1 (by omega) (by rw [show i + 1 + 1 = i + 2 by omega]; omega), tk_sy (i := i + 1 + 1) hc2 (by omega) h1] at e
      cases e
      exact hk)
  have kk : kdS T (.inl (i, nd, N)) = 9 := hc
  unfold primF at h
  rw [kk, if_neg (by omega), if_neg (by omega), if_pos rfl] at h
  unfold innerF at h
  rw [tk_mk hc (by omega) (by omega) (by omega) hnd, tk_sy hc1 (by omega) (by rw [show i + 1 + 1 = i + 2 by omega]; omega), tk_sy (i := i + 1 + 1) hc2 (by omega) h1, tk_q, if_pos hc1] at h
  exact h
theorem pc_all (hq : ∀ i, (T i).c = 14 → txL (T i).q) (hl : LastK T m) {i nd : Nat} {N : List Nd} (hi : i < m) (hc : (T i).c = 1) (h1 : (T (i + 1)).c ≠ 0) (hnd : nd < 100) : PC T A 3 4 i nd N (.inl (i + 1, nd + 1, N ++ [⟨1, [], []⟩])) := by
  have h := pc_prim hq hl (A := A) (rec := pathF T A m m) hi (by omega) (by omega) (N := N) (nd := nd) (fun i' nd' N' q1 q2 q3 q4 _ => pc_pathF hq hl m i' nd' N' q2 (by omega) q4 q3)
  have kk : kdS T (.inl (i, nd, N)) = 1 := hc
  unfold primF at h
  rw [kk, if_pos rfl, tk_mk hc (by omega) (by omega) h1 hnd] at h
  exact h
theorem pc_v (hq : ∀ i, (T i).c = 14 → txL (T i).q) (hl : LastK T m) {i nd : Nat} {N : List Nd} (hi : i < m) (hc : (T i).c = 2) (h1 : (T (i + 1)).c = 11) (h2 : (T (i + 2)).c = 14) (h3 : (T (i + 3)).c = 12) (h4 : (T (i + 4)).c ≠ 0) (hnd : nd < 100) : PC T A 3 4 i nd N (.inl (i + 4, nd + 1, N ++ [⟨2, (T (i + 2)).q, []⟩])) := by
  have h := pc_prim hq hl (A := A) (rec := pathF T A m m) hi (by omega) (by omega) (N := N) (nd := nd) (fun i' nd' N' q1 q2 q3 q4 _ => pc_pathF hq hl m i' nd' N' q2 (by omega) q4 q3)
  have kk : kdS T (.inl (i, nd, N)) = 2 := hc
  unfold primF at h
  rw [kk, if_neg (by omega), if_pos rfl, call_ok hc (by omega) (by omega) h1 h2 h3 h4 hnd] at h
  exact h
end
end Go.Proofs.Ytocmbnocdjnfpaa

namespace Go.Proofs.Ytocmbnocdjnfpaa
open Go.RowKit Go.Deep
set_option linter.unusedVariables false
set_option maxRecDepth 100000

/-- What a text is to the machine: its tokens make these nodes, at this strength. -/
def OPr (f : Nat → Int) (n m l p k : Nat) (x : List Int) (d : List Nd) : Prop :=
  (tkF f n k).c ≠ 0 ∧ ∃ k', k < k' ∧ k' < m ∧ tkPos f n k' = endF isSp f n (p + x.length) ∧ ∀ nd N0, (tkF f n k').c ≠ 0 → nd + d.length ≤ 100 → stopC (l + 1) (tkF f n k').c → PC (tkF f n) (tkPos f n) l (l + 1) k nd N0 (.inl (k', nd + d.length, N0 ++ d))
def NLt (f : Nat → Int) (n q : Nat) : Prop := q < n → ¬ (97 ≤ f q ∧ f q ≤ 122)
def GNd (f : Nat → Int) (n m l : Nat) (x : List Int) (d : List Nd) : Prop :=
  ∀ p k, k < m → tkPos f n k = endF isSp f n p → AtB f n p x → NLt f n (p + x.length) → OPr f n m l p k x d
section
variable {f : Nat → Int} {n m : Nat}

theorem nlt_of {q : Nat} {b : Int} (h : f q = b) (hb : b < 97 ∨ 122 < b) : NLt f n q := fun _ e => by omega

/-- In parentheses. -/
theorem gn_wrap (hq : ∀ i, (tkF f n i).c = 14 → txL (tkF f n i).q) (hl : LastK (tkF f n) m) {l : Nat} {x : List Int} {d : List Nd} (hl1 : 1 ≤ l) (h : GNd f n m l x d) : GNd f n m 3 ([[40], x, [41]].flatten) d := by
  intro p k hk hp ha hn
  have e : [[40], x, [41]].flatten = 40 :: (x ++ [41]) := by simp
  rw [e] at ha hn ⊢
  obtain ⟨a1, a2, a3⟩ := ha.head
  obtain ⟨b1, b2⟩ := a3.app
  obtain ⟨c1, c2, _⟩ := b2.head
  obtain ⟨t1, t2⟩ := lx_sym hp a1 a2 (c := 11) rfl (by omega)
  have hk1 := last_lt hl hk t1 (by omega) (by omega)
  obtain ⟨h0, k1, g1, g2, g3, g4⟩ := h (p + 1) (k + 1) hk1 t2 b1 (nlt_of c2 (by omega))
  obtain ⟨s1, s2⟩ := lx_sym g3 c1 c2 (c := 12) rfl (by omega)
  have hk2 := last_lt hl g2 s1 (by omega) (by omega)
  refine ⟨by omega, k1 + 1, by omega, hk2, ?_, fun nd N0 z1 z2 z3 => ?_⟩
  · rw [s2]
    congr 1
    simp
    omega
  · have pc := g4 nd N0 (by omega) z2 ⟨fun _ => by omega, fun _ => by omega, fun _ => ⟨by omega, by omega⟩⟩
    have pc2 : PC (tkF f n) (tkPos f n) 1 1 (k + 1) nd N0 (.inl (k1, nd + d.length, N0 ++ d)) := (pc.up hl1).stop ⟨fun _ => by show (tkF f n k1).c ≠ 10; omega, fun _ => by show (tkF f n k1).c ≠ 6; omega, fun _ => ⟨by show (tkF f n k1).c ≠ 7; omega, by show (tkF f n k1).c ≠ 8; omega⟩⟩
    have r := pc_paren hq hl hk t1 h0 (by omega) pc2
    rw [tk_sy s1 (by omega) z1] at r
    exact r
/-- An operand, in parentheses or not. -/
theorem gn_opd (hq : ∀ i, (tkF f n i).c = 14 → txL (tkF f n i).q) (hl : LastK (tkF f n) m) {l : Nat} {x : List Int} {d : List Nd} (hl1 : 1 ≤ l) (K : Int) (r : Bool) (kk : Int) (h : GNd f n m l x d) : GNd f n m (if wrB K r (sB kk) = true then 3 else l) (wrT K r kk x) d := by
  unfold wrT
  split
  · exact gn_wrap hq hl hl1 h
  · exact h
theorem lx_arg {p k : Nat} (hp : tkPos f n k = endF isSp f n p) {s : List Int} (hs : txL s) (h : AtB f n p (40 :: (qL s ++ [41]))) : (tkF f n k).c = 11 ∧ (tkF f n (k + 1)).c = 14 ∧ (tkF f n (k + 1)).q = s ∧ (tkF f n (k + 2)).c = 12 ∧ tkPos f n (k + 3) = endF isSp f n (p + 1 + (qL s).length + 1) := by
  obtain ⟨a1, a2, a3⟩ := h.head
  obtain ⟨b1, b2⟩ := a3.app
  obtain ⟨c1, c2, _⟩ := b2.head
  obtain ⟨t1, t2⟩ := lx_sym hp a1 a2 (c := 11) rfl (by omega)
  obtain ⟨u1, u2, u3⟩ := lx_quo t2 hs b1
  obtain ⟨v1, v2⟩ := lx_sym u3 c1 c2 (c := 12) rfl (by omega)
  exact ⟨t1, u1, u2, v1, v2⟩
theorem gn_all (hq : ∀ i, (tkF f n i).c = 14 → txL (tkF f n i).q) (hl : LastK (tkF f n) m) : GNd f n m 3 [97, 108, 108] [⟨1, [], []⟩] := by
  intro p k hk hp ha hn
  obtain ⟨t1, t2⟩ := lx_word hp ha (by simp) (by intro x hx; simp at hx; rcases hx with rfl | rfl | rfl <;> omega) hn (c := 1) rfl (by omega)
  have hk1 := last_lt hl hk t1 (by omega) (by omega)
  refine ⟨by omega, k + 1, by omega, hk1, t2, fun nd N0 z1 z2 z3 => ?_⟩
  have z2' : nd + 1 ≤ 100 := z2
  exact pc_all hq hl hk t1 z1 (by omega)
theorem gn_v (hq : ∀ i, (tkF f n i).c = 14 → txL (tkF f n i).q) (hl : LastK (tkF f n) m) {s : List Int} (hs : txL s) : GNd f n m 3 ([[118, 40], qL s, [41]].flatten) [⟨2, s, []⟩] := by
  intro p k hk hp ha hn
  have e : [[118, 40], qL s, [41]].flatten = [118] ++ 40 :: (qL s ++ [41]) := by simp
  rw [e] at ha hn ⊢
  obtain ⟨a1, a2⟩ := ha.app
  obtain ⟨_, a3, _⟩ := a2.head
  obtain ⟨t1, t2⟩ := lx_word hp a1 (by simp) (by intro x hx; simp at hx; omega) (nlt_of a3 (by omega)) (c := 2) rfl (by omega)
  obtain ⟨u1, u2, u3, u4, u5⟩ := lx_arg t2 hs a2
  have hk1 := last_lt hl hk t1 (by omega) (by omega)
  have hk2 := last_lt hl hk1 u1 (by omega) (by omega)
  have hk3 := last_lt hl hk2 u2 (by omega) (by omega)
  have hk4 := last_lt hl hk3 u4 (by omega) (by omega)
  refine ⟨by omega, k + 4, by omega, hk4, ?_, fun nd N0 z1 z2 z3 => ?_⟩
  · rw [show k + 4 = k + 1 + 3 by omega, u5]
    congr 1
    simp
    omega
  · have z2' : nd + 1 ≤ 100 := z2
    have r := pc_v hq hl (A := tkPos f n) (N := N0) hk t1 u1 u2 u4 z1 (show nd < 100 by omega)
    rw [show (tkF f n (k + 2)).q = s from u3] at r
    exact r
/-- A step. -/
theorem gn_st1 (hq : ∀ i, (tkF f n i).c = 14 → txL (tkF f n i).q) (hl : LastK (tkF f n) m) {l : Nat} {x : List Int} {d : List Nd} (hl3 : l = 3) (h : GNd f n m l x d) (c : Nat) (w : List Int) (hcw : (c = 3 ∧ w = [111, 117, 116]) ∨ (c = 4 ∧ w = [105, 110])) {s : List Int} (hs : txL s) : GNd f n m 3 (x ++ (46 :: (w ++ 40 :: (qL s ++ [41])))) (d ++ [⟨c, s, []⟩]) := by
  subst hl3
  intro p k hk hp ha hn
  obtain ⟨a1, a2⟩ := ha.app
  obtain ⟨b1, b2, b3⟩ := a2.head
  obtain ⟨d1, d2⟩ := b3.app
  obtain ⟨_, d3, _⟩ := d2.head
  obtain ⟨h0, k1, g1, g2, g3, g4⟩ := h p k hk hp a1 (nlt_of b2 (by omega))
  obtain ⟨t1, t2⟩ := lx_sym g3 b1 b2 (c := 10) rfl (by omega)
  have w0 : w ≠ [] ∧ (∀ x, x ∈ w → 97 ≤ x ∧ x ≤ 122) ∧ cdW w = c := by
    rcases hcw with ⟨rfl, rfl⟩ | ⟨rfl, rfl⟩
    · exact ⟨by simp, by intro x hx; simp at hx; rcases hx with rfl | rfl | rfl <;> omega, rfl⟩
    · exact ⟨by simp, by intro x hx; simp at hx; rcases hx with rfl | rfl <;> omega, rfl⟩
  obtain ⟨s1, s2⟩ := lx_word t2 d1 w0.1 w0.2.1 (nlt_of d3 (by omega)) (c := c) w0.2.2 (by omega)
  obtain ⟨u1, u2, u3, u4, u5⟩ := lx_arg s2 hs d2
  have hk1 := last_lt hl g2 t1 (by omega) (by omega)
  have hk2 := last_lt hl hk1 s1 (by omega) (by omega)
  have hk3 := last_lt hl hk2 u1 (by omega) (by omega)
  have hk4 := last_lt hl hk3 u2 (by omega) (by omega)
  have hk5 := last_lt hl hk4 u4 (by omega) (by omega)
  refine ⟨h0, k1 + 5, by omega, hk5, ?_, fun nd N0 z1 z2 z3 => ?_⟩
  · rw [show k1 + 5 = k1 + 1 + 1 + 3 by omega, u5]
    congr 1
    simp
    omega
  · rw [List.length_append, List.length_singleton] at z2
    have pc := g4 nd N0 (by omega) (by omega) ⟨fun e => absurd e (by omega), fun e => absurd e (by omega), fun e => absurd e (by omega)⟩
    have r := pc_st1 hq pc t1 s1 (by omega) u1 u2 u4 z1 (by omega)
    rw [show (tkF f n (k1 + 3)).q = s from u3, List.append_assoc] at r
    rw [List.length_append, List.length_singleton]
    exact r
theorem gn_st2 (hq : ∀ i, (tkF f n i).c = 14 → txL (tkF f n i).q) (hl : LastK (tkF f n) m) {l : Nat} {x : List Int} {d : List Nd} (hl3 : l = 3) (h : GNd f n m l x d) {s t : List Int} (hs : txL s) (ht : txL t) : GNd f n m 3 (x ++ (46 :: ([104, 97, 115] ++ 40 :: (qL s ++ 44 :: 32 :: (qL t ++ [41]))))) (d ++ [⟨5, s, t⟩]) := by
  subst hl3
  intro p k hk hp ha hn
  obtain ⟨a1, a2⟩ := ha.app
  obtain ⟨b1, b2, b3⟩ := a2.head
  obtain ⟨d1, d2⟩ := b3.app
  obtain ⟨d4, d3, d5⟩ := d2.head
  obtain ⟨e1, e2⟩ := d5.app
  obtain ⟨e3, e4, e5⟩ := e2.head
  obtain ⟨e6, e7, e8⟩ := e5.head
  obtain ⟨f1, f2⟩ := e8.app
  obtain ⟨f3, f4, _⟩ := f2.head
  obtain ⟨h0, k1, g1, g2, g3, g4⟩ := h p k hk hp a1 (nlt_of b2 (by omega))
  obtain ⟨t1, t2⟩ := lx_sym g3 b1 b2 (c := 10) rfl (by omega)
  obtain ⟨s1, s2⟩ := lx_word t2 d1 (by simp) (by intro x hx; simp at hx; rcases hx with rfl | rfl | rfl <;> omega) (nlt_of d3 (by omega)) (c := 5) rfl (by omega)
  obtain ⟨u1, u2⟩ := lx_sym s2 d4 d3 (c := 11) rfl (by omega)
  obtain ⟨v1, v2, v3⟩ := lx_quo u2 hs e1
  obtain ⟨w1, w2⟩ := lx_sym v3 e3 e4 (c := 13) rfl (by omega)
  rw [lx_sp e6 e7] at w2
  obtain ⟨x1, x2, x3⟩ := lx_quo w2 ht f1
  obtain ⟨y1, y2⟩ := lx_sym x3 f3 f4 (c := 12) rfl (by omega)
  have hk1 := last_lt hl g2 t1 (by omega) (by omega)
  have hk2 := last_lt hl hk1 s1 (by omega) (by omega)
  have hk3 := last_lt hl hk2 u1 (by omega) (by omega)
  have hk4 := last_lt hl hk3 v1 (by omega) (by omega)
  have hk5 := last_lt hl hk4 w1 (by omega) (by omega)
  have hk6 := last_lt hl hk5 x1 (by omega) (by omega)
  have hk7 := last_lt hl hk6 y1 (by omega) (by omega)
  refine ⟨h0, k1 + 7, by omega, hk7, ?_, fun nd N0 z1 z2 z3 => ?_⟩
  · rw [show k1 + 7 = k1 + 1 + 1 + 1 + 1 + 1 + 1 + 1 by omega, y2]
    congr 1
    simp
    omega
  · rw [List.length_append, List.length_singleton] at z2
    have pc := g4 nd N0 (by omega) (by omega) ⟨fun e => absurd e (by omega), fun e => absurd e (by omega), fun e => absurd e (by omega)⟩
    have r := pc_st2 hq pc t1 s1 u1 v1 w1 x1 y1 z1 (by omega)
    rw [show (tkF f n (k1 + 3)).q = s from v2, show (tkF f n (k1 + 5)).q = t from x2, List.append_assoc] at r
    rw [List.length_append, List.length_singleton]
    exact r
/-- An operator between two operands. -/
theorem gn_op (hl : LastK (tkF f n) m) {l1 l2 : Nat} {x y : List Int} {d e : List Nd} (c : Nat) (b : Int) (s : Nat) (hcb : (c = 6 ∧ b = 38 ∧ s = 2) ∨ (c = 7 ∧ b = 124 ∧ s = 1) ∨ (c = 8 ∧ b = 45 ∧ s = 1)) (hl1 : s ≤ l1) (hl2 : s + 1 ≤ l2) (h : GNd f n m l1 x d) (k2 : GNd f n m l2 y e) : GNd f n m s (x ++ (32 :: b :: 32 :: y)) (d ++ e ++ [⟨c, [], []⟩]) := by
  intro p k hk hp ha hn
  obtain ⟨a1, a2⟩ := ha.app
  obtain ⟨b1, b2, b3⟩ := a2.head
  obtain ⟨b4, b5, b6⟩ := b3.head
  obtain ⟨b7, b8, b9⟩ := b6.head
  have cb : cdS b = c ∧ c ≠ 0 ∧ stg c = s ∧ 6 ≤ c ∧ c ≤ 8 := by
    rcases hcb with ⟨rfl, rfl, rfl⟩ | ⟨rfl, rfl, rfl⟩ | ⟨rfl, rfl, rfl⟩
    · exact ⟨rfl, by omega, rfl, by omega, by omega⟩
    · exact ⟨rfl, by omega, rfl, by omega, by omega⟩
    · exact ⟨rfl, by omega, rfl, by omega, by omega⟩
  obtain ⟨h0, k1, g1, g2, g3, g4⟩ := h p k hk hp a1 (nlt_of b2 (by omega))
  rw [lx_sp b1 b2] at g3
  obtain ⟨t1, t2⟩ := lx_sym g3 b4 b5 cb.1 cb.2.1
  rw [lx_sp b7 b8] at t2
  have hk1 := last_lt hl g2 t1 (by omega) (by omega)
  obtain ⟨h1, k3, i1, i2, i3, i4⟩ := k2 _ (k1 + 1) hk1 t2 b9 (by
    rw [show p + x.length + 1 + 1 + 1 + y.length = p + (x ++ (32 :: b :: 32 :: y)).length by simp; omega]
    exact hn)
  refine ⟨h0, k3, by omega, i2, ?_, fun nd N0 z1 z2 z3 => ?_⟩
  · rw [i3]
    congr 1
    simp
    omega
  · rw [List.length_append, List.length_append, List.length_singleton] at z2
    have pc := g4 nd N0 (by omega) (by omega) ⟨fun _ => by omega, fun _ => by omega, fun q => absurd q (by omega)⟩
    have pc1 : PC (tkF f n) (tkPos f n) s (s + 1) k nd N0 (.inl (k1, nd + d.length, N0 ++ d)) := (pc.up hl1).stop ⟨fun _ => by show (tkF f n k1).c ≠ 10; omega, fun _ => by show (tkF f n k1).c ≠ 6; omega, fun q => absurd q (by omega)⟩
    obtain ⟨z31, z32, z33⟩ := z3
    have pd := i4 (nd + d.length + 1) (N0 ++ d) z1 (by omega) ⟨fun q => z31 (by omega), fun q => z32 (by omega), fun q => absurd q (by omega)⟩
    have pd1 : PC (tkF f n) (tkPos f n) (s + 1) (s + 1) (k1 + 1) (nd + d.length + 1) (N0 ++ d) (.inl (k3, nd + d.length + 1 + e.length, N0 ++ d ++ e)) := (pd.up hl2).stop ⟨z31, z32, z33⟩
    have r := pc_op pc1 t1 cb.2.2.2.1 cb.2.2.2.2 cb.2.2.1 (by omega) h1 pd1
    rw [List.length_append, List.length_append, List.length_singleton, show nd + (d.length + e.length + 1) = nd + d.length + 1 + e.length by omega, ← List.append_assoc, ← List.append_assoc]
    exact r
/-- A graph. -/
theorem gn_graph (hq : ∀ i, (tkF f n i).c = 14 → txL (tkF f n i).q) (hl : LastK (tkF f n) m) {l : Nat} {x : List Int} {d : List Nd} (hl1 : 1 ≤ l) (h : GNd f n m l x d) {s : List Int} (hs : txL s) : GNd f n m 3 ([103, 114, 97, 112, 104] ++ 32 :: (qL s ++ 32 :: 40 :: (x ++ [41]))) (d ++ [⟨9, s, []⟩]) := by
  intro p k hk hp ha hn
  obtain ⟨a1, a2⟩ := ha.app
  obtain ⟨b1, b2, b3⟩ := a2.head
  obtain ⟨c1, c2⟩ := b3.app
  obtain ⟨c3, c4, c5⟩ := c2.head
  obtain ⟨c6, c7, c8⟩ := c5.head
  obtain ⟨d1, d2⟩ := c8.app
  obtain ⟨d3, d4, _⟩ := d2.head
  obtain ⟨t1, t2⟩ := lx_word hp a1 (by simp) (by intro x hx; simp at hx; rcases hx with rfl | rfl | rfl | rfl | rfl <;> omega) (nlt_of b2 (by omega)) (c := 9) rfl (by omega)
  rw [lx_sp b1 b2] at t2
  obtain ⟨u1, u2, u3⟩ := lx_quo t2 hs c1
  rw [lx_sp c3 c4] at u3
  obtain ⟨v1, v2⟩ := lx_sym u3 c6 c7 (c := 11) rfl (by omega)
  have hk1 := last_lt hl hk t1 (by omega) (by omega)
  have hk2 := last_lt hl hk1 u1 (by omega) (by omega)
  have hk3 := last_lt hl hk2 v1 (by omega) (by omega)
  obtain ⟨h0, k1, g1, g2, g3, g4⟩ := h _ (k + 3) hk3 v2 d1 (nlt_of d4 (by omega))
  obtain ⟨s1, s2⟩ := lx_sym g3 d3 d4 (c := 12) rfl (by omega)
  have hk4 := last_lt hl g2 s1 (by omega) (by omega)
  refine ⟨by omega, k1 + 1, by omega, hk4, ?_, fun nd N0 z1 z2 z3 => ?_⟩
  · rw [s2]
    congr 1
    simp
    omega
  · rw [List.length_append, List.length_singleton] at z2
    have pc := g4 (nd + 1) N0 (by omega) (by omega) ⟨fun _ => by omega, fun _ => by omega, fun _ => ⟨by omega, by omega⟩⟩
    have pc2 : PC (tkF f n) (tkPos f n) 1 1 (k + 3) (nd + 1) N0 (.inl (k1, nd + 1 + d.length, N0 ++ d)) := (pc.up hl1).stop ⟨fun _ => by show (tkF f n k1).c ≠ 10; omega, fun _ => by show (tkF f n k1).c ≠ 6; omega, fun _ => ⟨by show (tkF f n k1).c ≠ 7; omega, by show (tkF f n k1).c ≠ 8; omega⟩⟩
    have r := pc_graph hq hl hk t1 u1 v1 h0 (by omega) pc2
    rw [tk_sy s1 (by omega) z1, u2] at r
    rw [List.length_append, List.length_singleton, show nd + (d.length + 1) = nd + 1 + d.length by omega, ← List.append_assoc]
    exact r
end
end Go.Proofs.Ytocmbnocdjnfpaa

namespace Go.Proofs.Ytocmbnocdjnfpaa
open Go.RowKit Go.Deep
set_option linter.unusedVariables false
set_option maxRecDepth 100000

/-- A path's nodes, as a list. -/
def nd1 (I : Nat → Int) (X R : Nat → ByteArray) (i : Nat) : Nd := ⟨(I i).toNat, bl (X i), bl (R i)⟩
def ndS (I : Nat → Int) (X R : Nat → ByteArray) (base len : Nat) : List Nd := (List.range len).map (fun j => nd1 I X R (base + j))
theorem ndS_len (I : Nat → Int) (X R : Nat → ByteArray) (base len : Nat) : (ndS I X R base len).length = len := by simp [ndS]
theorem ndS_add (I : Nat → Int) (X R : Nat → ByteArray) (base a b : Nat) : ndS I X R base (a + b) = ndS I X R base a ++ ndS I X R (base + a) b := by
  unfold ndS
  rw [List.range_add, List.map_append, List.map_map]
  congr 1
  apply List.map_congr_left
  intro j _
  simp only [Function.comp]
  rw [Nat.add_assoc]
theorem ndS_one (I : Nat → Int) (X R : Nat → ByteArray) (base : Nat) : ndS I X R base 1 = [nd1 I X R base] := rfl
theorem ndS_succ (I : Nat → Int) (X R : Nat → ByteArray) (base m : Nat) : ndS I X R base (m + 1) = ndS I X R base m ++ [nd1 I X R (base + m)] := by rw [ndS_add, ndS_one]
theorem bl_nil {x : ByteArray} (h : emS x = true) : bl x = [] := by
  have := emS_yes h
  unfold bl
  rw [← ByteArray.toList_eq, this]
  rfl
theorem bl_txL {x : ByteArray} (h : txS x = true) : txL (bl x) := by
  unfold txS at h
  simp at h
  refine ⟨by rw [bl_length]; exact h.1, by rw [bl_length]; exact h.2, fun y hy => ?_⟩
  unfold bl at hy
  obtain ⟨b, _, rfl⟩ := List.mem_map.1 hy
  have := b.toNat_lt
  omega
/-- How strong a node's text is. -/
def lvI (k : Int) : Nat := if k = 6 then 2 else if k = 7 ∨ k = 8 then 1 else 3
theorem lvI_pos (k : Int) : 1 ≤ lvI k := by unfold lvI; split <;> (try split) <;> omega
theorem sB_cases (k : Int) : (sB k = 2 ∧ lvI k = 2) ∨ (sB k = 1 ∧ lvI k = 1) ∨ (sB k = 0 ∧ lvI k = 3) := by
  unfold sB lvI
  by_cases h6 : k = 6
  · rw [if_pos h6, if_pos h6]; exact .inl ⟨rfl, rfl⟩
  · rw [if_neg h6, if_neg h6]
    by_cases h7 : k = 7 ∨ k = 8
    · rw [if_pos h7, if_pos h7]; exact .inr (.inl ⟨rfl, rfl⟩)
    · rw [if_neg h7, if_neg h7]; exact .inr (.inr ⟨rfl, rfl⟩)
theorem lw_st (K : Int) (hK : K = 3 ∨ K = 4 ∨ K = 5) (kk : Int) : (if wrB K false (sB kk) = true then 3 else lvI kk) = 3 := by
  rcases sB_cases kk with ⟨e1, e2⟩ | ⟨e1, e2⟩ | ⟨e1, e2⟩ <;> rw [e1, e2] <;> rcases hK with rfl | rfl | rfl <;> rfl
theorem lw_and (kk : Int) : 2 ≤ (if wrB 6 false (sB kk) = true then 3 else lvI kk) := by
  rcases sB_cases kk with ⟨e1, e2⟩ | ⟨e1, e2⟩ | ⟨e1, e2⟩ <;> rw [e1, e2] <;> decide
theorem lw_and2 (kk : Int) : 3 ≤ (if wrB 6 true (sB kk) = true then 3 else lvI kk) := by
  rcases sB_cases kk with ⟨e1, e2⟩ | ⟨e1, e2⟩ | ⟨e1, e2⟩ <;> rw [e1, e2] <;> decide
theorem lw_or (K : Int) (hK : K = 7 ∨ K = 8) (kk : Int) : 1 ≤ (if wrB K false (sB kk) = true then 3 else lvI kk) := by
  rcases sB_cases kk with ⟨e1, e2⟩ | ⟨e1, e2⟩ | ⟨e1, e2⟩ <;> rw [e1, e2] <;> rcases hK with rfl | rfl <;> decide
theorem lw_or2 (K : Int) (hK : K = 7 ∨ K = 8) (kk : Int) : 2 ≤ (if wrB K true (sB kk) = true then 3 else lvI kk) := by
  rcases sB_cases kk with ⟨e1, e2⟩ | ⟨e1, e2⟩ | ⟨e1, e2⟩ <;> rw [e1, e2] <;> rcases hK with rfl | rfl <;> decide
theorem wr_graph (kk : Int) (x : List Int) : wrT 9 false kk x = x := by
  unfold wrT wrB
  rw [if_neg (by rw [if_pos (Or.inr rfl)]; decide)]

/-- A node, its operands' texts being told. -/
theorem gn_kind {f : Nat → Int} {n m : Nat} (hq : ∀ i, (tkF f n i).c = 14 → txL (tkF f n i).q) (hl : LastK (tkF f n) m) {k : Int} {s t : ByteArray} (hg : gnB k s t = true) {a0 a1 : List Int} {k0 k1 : Int} {d0 d1 : List Nd}
    (h0 : 1 ≤ arOf k → GNd f n m (lvI k0) a0 d0) (h1 : arOf k = 2 → GNd f n m (lvI k1) a1 d1) :
    GNd f n m (lvI k) (nodeT k s t a0 k0 a1 k1) ((if 1 ≤ arOf k then d0 else []) ++ (if arOf k = 2 then d1 else []) ++ [⟨k.toNat, bl s, bl t⟩]) := by
  have hk := (gn_good hg).1
  have h9 : k = 1 ∨ k = 2 ∨ k = 3 ∨ k = 4 ∨ k = 5 ∨ k = 6 ∨ k = 7 ∨ k = 8 ∨ k = 9 := by omega
  unfold gnB at hg
  rcases h9 with rfl | rfl | rfl | rfl | rfl | rfl | rfl | rfl | rfl
  · have hg' : (emS s && emS t) = true := hg
    simp only [Bool.and_eq_true] at hg'
    rw [bl_nil hg'.1, bl_nil hg'.2]
    exact gn_all hq hl
  · have hg' : (txS s && emS t) = true := hg
    simp only [Bool.and_eq_true] at hg'
    rw [bl_nil hg'.2]
    exact gn_v hq hl (bl_txL hg'.1)
  · have hg' : (txS s && emS t) = true := hg
    simp only [Bool.and_eq_true] at hg'
    rw [bl_nil hg'.2]
    have e : nodeT 3 s t a0 k0 a1 k1 = wrT 3 false k0 a0 ++ (46 :: ([111, 117, 116] ++ 40 :: (qL (bl s) ++ [41]))) := by simp [nodeT, nodeP]
    have hd : ((if 1 ≤ arOf 3 then d0 else []) ++ (if arOf 3 = 2 then d1 else []) ++ [⟨(3 : Int).toNat, bl s, []⟩]) = d0 ++ [⟨3, bl s, []⟩] := by
      rw [if_pos (by decide), if_neg (by decide)]; simp
    rw [e, hd]
    exact gn_st1 hq hl (lw_st 3 (.inl rfl) k0) (gn_opd hq hl (lvI_pos k0) 3 false k0 (h0 (by decide))) 3 _ (.inl ⟨rfl, rfl⟩) (bl_txL hg'.1)
  · have hg' : (txS s && emS t) = true := hg
    simp only [Bool.and_eq_true] at hg'
    rw [bl_nil hg'.2]
    have e : nodeT 4 s t a0 k0 a1 k1 = wrT 4 false k0 a0 ++ (46 :: ([105, 110] ++ 40 :: (qL (bl s) ++ [41]))) := by simp [nodeT, nodeP]
    have hd : ((if 1 ≤ arOf 4 then d0 else []) ++ (if arOf 4 = 2 then d1 else []) ++ [⟨(4 : Int).toNat, bl s, []⟩]) = d0 ++ [⟨4, bl s, []⟩] := by
      rw [if_pos (by decide), if_neg (by decide)]; simp
    rw [e, hd]
    exact gn_st1 hq hl (lw_st 4 (.inr (.inl rfl)) k0) (gn_opd hq hl (lvI_pos k0) 4 false k0 (h0 (by decide))) 4 _ (.inr ⟨rfl, rfl⟩) (bl_txL hg'.1)
  · have hg' : (txS s && txS t) = true := hg
    simp only [Bool.and_eq_true] at hg'
    have e : nodeT 5 s t a0 k0 a1 k1 = wrT 5 false k0 a0 ++ (46 :: ([104, 97, 115] ++ 40 :: (qL (bl s) ++ 44 :: 32 :: (qL (bl t) ++ [41])))) := by simp [nodeT, nodeP]
    have hd : ((if 1 ≤ arOf 5 then d0 else []) ++ (if arOf 5 = 2 then d1 else []) ++ [⟨(5 : Int).toNat, bl s, bl t⟩]) = d0 ++ [⟨5, bl s, bl t⟩] := by
      rw [if_pos (by decide), if_neg (by decide)]; simp
    rw [e, hd]
    exact gn_st2 hq hl (lw_st 5 (.inr (.inr rfl)) k0) (gn_opd hq hl (lvI_pos k0) 5 false k0 (h0 (by decide))) (bl_txL hg'.1) (bl_txL hg'.2)
  · have hg' : (emS s && emS t) = true := hg
    simp only [Bool.and_eq_true] at hg'
    rw [bl_nil hg'.1, bl_nil hg'.2]
    have e : nodeT 6 s t a0 k0 a1 k1 = wrT 6 false k0 a0 ++ (32 :: 38 :: 32 :: wrT 6 true k1 a1) := by simp [nodeT, nodeP]
    have hd : ((if 1 ≤ arOf 6 then d0 else []) ++ (if arOf 6 = 2 then d1 else []) ++ [⟨(6 : Int).toNat, [], []⟩]) = d0 ++ d1 ++ [⟨6, [], []⟩] := by
      rw [if_pos (by decide), if_pos (by decide)]; rfl
    rw [e, hd]
    exact gn_op hl 6 38 2 (.inl ⟨rfl, rfl, rfl⟩) (lw_and k0) (lw_and2 k1) (gn_opd hq hl (lvI_pos k0) 6 false k0 (h0 (by decide))) (gn_opd hq hl (lvI_pos k1) 6 true k1 (h1 (by decide)))
  · have hg' : (emS s && emS t) = true := hg
    simp only [Bool.and_eq_true] at hg'
    rw [bl_nil hg'.1, bl_nil hg'.2]
    have e : nodeT 7 s t a0 k0 a1 k1 = wrT 7 false k0 a0 ++ (32 :: 124 :: 32 :: wrT 7 true k1 a1) := by simp [nodeT, nodeP]
    have hd : ((if 1 ≤ arOf 7 then d0 else []) ++ (if arOf 7 = 2 then d1 else []) ++ [⟨(7 : Int).toNat, [], []⟩]) = d0 ++ d1 ++ [⟨7, [], []⟩] := by
      rw [if_pos (by decide), if_pos (by decide)]; rfl
    rw [e, hd]
    exact gn_op hl 7 124 1 (.inr (.inl ⟨rfl, rfl, rfl⟩)) (lw_or 7 (.inl rfl) k0) (lw_or2 7 (.inl rfl) k1) (gn_opd hq hl (lvI_pos k0) 7 false k0 (h0 (by decide))) (gn_opd hq hl (lvI_pos k1) 7 true k1 (h1 (by decide)))
  · have hg' : (emS s && emS t) = true := hg
    simp only [Bool.and_eq_true] at hg'
    rw [bl_nil hg'.1, bl_nil hg'.2]
    have e : nodeT 8 s t a0 k0 a1 k1 = wrT 8 false k0 a0 ++ (32 :: 45 :: 32 :: wrT 8 true k1 a1) := by simp [nodeT, nodeP]
    have hd : ((if 1 ≤ arOf 8 then d0 else []) ++ (if arOf 8 = 2 then d1 else []) ++ [⟨(8 : Int).toNat, [], []⟩]) = d0 ++ d1 ++ [⟨8, [], []⟩] := by
      rw [if_pos (by decide), if_pos (by decide)]; rfl
    rw [e, hd]
    exact gn_op hl 8 45 1 (.inr (.inr ⟨rfl, rfl, rfl⟩)) (lw_or 8 (.inr rfl) k0) (lw_or2 8 (.inr rfl) k1) (gn_opd hq hl (lvI_pos k0) 8 false k0 (h0 (by decide))) (gn_opd hq hl (lvI_pos k1) 8 true k1 (h1 (by decide)))
  · have hg' : (txS s && emS t) = true := hg
    simp only [Bool.and_eq_true] at hg'
    rw [bl_nil hg'.2]
    have e : nodeT 9 s t a0 k0 a1 k1 = [103, 114, 97, 112, 104] ++ 32 :: (qL (bl s) ++ 32 :: 40 :: (a0 ++ [41])) := by simp [nodeT, nodeP, wr_graph]
    have hd : ((if 1 ≤ arOf 9 then d0 else []) ++ (if arOf 9 = 2 then d1 else []) ++ [⟨(9 : Int).toNat, bl s, []⟩]) = d0 ++ [⟨9, bl s, []⟩] := by
      rw [if_pos (by decide), if_neg (by decide)]; simp
    rw [e, hd]
    exact gn_graph hq hl (lvI_pos k0) (h0 (by decide)) (bl_txL hg'.1)

/-- A node's text is read as its nodes. -/
theorem gn_node {f : Nat → Int} {n m : Nat} (hq : ∀ i, (tkF f n i).c = 14 → txL (tkF f n i).q) (hl : LastK (tkF f n) m) {NN : Nat} {I : Nat → Int} {X R : Nat → ByteArray} (hv : ∀ i, i < NN → gnB (I i) (X i) (R i) = true) :
    ∀ (fu base m' : Nat), m' + 1 ≤ fu → base + m' < NN → Begins (fun i => arOf (I (base + i))) (m' + 1) 0 → GNd f n m (lvI (I (base + m'))) (T I X R (base + m')) (ndS I X R base (m' + 1))
  | 0, base, m', hf, _, _ => absurd hf (by omega)
  | fu + 1, base, m', hf, hN, hb => by
    have hk := kids_math (n := m' + 1) (by omega) hb (by exact arOf_le _)
    rw [Nat.add_sub_cancel] at hk
    rw [T_eq]
    rcases hk with ⟨e, hm⟩ | ⟨e, h1⟩ | ⟨e, s, hs, h1, h2⟩
    · have hm0 : m' = 0 := by omega
      subst hm0
      have r := gn_kind hq hl (hv (base + 0) hN) (a0 := (if h : opf (arI I) (base + 0) 0 < base + 0 then T I X R (opf (arI I) (base + 0) 0) else [])) (k0 := I (opf (arI I) (base + 0) 0)) (a1 := (if h : opf (arI I) (base + 0) 1 < base + 0 then T I X R (opf (arI I) (base + 0) 1) else [])) (k1 := I (opf (arI I) (base + 0) 1)) (d0 := []) (d1 := []) (fun q => by rw [e] at q; omega) (fun q => by rw [e] at q; omega)
      rw [e, if_neg (by omega), if_neg (by omega)] at r
      exact r
    · have hm := h1.1
      have e0 : opf (arI I) (base + m') 0 = base + (m' - 1) := by
        unfold opf arI
        rw [if_neg (by omega)]
        omega
      have ih := gn_node hq hl hv fu base (m' - 1) (by omega) (by omega) (by rw [show m' - 1 + 1 = m' by omega]; exact h1)
      rw [show m' - 1 + 1 = m' by omega] at ih
      have r := gn_kind hq hl (hv (base + m') hN) (a0 := T I X R (base + (m' - 1))) (k0 := I (base + (m' - 1))) (a1 := (if h : opf (arI I) (base + m') 1 < base + m' then T I X R (opf (arI I) (base + m') 1) else [])) (k1 := I (opf (arI I) (base + m') 1)) (d0 := ndS I X R base m') (d1 := []) (fun _ => ih) (fun q => by rw [e] at q; omega)
      rw [e, if_pos (by omega), if_neg (by omega), List.append_nil] at r
      rw [e0, dif_pos (by omega), ndS_succ]
      exact r
    · have hm := h1.1
      have hs2 := h2.1
      have e0 : opf (arI I) (base + m') 0 = base + (s - 1) := by
        have q := bgF_of (Begins.lift (A := arI I) h1)
        unfold opf
        rw [if_pos ⟨e, rfl⟩, q]
        omega
      have e1 : opf (arI I) (base + m') 1 = (base + s) + (m' - s - 1) := by
        unfold opf
        rw [if_neg (by omega)]
        omega
      have ih0 := gn_node hq hl hv fu base (s - 1) (by omega) (by omega) (by rw [show s - 1 + 1 = s by omega]; exact h2)
      have ih1 := gn_node hq hl hv fu (base + s) (m' - s - 1) (by omega) (by omega) (by
        rw [show m' - s - 1 + 1 = m' - s by omega]
        have := h1.shift
        simpa only [Nat.add_assoc] using this)
      rw [show s - 1 + 1 = s by omega] at ih0
      rw [show m' - s - 1 + 1 = m' - s by omega] at ih1
      have r := gn_kind hq hl (hv (base + m') hN) (a0 := T I X R (base + (s - 1))) (k0 := I (base + (s - 1))) (a1 := T I X R (base + s + (m' - s - 1))) (k1 := I (base + s + (m' - s - 1))) (d0 := ndS I X R base s) (d1 := ndS I X R (base + s) (m' - s)) (fun _ => ih0) (fun _ => ih1)
      rw [e, if_pos (by omega), if_pos rfl, ← ndS_add, show s + (m' - s) = m' by omega] at r
      rw [e0, e1, dif_pos (by omega), dif_pos (by omega), ndS_succ]
      exact r
end Go.Proofs.Ytocmbnocdjnfpaa

namespace Go.Proofs.Ytocmbnocdjnfpaa
open Go.RowKit Go.Deep
set_option linter.unusedVariables false
set_option maxRecDepth 100000

theorem conv_sb (x : ByteArray) (W : World) : ∃ (c : Nat) (W' : World), (convert 9 33 (.string x)).run Try.prog W = .ok (.slice (some ⟨W.heap.size, 0, none⟩) x.size c) W' ∧ Below W.heap.size W W' ∧ RdL W' (some ⟨W.heap.size, 0, none⟩) (bl x) ∧ W'.heap.size = W.heap.size + 1 := by
  refine ⟨_, _, run_bytes_of_string W _ _ 5 x (by kernel_rfl) (by kernel_rfl) (by kernel_rfl), ((Below.refl _ _).drew).alloc (by exact Nat.le_refl _) _, .inr ⟨W.heap.size, 0, rfl, fun i hi => ?_⟩, by simp⟩
  rw [bl_length] at hi
  rw [Nat.zero_add]
  have := World.cell?_alloc_mark W.drew (bytesRow x (grownCap W x.size 0 5)) 5 ((bytesRow x (grownCap W x.size 0 5)).size, (bytesRow x (grownCap W x.size 0 5)).size + 1) i
  refine this.trans ?_
  unfold bytesRow lf bl
  rw [Array.getElem?_append_left (by simp; exact hi), Array.getElem?_map]
  have hx : x.data[i]? = some x.data[i] := Array.getElem?_eq_getElem hi
  rw [hx, List.getD_eq_getElem?_getD, List.getElem?_map, Array.getElem?_toList, hx]
  rfl
theorem plain_any (b : Nat) (w : World) : Calls Try.prog 128 #[.int .u8 (b : Int)] w fun e w' => e = .returned (.bool (decide (32 ≤ b ∧ b ≤ 126))) ∧ w' = w := by
  by_cases h1 : 32 ≤ b
  · by_cases h2 : b ≤ 126
    · have m1 : (32 : Int) ≤ (b : Int) := by omega
      have m2 : (b : Int) ≤ 126 := by omega
      have HE : Hid (decide (32 ≤ b ∧ b ≤ 126) = true) := decide_eq_true ⟨h1, h2⟩
      go_enter Try.func128, Try.ntmps128
      go_wp2
      go_ret
      (first | exact ⟨by rw [HE.out]; rfl, rfl⟩ | exact ⟨rfl, rfl⟩)
    · have m1 : (32 : Int) ≤ (b : Int) := by omega
      have m2 : ¬ (b : Int) ≤ 126 := by omega
      have m3 : decide ((b : Int) ≤ 126) = false := decide_eq_false m2
      have HE : Hid (decide (32 ≤ b ∧ b ≤ 126) = false) := decide_eq_false (fun h => h2 h.2)
      go_enter Try.func128, Try.ntmps128
      go_wp2
      go_ret
      (first | exact ⟨by rw [HE.out]; rfl, rfl⟩ | exact ⟨rfl, rfl⟩)
  · have m1 : ¬ (32 : Int) ≤ (b : Int) := by omega
    have m3 : decide ((32 : Int) ≤ (b : Int)) = false := decide_eq_false m1
    have HE : Hid (decide (32 ≤ b ∧ b ≤ 126) = false) := decide_eq_false (fun h => h1 h.1)
    go_enter Try.func128, Try.ntmps128
    go_wp2
    go_ret
    (first | exact ⟨by rw [HE.out]; rfl, rfl⟩ | exact ⟨rfl, rfl⟩)
theorem qB_byt (b : Int) (h : 0 ≤ b ∧ b < 256) : Byt (qB b) := by
  unfold qB
  intro x hx
  split at hx
  · simp at hx
    omega
  · split at hx
    · simp at hx
      omega
    · simp at hx
      unfold hexC at hx
      rcases hx with rfl | rfl | rfl | rfl <;> (try split) <;> omega
theorem bl_byt (x : ByteArray) : Byt (bl x) := by
  unfold bl
  intro y hy
  obtain ⟨b, _, rfl⟩ := List.mem_map.1 hy
  have := b.toNat_lt
  omega
theorem qL_byt (x : ByteArray) : Byt (qL (bl x)) := by
  unfold qL
  intro y hy
  simp only [List.mem_cons, List.mem_append, List.mem_flatMap, List.not_mem_nil, or_false] at hy
  rcases hy with rfl | ⟨z, hz, hy⟩ | rfl
  · omega
  · exact qB_byt z (bl_byt x z hz) y hy
  · omega
theorem BdA.below {w w' : World} {B b : Nat} {l : List Int} (h : BdA w B b l) (hb : Below w.heap.size w w') : BdA w' B b l := by
  rcases h with ⟨q1, v, q2, q3, q4⟩ | ⟨q1, v, q2, q3, q4⟩
  · exact .inl ⟨q1, v, (hb.block _ (Array.getElem?_eq_some_iff.1 q2).1).trans q2, q3.kept (w' := w') (row := none) ⟨hb.os, hb.tape, hb.output, hb.size, fun k hk _ => hb.block k hk⟩ (by cases hv : v.ownBlock <;> simp), q4⟩
  · exact .inr ⟨q1, v, (hb.block _ (Array.getElem?_eq_some_iff.1 q2).1).trans q2, q3.kept (w' := w') (row := none) ⟨hb.os, hb.tape, hb.output, hb.size, fun k hk _ => hb.block k hk⟩ (by cases hv : v.ownBlock <;> simp), q4⟩
theorem BdA.lt {w : World} {B b : Nat} {l : List Int} (h : BdA w B b l) : b < w.heap.size := by
  rcases h with ⟨q1, v, q2, q3, q4⟩ | ⟨q1, v, q2, q3, q4⟩ <;> exact (Array.getElem?_eq_some_iff.1 q2).1
/-- The builder of quoted, the text's bytes beside it. -/
def QS (w W : World) (g8 : Nat) (wr : World) (l : List Int) : Prop := BdA wr w.heap.size w.heap.size l ∧ Below w.heap.size w wr ∧ g8 < wr.heap.size ∧ wr.heap[g8]? = W.heap[g8]? ∧ ∀ v, wr.cell? ⟨w.heap.size, 1, none⟩ = some v → v.ownBlock ≠ some g8
theorem QS.below {w W wr W1 : World} {g8 : Nat} {l : List Int} (h : QS w W g8 wr l) (hb : Below wr.heap.size wr W1) : QS w W g8 W1 l := by
  obtain ⟨h1, h2, h3, h4, h5⟩ := h
  refine ⟨h1.below hb, h2.trans (hb.mono h2.size), Nat.lt_of_lt_of_le h3 hb.size, (hb.block _ h3).trans h4, fun v hv => h5 v ?_⟩
  rw [← hv]
  exact (hb.cell (p := ⟨w.heap.size, 1, none⟩) h1.lt).symm
theorem QS.step {w W W1 w2 : World} {g8 : Nat} {l l' : List Int} (h : QS w W g8 W1 l) (hne : g8 ≠ w.heap.size) (hB : BdA w2 w.heap.size w.heap.size l') (hb : Below w.heap.size W1 w2) (ho : ∀ g8, g8 < W1.heap.size → g8 ≠ w.heap.size → (∀ v, W1.cell? ⟨w.heap.size, 1, none⟩ = some v → v.ownBlock ≠ some g8) → w2.heap[g8]? = W1.heap[g8]? ∧ ∀ v, w2.cell? ⟨w.heap.size, 1, none⟩ = some v → v.ownBlock ≠ some g8) : QS w W g8 w2 l' := by
  obtain ⟨h1, h2, h3, h4, h5⟩ := h
  obtain ⟨q1, q2⟩ := ho g8 h3 hne h5
  exact ⟨hB, h2.trans hb, Nat.lt_of_lt_of_le h3 hb.size, q1.trans h4, q2⟩

set_option maxHeartbeats 2000000 in
theorem quoted_any (x : ByteArray) (w : World) (hx : x.size ≤ 1000) : Calls Try.prog 92 #[.string x] w fun e w' => e = .returned (.string (strT (qL (bl x)))) ∧ Below w.heap.size w w' := by
  have HWb : Hid (∀ (W : World) (l : List Int) (c : Int), BdA W w.heap.size w.heap.size l → l.length ≤ 1048576 → w.heap.size ≤ W.heap.size → Calls Try.prog 126 #[.pointer (some ⟨w.heap.size, 0, none⟩), .int .u8 c] W fun e w' => e = .returned .nilIface ∧ BdA w' w.heap.size w.heap.size (l ++ [c]) ∧ Below w.heap.size W w' ∧ (∀ g8, g8 < W.heap.size → g8 ≠ w.heap.size → (∀ v, W.cell? ⟨w.heap.size, 1, none⟩ = some v → v.ownBlock ≠ some g8) → w'.heap[g8]? = W.heap[g8]? ∧ ∀ v, w'.cell? ⟨w.heap.size, 1, none⟩ = some v → v.ownBlock ≠ some g8)) := fun W l c h1 h2 h3 => writeByte_any w.heap.size w.heap.size l c W h1 h2 h3
  have B0 : Hid (BdA (w.alloc (.cells #[.pointer none, .slice none 0 0] 173)) w.heap.size w.heap.size []) := .inl ⟨Nat.le_refl _, .slice none 0 0, Array.getElem?_push_size, ⟨rfl, .inl ⟨rfl, rfl⟩⟩, by simp [Value.ownBlock]⟩
  go_enter Try.func92, Try.ntmps92
  go_wp2_with fail
  refine (HWb.out _ [] 34 B0.out (by simp) (by simp)).mono ?_
  rintro e w1 ⟨rfl, hB1, hb1, _⟩
  have hbb : Below w.heap.size w w1 := (below_alloc _ _).trans hb1
  obtain ⟨c8, W, hcv, hbW, hrW, hzW⟩ := conv_sb x w1
  obtain ⟨g8, hg8⟩ : ∃ g8, g8 = w1.heap.size := ⟨_, rfl⟩
  have hlt1 : w.heap.size < w1.heap.size := by
    have := hb1.size
    simp at this
    omega
  have H0 : Hid (QS w W g8 W [34]) := by
    have hcell : W.cell? ⟨w.heap.size, 1, none⟩ = w1.cell? ⟨w.heap.size, 1, none⟩ := hbW.cell hlt1
    refine ⟨?_, hbb.trans (hbW.mono hbb.size), by omega, rfl, fun v hv e => ?_⟩
    · rcases hB1 with ⟨q1, v, q2, q3, q4⟩ | ⟨q1, v, q2, q3, q4⟩
      · exact .inl ⟨q1, v, (hbW.block _ hlt1).trans q2, q3.kept (w' := W) (row := none) ⟨hbW.os, hbW.tape, hbW.output, hbW.size, fun k hk _ => hbW.block k hk⟩ (by cases hv : v.ownBlock <;> simp), q4⟩
      · exact .inr ⟨q1, v, (hbW.block _ hlt1).trans q2, q3.kept (w' := W) (row := none) ⟨hbW.os, hbW.tape, hbW.output, hbW.size, fun k hk _ => hbW.block k hk⟩ (by cases hv : v.ownBlock <;> simp), q4⟩
    · rw [hcell] at hv
      have hown : w1.ownsRow w.heap.size 5 1 v ([] ++ [(34 : Int)]).length (bv ([] ++ [34])) := by
        rcases hB1 with ⟨q1, v', q2, q3, q4⟩ | ⟨q1, v', q2, q3, q4⟩
        all_goals
          rw [Go.Lib.cell_of_heap q2] at hv
          injection hv with hv
          subst hv
          exact q3
      have := (hown.lt _ e).2
      omega
  have HRd : Hid (RdL W (some ⟨g8, 0, none⟩) (bl x)) := by rw [hg8]; exact hrW
  rw [← hg8] at hcv
  have hgne : g8 ≠ w.heap.size := by omega
  clear hB1 hb1 hbb hbW hrW hzW B0 hlt1 hg8
  go_wp2
  go_loopw [5, 10] (fun _ i wr => ∃ (k : Nat) (l : List Int), k ≤ x.size ∧ i = .int .i64 k ∧ l = 34 :: ((bl x).take k).flatMap qB ∧ QS w W g8 wr l) (fun _ i _ => x.size - (intOf i).toNat)
  case atStart => exact ⟨0, [34], Nat.zero_le _, rfl, by simp, H0.out⟩
  case round =>
    obtain ⟨k, l, hk, rfl, hl, hq⟩ := hrel
    have HQ : Hid (QS w W g8 wr l ∧ l.length ≤ 4001 ∧ l = 34 :: ((bl x).take k).flatMap qB) := by
      refine ⟨hq, ?_, hl⟩
      have h1 := qM_length ((bl x).take k)
      have h2 : ((bl x).take k).length ≤ k := List.length_take_le _ _
      rw [hl, List.length_cons]
      omega
    have hc8 : ∀ j, wr.cell? ⟨g8, j, none⟩ = W.cell? ⟨g8, j, none⟩ := fun j => by unfold World.cell?; rw [hq.2.2.2.1]
    clear hq hl
    by_cases hlt : k < x.size
    · obtain ⟨b, hb1, hb2⟩ := bl_get hlt
      have hbb : b.toNat < 256 := b.toNat_lt
      obtain ⟨bn, hbn⟩ : ∃ bn, bn = b.toNat := ⟨_, rfl⟩
      rw [← hbn] at hb2 hbb
      have hck : wr.cell? ⟨g8, k, none⟩ = some (.int .u8 (bn : Int)) := by
        rw [hc8]
        rcases HRd.out with h0 | ⟨b', o', e, hc⟩
        · rw [bl_length] at h0; omega
        · injection e with e
          injection e with e1 e2
          subst e1 e2
          have := hc k (by rw [bl_length]; exact hlt)
          rw [Nat.zero_add] at this
          rw [this]
          unfold lf
          rw [List.getD_eq_getElem?_getD, hb2]
          rfl
      clear hb1 hbn hc8
      have k0 : (0 : Int) ≤ (k : Int) := by omega
      have k1 : (k : Int) < (x.size : Int) := by omega
      by_cases h1 : bn = 34
      · subst h1
        have HG : Hid ((bl x)[k]? = some 34 ∧ qB 34 = [92, 34]) := ⟨hb2, rfl⟩
        clear hb2
        have HWr : Hid (Calls Try.prog 127 #[.pointer (some ⟨w.heap.size, 0, none⟩), .slice (some ⟨wr.heap.size, 0, none⟩) 2 2] (wr.alloc (.cells #[.int .u8 92, .int .u8 34] 5)) fun e w' => e = .returned (.tuple #[.int .i64 2, .nilIface]) ∧ QS w W g8 w' (l ++ [92, 34])) := by
          have hb1 : Below wr.heap.size wr (wr.alloc (.cells #[.int .u8 92, .int .u8 34] 5)) := below_alloc _ _
          have hq := HQ.out.1.below hb1
          refine (write_any w.heap.size w.heap.size l ⟨wr.heap.size, 0, none⟩ 2 2 [92, 34] (wr.alloc (.cells #[.int .u8 92, .int .u8 34] 5)) hq.1 rfl (by omega) (by omega) (by have := HQ.out.1.1.lt; show wr.heap.size ≠ _; omega) (new_cells wr [.int .u8 92, .int .u8 34] _) (by have := HQ.out.2.1; omega) hq.2.1.size).mono ?_
          rintro e w' ⟨q1, q2, q3, q4⟩
          exact ⟨q1, hq.step hgne q2 q3 q4⟩
        go_wp2_with fail
        refine HWr.out.mono ?_
        rintro e w2 ⟨rfl, hq2⟩
        have H2 : Hid (QS w W g8 w2 (l ++ [92, 34])) := hq2
        clear hq2 HWr
        go_wp2
        go_roundw
        case rel => exact ⟨k + 1, l ++ [92, 34], by omega, by go_num, by rw [qM_take (bl x) k HG.out.1, HG.out.2, ← List.cons_append, ← HQ.out.2.2], H2.out⟩
        case measure => simp [intOf]; omega
      have n1 : ¬ (bn : Int) = 34 := by omega
      have d1 : ((bn : Int) == 34) = false := by simp [n1]
      by_cases h2 : bn = 92
      · subst h2
        have HG : Hid ((bl x)[k]? = some 92 ∧ qB 92 = [92, 92]) := ⟨hb2, rfl⟩
        clear hb2
        have HWr : Hid (Calls Try.prog 127 #[.pointer (some ⟨w.heap.size, 0, none⟩), .slice (some ⟨wr.heap.size, 0, none⟩) 2 2] (wr.alloc (.cells #[.int .u8 92, .int .u8 92] 5)) fun e w' => e = .returned (.tuple #[.int .i64 2, .nilIface]) ∧ QS w W g8 w' (l ++ [92, 92])) := by
          have hb1 : Below wr.heap.size wr (wr.alloc (.cells #[.int .u8 92, .int .u8 92] 5)) := below_alloc _ _
          have hq := HQ.out.1.below hb1
          refine (write_any w.heap.size w.heap.size l ⟨wr.heap.size, 0, none⟩ 2 2 [92, 92] (wr.alloc (.cells #[.int .u8 92, .int .u8 92] 5)) hq.1 rfl (by omega) (by omega) (by have := HQ.out.1.1.lt; show wr.heap.size ≠ _; omega) (new_cells wr [.int .u8 92, .int .u8 92] _) (by have := HQ.out.2.1; omega) hq.2.1.size).mono ?_
          rintro e w' ⟨q1, q2, q3, q4⟩
          exact ⟨q1, hq.step hgne q2 q3 q4⟩
        go_wp2_with fail
        refine HWr.out.mono ?_
        rintro e w2 ⟨rfl, hq2⟩
        have H2 : Hid (QS w W g8 w2 (l ++ [92, 92])) := hq2
        clear hq2 HWr
        go_wp2
        go_roundw
        case rel => exact ⟨k + 1, l ++ [92, 92], by omega, by go_num, by rw [qM_take (bl x) k HG.out.1, HG.out.2, ← List.cons_append, ← HQ.out.2.2], H2.out⟩
        case measure => simp [intOf]; omega
      have n2 : ¬ (bn : Int) = 92 := by omega
      have d2 : ((bn : Int) == 92) = false := by simp [n2]
      obtain ⟨pb, hpb⟩ : ∃ pb, pb = decide (32 ≤ bn ∧ bn ≤ 126) := ⟨_, rfl⟩
      have HPl : Hid (Calls Try.prog 128 #[.int .u8 (bn : Int)] wr fun e w' => e = .returned (.bool pb) ∧ w' = wr) := by rw [hpb]; exact plain_any bn wr
      by_cases h3 : 32 ≤ bn ∧ bn ≤ 126
      · have e3 : pb = true := by rw [hpb]; exact decide_eq_true h3
        subst e3
        have HG : Hid ((bl x)[k]? = some (bn : Int) ∧ qB bn = [(bn : Int)]) := ⟨hb2, by unfold qB; rw [if_neg (by omega), if_pos (by omega)]⟩
        have HWc := HWb.out wr l (bn : Int) HQ.out.1.1 (by have := HQ.out.2.1; omega) HQ.out.1.2.1.size
        have HWd : Hid (Calls Try.prog 126 #[.pointer (some ⟨w.heap.size, 0, none⟩), .int .u8 (bn : Int)] wr fun e w' => e = .returned .nilIface ∧ QS w W g8 w' (l ++ [(bn : Int)])) := HWc.mono fun e w' ⟨q1, q2, q3, q4⟩ => ⟨q1, HQ.out.1.step hgne q2 q3 q4⟩
        clear hb2 hpb HWc
        go_wp2_with fail
        refine HPl.out.mono ?_
        rintro e w2 ⟨rfl, hw2⟩
        subst hw2
        go_wp2_with fail
        refine HWd.out.mono ?_
        rintro e w2 ⟨rfl, hq2⟩
        have H2 : Hid (QS w W g8 w2 (l ++ [(bn : Int)])) := hq2
        clear hq2 HWd HPl
        go_wp2
        go_roundw
        case rel => exact ⟨k + 1, l ++ [(bn : Int)], by omega, by go_num, by rw [qM_take (bl x) k HG.out.1, HG.out.2, ← List.cons_append, ← HQ.out.2.2], H2.out⟩
        case measure => simp [intOf]; omega
      · have e3 : pb = false := by rw [hpb]; exact decide_eq_false h3
        subst e3
        have HG : Hid ((bl x)[k]? = some (bn : Int) ∧ qB bn = [92, 120, hexC (bn / 16), hexC (bn % 16)]) := ⟨hb2, by unfold qB; rw [if_neg (by omega), if_neg (by omega)]; rfl⟩
        clear hb2 hpb
        go_wp2_with fail
        refine HPl.out.mono ?_
        rintro e w2 ⟨rfl, hw2⟩
        subst hw2
        obtain ⟨p1, hp1⟩ : ∃ p1, p1 = bn / 16 := ⟨_, rfl⟩
        obtain ⟨p2, hp2⟩ : ∃ p2, p2 = bn % 16 := ⟨_, rfl⟩
        rw [← hp1, ← hp2] at HG
        obtain ⟨c1, g1, g2⟩ := hex_get p1 (by omega)
        obtain ⟨c2, g3, g4⟩ := hex_get p2 (by omega)
        have hi1 : ∀ W : World, (Instr.index 9 (.string { data := #[48, 49, 50, 51, 52, 53, 54, 55, 56, 57, 97, 98, 99, 100, 101, 102] }) (.int .u8 ((bn : Int) / 16))).run Try.prog W = .ok (.int .u8 (hexC p1)) W := fun W => by
          have e : (bn : Int) / 16 = (p1 : Int) := by omega
          rw [e]
          simp [Instr.index, go_sem, g1, g2]
        have hi2 : ∀ W : World, (Instr.index 9 (.string { data := #[48, 49, 50, 51, 52, 53, 54, 55, 56, 57, 97, 98, 99, 100, 101, 102] }) (.int .u8 ((bn : Int) % 16))).run Try.prog W = .ok (.int .u8 (hexC p2)) W := fun W => by
          have e : (bn : Int) % 16 = (p2 : Int) := by omega
          rw [e]
          simp [Instr.index, go_sem, g3, g4]
        have hand : bits .and .u8 (bn : Int) 15 = (bn : Int) % 16 := u8_and15 (x := (bn : Int)) (by omega) (by omega)
        clear hp1 hp2
        generalize hexC p1 = x1 at *
        generalize hexC p2 = x2 at *
        clear g1 g2 g3 g4
        have HWr : Hid (Calls Try.prog 127 #[.pointer (some ⟨w.heap.size, 0, none⟩), .slice (some ⟨w2.heap.size, 0, none⟩) 4 4] ((w2.alloc (.cells #[.int .u8 92, .int .u8 120, .int .u8 x1, .int .u8 x2] 5)).drew) fun e w' => e = .returned (.tuple #[.int .i64 4, .nilIface]) ∧ QS w W g8 w' (l ++ [92, 120, x1, x2])) := by
          have hb1 : Below w2.heap.size w2 ((w2.alloc (.cells #[.int .u8 92, .int .u8 120, .int .u8 x1, .int .u8 x2] 5)).drew) := (below_alloc _ _).drew
          have hq := HQ.out.1.below hb1
          refine (write_any w.heap.size w.heap.size l ⟨w2.heap.size, 0, none⟩ 4 4 [92, 120, x1, x2] ((w2.alloc (.cells #[.int .u8 92, .int .u8 120, .int .u8 x1, .int .u8 x2] 5)).drew) hq.1 rfl (by omega) (by omega) (by have := HQ.out.1.1.lt; show w2.heap.size ≠ _; omega) (new_cells w2.drew [.int .u8 92, .int .u8 120, .int .u8 x1, .int .u8 x2] _) (by have := HQ.out.2.1; omega) hq.2.1.size).mono ?_
          rintro e w' ⟨q1, q2, q3, q4⟩
          exact ⟨q1, hq.step hgne q2 q3 q4⟩
        go_wp2
        go_region_with (first | (go_at_call 127; (with_reducible refine HWr.out.mono ?_); rintro e w3 ⟨rfl, hq2⟩) | fail)
        all_goals
          have H2 : Hid (QS w W g8 w3 (l ++ [92, 120, x1, x2])) := hq2
          clear hq2 HWr
          go_wp2
          go_roundw
          case rel => exact ⟨k + 1, l ++ [92, 120, x1, x2], by omega, by go_num, by rw [qM_take (bl x) k HG.out.1, HG.out.2, ← List.cons_append, ← HQ.out.2.2], H2.out⟩
          case measure => simp [intOf]; omega
    · have e : k = x.size := by omega
      subst e
      have l1 : ¬ (x.size : Int) < (x.size : Int) := by omega
      have HWc := HWb.out wr l 34 HQ.out.1.1 (by have := HQ.out.2.1; omega) HQ.out.1.2.1.size
      have HWd : Hid (Calls Try.prog 126 #[.pointer (some ⟨w.heap.size, 0, none⟩), .int .u8 34] wr fun e w' => e = .returned .nilIface ∧ BdA w' w.heap.size w.heap.size (qL (bl x)) ∧ Below w.heap.size w w') := HWc.mono fun e w' ⟨q1, q2, q3, q4⟩ => by
        have e2 : l ++ [34] = qL (bl x) := by rw [HQ.out.2.2, ← bl_length, List.take_length]; rfl
        rw [e2] at q2
        exact ⟨q1, q2, HQ.out.1.2.1.trans q3⟩
      clear HWc
      go_wp2_with fail
      refine HWd.out.mono ?_
      rintro e w2 ⟨rfl, hB2, hb2⟩
      have HS : Hid (Calls Try.prog 129 #[.pointer (some ⟨w.heap.size, 0, none⟩)] w2 fun e w' => e = .returned (.string (strT (qL (bl x)))) ∧ Below w.heap.size w w') := (string_any w.heap.size w.heap.size _ w2 hB2 (qL_byt x) (by unfold qL; simp)).mono fun e w' ⟨q1, q2⟩ => ⟨q1, hb2.trans q2⟩
      clear hB2 hb2 HWd
      go_wp2_with fail
      refine HS.out.mono ?_
      rintro e w3 ⟨rfl, hb3⟩
      have HZ : Hid (Below w.heap.size w w3) := hb3
      clear hb3 HS
      go_wp2
      go_ret
      exact ⟨rfl, HZ.out⟩
end Go.Proofs.Ytocmbnocdjnfpaa

namespace Go.Proofs.Ytocmbnocdjnfpaa
open Go.RowKit Go.Deep
set_option linter.unusedVariables false
set_option maxRecDepth 100000

theorem byt_flat {L : List (List Int)} (h : ∀ l, l ∈ L → Byt l) : Byt L.flatten := fun x hx => by
  obtain ⟨l, h1, h2⟩ := List.mem_flatten.1 hx
  exact h l h1 x h2
theorem byt_wr {k : Int} {r : Bool} {kk : Int} {a : List Int} (h : Byt a) : Byt (wrT k r kk a) := by
  unfold wrT
  split
  · refine byt_flat (fun l hl => ?_)
    simp at hl
    rcases hl with rfl | rfl | rfl
    · exact byt_lit rfl
    · exact h
    · exact byt_lit rfl
  · exact h
theorem nodeT_byt (k : Int) (s t : ByteArray) {a0 : List Int} (k0 : Int) {a1 : List Int} (k1 : Int) (h0 : Byt a0) (h1 : Byt a1) : Byt (nodeT k s t a0 k0 a1 k1) := by
  unfold nodeT
  refine byt_flat (fun l hl => ?_)
  have hs := qL_byt s
  have ht := qL_byt t
  have w0 : Byt (wrT k false k0 a0) := byt_wr h0
  have w1 : Byt (wrT k true k1 a1) := byt_wr h1
  unfold nodeP at hl
  repeat
    first
    | (split at hl)
    | (simp at hl; rcases hl with rfl | rfl | rfl | rfl | rfl | rfl <;> first | assumption | exact byt_lit rfl)
    | (simp at hl; rcases hl with rfl | rfl | rfl | rfl | rfl <;> first | assumption | exact byt_lit rfl)
    | (simp at hl; rcases hl with rfl | rfl | rfl | rfl <;> first | assumption | exact byt_lit rfl)
    | (simp at hl; rcases hl with rfl | rfl | rfl <;> first | assumption | exact byt_lit rfl)
    | (simp at hl; subst hl; exact byt_lit rfl)
theorem TF_byt (I : Nat → Int) (X R : Nat → ByteArray) : ∀ f i, Byt (TF I X R f i)
  | 0, i => fun x hx => absurd hx List.not_mem_nil
  | f + 1, i => by
    refine nodeT_byt _ _ _ _ _ ?_ ?_
    · split
      · exact TF_byt I X R f _
      · exact fun x hx => absurd hx List.not_mem_nil
    · split
      · exact TF_byt I X R f _
      · exact fun x hx => absurd hx List.not_mem_nil
theorem T_byt (I : Nat → Int) (X R : Nat → ByteArray) (i : Nat) : Byt (T I X R i) := TF_byt I X R _ _
theorem lf_byt {pt : List Int} (h : Byt pt) : ∀ i, i < pt.length → 0 ≤ lf pt i ∧ lf pt i < 256 := fun i hi => by
  unfold lf
  rw [List.getD_eq_getElem?_getD, List.getElem?_eq_getElem hi]
  exact h _ (List.getElem_mem hi)

/-! What a path's validity depends on. -/
theorem dep_congr {A B : Nat → Nat} : ∀ n, (∀ i, i < n → A i = B i) → dep A n = dep B n
  | 0, _ => rfl
  | n + 1, h => by rw [dep_succ, dep_succ, dep_congr n (fun i hi => h i (by omega)), h n (by omega)]
theorem need_congr {A B : Nat → Nat} {e j : Nat} (h : ∀ i, i < e → A i = B i) (hj : j ≤ e) : need A e j = need B e j := by
  unfold need
  rw [dep_congr e h, dep_congr j (fun i hi => h i (by omega))]
theorem begins_congr {A B : Nat → Nat} {e s : Nat} (h : ∀ i, i < e → A i = B i) (hb : Begins A e s) : Begins B e s := by
  obtain ⟨h1, h2, h3⟩ := hb
  exact ⟨h1, by rw [← need_congr h (by omega)]; exact h2, fun j q1 q2 => by rw [← need_congr h q2]; exact h3 j q1 q2⟩
theorem bgGo_congr {A B : Nat → Nat} {e : Nat} (h : ∀ i, i < e → A i = B i) : ∀ j, j ≤ e → bgGo A e j = bgGo B e j
  | 0, _ => rfl
  | j + 1, hj => by
    unfold bgGo
    rw [need_congr h (by omega), bgGo_congr h j (by omega)]
theorem bgF_le (A : Nat → Nat) (e : Nat) : bgF A e ≤ e := by
  have : ∀ j, bgGo A e j ≤ j := fun j => by
    induction j with
    | zero => exact Nat.le_refl _
    | succ j ih =>
      unfold bgGo
      split
      · omega
      · omega
  exact this e
theorem htF_zero : ∀ (f : Nat) (A B : Nat → Nat), A 0 = B 0 → htF f A 0 = htF f B 0
  | 0, _, _, _ => rfl
  | f + 1, A, B, h => by
    have e1 := htF_zero f A B h
    have e2 := htF_zero f (fun i => A (0 + i)) (fun i => B (0 + i)) h
    show (if A 0 = 0 then 1 else if A 0 = 1 then 1 + htF f A 0 else 1 + max (htF f A 0) (htF f (fun i => A (0 + i)) 0)) = (if B 0 = 0 then 1 else if B 0 = 1 then 1 + htF f B 0 else 1 + max (htF f B 0) (htF f (fun i => B (0 + i)) 0))
    rw [h, e1, e2]
theorem htF_congr : ∀ (f : Nat) (A B : Nat → Nat) (n : Nat), 0 < n → (∀ i, i < n → A i = B i) → htF f A n = htF f B n
  | 0, _, _, _, _, _ => rfl
  | f + 1, A, B, n, hn, h => by
    have e : bgF A (n - 1) = bgF B (n - 1) := bgGo_congr (fun i hi => h i (by omega)) _ (Nat.le_refl _)
    have hA : ∀ n', n' < n → htF f A n' = htF f B n' := fun n' h' => by
      by_cases h0 : n' = 0
      · subst h0
        cases f with
        | zero => rfl
        | succ f =>
          exact htF_zero (f + 1) A B (h 0 (by omega))
      · exact htF_congr f A B n' (by omega) (fun i hi => h i (by omega))
    have hS : htF f (fun i => A (bgF A (n - 1) + i)) (n - 1 - bgF A (n - 1)) = htF f (fun i => B (bgF B (n - 1) + i)) (n - 1 - bgF B (n - 1)) := by
      have := bgF_le B (n - 1)
      rw [e]
      by_cases h0 : n - 1 - bgF B (n - 1) = 0
      · rw [h0]
        cases f with
        | zero => rfl
        | succ f => exact htF_zero (f + 1) _ _ (h _ (by omega))
      · exact htF_congr f _ _ _ (by omega) (fun i hi => h _ (by omega))
    unfold htF
    rw [h (n - 1) (by omega), hA (n - 1) (by omega), e, hA (bgF B (n - 1)) (by have := bgF_le B (n - 1); omega)]
    rw [← e, hS, e]
theorem VPth.congr {n : Nat} {I I' : Nat → Int} {X X' R R' : Nat → ByteArray} (h : VPth n I X R) (e : ∀ i, i < n → I i = I' i ∧ X i = X' i ∧ R i = R' i) : VPth n I' X' R' := by
  obtain ⟨h1, h2, h3, h4⟩ := h
  refine ⟨h1, fun i hi => ?_, begins_congr (fun i hi => by rw [(e i hi).1]) h3, ?_⟩
  · obtain ⟨e1, e2, e3⟩ := e i hi
    rw [← e1, ← e2, ← e3]
    exact h2 i hi
  · rw [← htF_congr 100 (fun i => arOf (I i)) _ n (by omega) (fun i hi => by rw [(e i hi).1])]
    exact h4
theorem strT_bl (x : ByteArray) : strT (bl x) = x := by
  unfold strT bl
  rw [List.map_map]
  have : ((fun x : Int => UInt8.ofNat x.toNat) ∘ fun b : UInt8 => ((b.toNat : Nat) : Int)) = id := by
    funext b
    simp
  rw [this]
  simp
theorem ndS_get (I : Nat → Int) (X R : Nat → ByteArray) {n i : Nat} (hi : i < n) : (ndS I X R 0 n).getD i ⟨0, [], []⟩ = nd1 I X R i := by
  unfold ndS
  rw [List.getD_eq_getElem?_getD, List.getElem?_map, List.getElem?_range hi]
  simp
theorem ndS_cells {n : Nat} {I : Nat → Int} {X R : Nat → ByteArray} (h : ∀ i, i < n → 0 ≤ I i) {i : Nat} (hi : i < n) : nI (ndS I X R 0 n) i = I i ∧ nX (ndS I X R 0 n) i = X i ∧ nR (ndS I X R 0 n) i = R i := by
  unfold nI nX nR
  rw [ndS_get I X R hi]
  refine ⟨?_, strT_bl _, strT_bl _⟩
  have := h i hi
  show (((I i).toNat : Nat) : Int) = I i
  omega
/-- What is printed is parsed to what was printed. -/
theorem reparse {NN : Nat} {I : Nat → Int} {X R : Nat → ByteArray} (hv : VPth NN I X R) {pt : List Int} (hpt : pt = T I X R (NN - 1)) (hlen : pt.length ≤ 2000) {m : Nat} (hl : LastK (tkF (lf pt) pt.length) m) : PAns (lf pt) pt.length m 0 0 (ndS I X R 0 NN) := by
  obtain ⟨⟨h1, h2⟩, hg, hb, hh⟩ := hv
  have hby : Byt pt := by rw [hpt]; exact T_byt _ _ _ _
  have hf := lf_byt hby
  have hq := tk14 hf
  have gn := gn_node hq hl hg NN 0 (NN - 1) (by omega) (by omega) (by simpa only [Nat.zero_add, show NN - 1 + 1 = NN by omega] using hb)
  rw [Nat.zero_add, show NN - 1 + 1 = NN by omega, ← hpt] at gn
  have at0 : AtB (lf pt) pt.length 0 pt := ⟨by omega, fun j hj => by
    rw [Nat.zero_add]
    unfold lf
    rw [List.getD_eq_getElem?_getD, List.getElem?_eq_getElem hj]
    rfl⟩
  obtain ⟨h0, k', g1, g2, g3, g4⟩ := gn 0 0 hl.1 rfl at0 (fun q => by omega)
  rw [Nat.zero_add, endF_stop (fun e => by omega)] at g3
  have h15 : (tkF (lf pt) pt.length k').c = 15 := by
    show (tkA (lf pt) pt.length (tkPos (lf pt) pt.length k')).c = 15
    rw [g3, tkA_end (Nat.le_refl _)]
  have hlen2 := ndS_len I X R 0 NN
  have pc := g4 0 [] (by omega) (by omega) ⟨fun _ => by omega, fun _ => by omega, fun _ => ⟨by omega, by omega⟩⟩
  have pc1 := (pc.up (lvI_pos _)).stop (u' := 1) ⟨fun _ => by show (tkF (lf pt) pt.length k').c ≠ 10; omega, fun _ => by show (tkF (lf pt) pt.length k').c ≠ 6; omega, fun _ => ⟨by show (tkF (lf pt) pt.length k').c ≠ 7; omega, by show (tkF (lf pt) pt.length k').c ≠ 8; omega⟩⟩
  obtain ⟨d, p1, _, _, _, _, _, _, _, p9⟩ := pc1
  have p1' : ndS I X R 0 NN = d := by have : ([] : List Nd) ++ ndS I X R 0 NN = [] ++ d := p1; simpa using this
  obtain ⟨p', o1, pend, q1, q2, q3, q4, q5, q6⟩ := p9 ⟨0, 0, 0, 0, []⟩ [] [] rfl rfl rfl (by show 0 < 1; omega)
  have hd := drn_all (least := 1) (st := []) (by show 0 < 1; omega) pend o1 q5
  rw [q4] at hd
  have q2' : p'.i = k' := q2
  have body : bodyM (tkF (lf pt) pt.length) (tkPos (lf pt) pt.length) ⟨p', o1, pend ++ [], false, false⟩ = ⟨p', d, [], false, true⟩ := by
    unfold bodyM
    simp only [q2', h15]
    rw [if_neg (by simp), if_neg (by omega), if_neg (by omega), hd]
    simp
  have run := q6.trans (Rch.one q1 rfl body)
  obtain ⟨HS1, HS2⟩ := top_same hq hl (tk15 _ _) run (Or.inr rfl)
  cases htop : topF (tkF (lf pt) pt.length) (tkPos (lf pt) pt.length) m with
  | inr x =>
    obtain ⟨z1, z2, _⟩ := HS1 x htop
    exact absurd (z2.symm.trans q1) z1
  | inl r =>
    obtain ⟨_, z2, _⟩ := HS2 r htop
    have z2' : d = r.2.2 := z2
    refine .inr (.inr (.inr ⟨hlen, r, htop, ?_, rfl, rfl, by rw [p1', z2']⟩))
    rw [← z2', ← p1', hlen2]
    refine VPth.congr (n := NN) (I := I) (X := X) (R := R) ⟨⟨h1, h2⟩, hg, hb, hh⟩ (fun i hi => ?_)
    have := ndS_cells (I := I) (X := X) (R := R) (n := NN) (fun i hi => by have := (gn_good (hg i hi)).1; omega) hi
    exact ⟨this.1.symm, this.2.1.symm, this.2.2.symm⟩
end Go.Proofs.Ytocmbnocdjnfpaa
