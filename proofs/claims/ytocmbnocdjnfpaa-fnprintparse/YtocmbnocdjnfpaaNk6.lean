import Derived.Test.YtocmbnocdjnfpaaNk5
import Derived.Test.YtocmbnocdjnfpaaPaV
import Derived.Test.YtocmbnocdjnfpaaNk4
import Derived.Test.YtocmbnocdjnfpaaNk3
import Derived.Test.YtocmbnocdjnfpaaPpC
import Derived.Test.YtocmbnocdjnfpaaPpD
namespace Go.Proofs.Ytocmbnocdjnfpaa
set_option linter.unusedVariables false

section
variable {T : Nat → Tok} {A : Nat → Nat} {m : Nat}
/-- A good state of the reader. -/
def Okk (T : Nat → Tok) (m : Nat) (s : Nat × Nat × List Nd) : Prop := s.1 < m ∧ (T s.1).c ≠ 0 ∧ s.2.1 ≤ 100
/-- What comes out lies at least a tokens behind. -/
def Up (T : Nat → Tok) (m a : Nat) (σ σ' : (Nat × Nat × List Nd) ⊕ (Int × Int)) : Prop := ∀ s', σ' = .inl s' → ∃ s, σ = .inl s ∧ s.1 + a ≤ s'.1 ∧ (Okk T m s → Okk T m s')
theorem Up.refl (σ : (Nat × Nat × List Nd) ⊕ (Int × Int)) : Up T m 0 σ σ := fun s' e => ⟨s', e, Nat.le_refl _, id⟩
theorem Up.trans {a b : Nat} {σ σ1 σ2 : (Nat × Nat × List Nd) ⊕ (Int × Int)} (h : Up T m a σ σ1) (k : Up T m b σ1 σ2) : Up T m (a + b) σ σ2 := fun s' e => by
  obtain ⟨s1, e1, k1, k2⟩ := k s' e
  obtain ⟨s, e0, h1, h2⟩ := h s1 e1
  exact ⟨s, e0, by omega, fun q => k2 (h2 q)⟩
theorem Up.less {a b : Nat} {σ σ' : (Nat × Nat × List Nd) ⊕ (Int × Int)} (h : Up T m a σ σ') (hb : b ≤ a) : Up T m b σ σ' := fun s' e => by
  obtain ⟨s, e0, h1, h2⟩ := h s' e
  exact ⟨s, e0, by omega, h2⟩
theorem Up.em {a : Nat} {σ σ' : (Nat × Nat × List Nd) ⊕ (Int × Int)} (h : Up T m a σ σ') (x : Nd) : Up T m a σ (emP x σ') := fun s' e => by
  cases σ' with
  | inr y => cases e
  | inl s1 =>
    cases e
    obtain ⟨s, e0, h1, h2⟩ := h s1 rfl
    exact ⟨s, e0, h1, fun q => h2 q⟩
theorem up_tk (hl : LastK T m) {c : Nat} (h1 : 1 ≤ c) (h2 : c < 15) (σ : (Nat × Nat × List Nd) ⊕ (Int × Int)) : Up T m 1 σ (tkP T A c σ) := fun s' e => by
  obtain ⟨i, nd, N, rfl, h3, rfl, h4, h5⟩ := tk_inv e
  refine ⟨_, rfl, Nat.le_refl _, fun q => ⟨last_lt hl q.1 h3 h1 h2, h5, ?_⟩⟩
  have := q.2.2
  have : nd ≤ 100 := this
  show nd + (if 1 ≤ c ∧ c ≤ 9 then 1 else 0) ≤ 100
  split
  · rename_i q9
    have := h4 q9
    omega
  · omega
theorem up_call (hl : LastK T m) {c : Nat} (h1 : 1 ≤ c) (h2 : c < 15) (σ : (Nat × Nat × List Nd) ⊕ (Int × Int)) : Up T m 1 σ (callF T A c σ) :=
  ((((up_tk hl h1 h2 σ).trans (up_tk hl (by omega) (by omega) _)).trans (up_tk hl (by omega) (by omega) _)).trans (up_tk hl (by omega) (by omega) _)).em _ |>.less (by omega)
theorem up_has (hl : LastK T m) (σ : (Nat × Nat × List Nd) ⊕ (Int × Int)) : Up T m 1 σ (hasF T A σ) :=
  ((((((up_tk hl (by omega) (by omega) σ).trans (up_tk hl (by omega) (by omega) _)).trans (up_tk hl (by omega) (by omega) _)).trans (up_tk hl (by omega) (by omega) _)).trans (up_tk hl (by omega) (by omega) _)).trans (up_tk hl (by omega) (by omega) _)).em _ |>.less (by omega)
theorem up_move (hl : LastK T m) (σ : (Nat × Nat × List Nd) ⊕ (Int × Int)) : Up T m 1 σ (moveF T A σ) := by
  unfold moveF
  split
  · exact up_call hl (by omega) (by omega) σ
  · split
    · exact up_has hl σ
    · exact up_call hl (by omega) (by omega) σ
theorem up_rec {rec : (Nat × Nat × List Nd) ⊕ (Int × Int) → (Nat × Nat × List Nd) ⊕ (Int × Int)} (hr : ∀ σ, Up T m 0 σ (rec σ)) (σ : (Nat × Nat × List Nd) ⊕ (Int × Int)) : Up T m 0 σ (recF rec σ) := by
  cases σ with
  | inl s => exact hr _
  | inr x => exact Up.refl _
theorem up_inner (hl : LastK T m) {rec : (Nat × Nat × List Nd) ⊕ (Int × Int) → (Nat × Nat × List Nd) ⊕ (Int × Int)} (hr : ∀ σ, Up T m 0 σ (rec σ)) (σ : (Nat × Nat × List Nd) ⊕ (Int × Int)) : Up T m 1 σ (innerF T A rec σ) :=
  (((up_tk hl (by omega) (by omega) σ).trans (up_rec hr _)).trans (up_tk hl (by omega) (by omega) _)).less (by omega)
theorem up_prim (hl : LastK T m) {rec : (Nat × Nat × List Nd) ⊕ (Int × Int) → (Nat × Nat × List Nd) ⊕ (Int × Int)} (hr : ∀ σ, Up T m 0 σ (rec σ)) (σ : (Nat × Nat × List Nd) ⊕ (Int × Int)) : Up T m 1 σ (primF T A rec σ) := by
  unfold primF
  split
  · exact (up_tk hl (by omega) (by omega) σ).em _
  · split
    · exact up_call hl (by omega) (by omega) σ
    · split
      · exact ((((up_tk hl (by omega) (by omega) σ).trans (up_tk hl (by omega) (by omega) _)).trans (up_inner hl hr _)).em _).less (by omega)
      · exact up_inner hl hr σ
theorem up_loop {t : Nat → Bool} {body : Nat → (Nat × Nat × List Nd) ⊕ (Int × Int) → (Nat × Nat × List Nd) ⊕ (Int × Int)} (hb : ∀ σ, t (kdS T σ) = true → Up T m 0 σ (body (kdS T σ) σ)) : ∀ g σ, Up T m 0 σ (loopF T t body g σ)
  | 0, σ => Up.refl _
  | g + 1, σ => by
    show Up T m 0 σ (if t (kdS T σ) = true then loopF T t body g (body (kdS T σ) σ) else σ)
    split
    · rename_i h; exact (hb σ h).trans (up_loop hb g _)
    · exact Up.refl _
theorem up_step (hl : LastK T m) {rec : (Nat × Nat × List Nd) ⊕ (Int × Int) → (Nat × Nat × List Nd) ⊕ (Int × Int)} (hr : ∀ σ, Up T m 0 σ (rec σ)) (σ : (Nat × Nat × List Nd) ⊕ (Int × Int)) : Up T m 1 σ (stepF T A m rec σ) :=
  (up_prim hl hr σ).trans (up_loop (fun σ _ => ((up_tk hl (by omega) (by omega) σ).trans (up_move hl _)).less (by omega)) m _)
theorem up_meet (hl : LastK T m) {rec : (Nat × Nat × List Nd) ⊕ (Int × Int) → (Nat × Nat × List Nd) ⊕ (Int × Int)} (hr : ∀ σ, Up T m 0 σ (rec σ)) (σ : (Nat × Nat × List Nd) ⊕ (Int × Int)) : Up T m 1 σ (meetF T A m rec σ) :=
  (up_step hl hr σ).trans (up_loop (fun σ _ => (((up_tk hl (by omega) (by omega) σ).trans (up_step hl hr _)).em _).less (by omega)) m _)
theorem up_path (hl : LastK T m) : ∀ g σ, Up T m 0 σ (pathF T A m g σ)
  | 0, σ => Up.refl _
  | g + 1, σ => ((up_meet hl (up_path hl g) σ).trans (up_loop (fun σ h => (((up_tk hl (by have := of_decide_eq_true h; omega) (by have := of_decide_eq_true h; omega) σ).trans (up_meet hl (up_path hl g) _)).em _).less (by omega)) m _)).less (by omega)

theorem PC.okk {s u i nd : Nat} {N : List Nd} {r : Nat × Nat × List Nd} (h : PC T A s u i nd N (.inl r)) : (T r.1).c ≠ 0 ∧ r.2.1 ≤ 100 := by
  obtain ⟨d, _, _, _, _, h5, _, h7, _⟩ := h
  exact ⟨h7, h5⟩
/-- A loop of the reader. -/
theorem pc_loop {s u u' i nd : Nat} {N : List Nd} {t : Nat → Bool} {body : Nat → (Nat × Nat × List Nd) ⊕ (Int × Int) → (Nat × Nat × List Nd) ⊕ (Int × Int)} (h0 : t 0 = false)
    (hb : ∀ r : Nat × Nat × List Nd, r.1 < m → PC T A s u i nd N (.inl r) → t (T r.1).c = true → PC T A s u i nd N (body (T r.1).c (.inl r)))
    (hu : ∀ σ, t (kdS T σ) = true → Up T m 1 σ (body (kdS T σ) σ))
    (hst : ∀ c, t c = false → stopC u c → stopC u' c) : ∀ g σ, PC T A s u i nd N σ → (∀ r, σ = .inl r → r.1 < m ∧ m ≤ g + r.1) → PC T A s u' i nd N (loopF T t body g σ)
  | g, .inr x, h, _ => by
    have e : loopF T t body g (.inr x) = .inr x := by
      cases g with
      | zero => rfl
      | succ g =>
        show (if t 0 = true then _ else _) = _
        rw [h0]; rfl
    rw [e]
    exact PC.err h (Nat.le_refl _)
  | 0, .inl r, h, hm => by have := hm r rfl; omega
  | g + 1, .inl r, h, hm => by
    obtain ⟨m1, m2⟩ := hm r rfl
    show PC T A s u' i nd N (if t (T r.1).c = true then loopF T t body g (body (T r.1).c (.inl r)) else .inl r)
    cases e : t (T r.1).c with
    | false =>
      rw [if_neg (by simp)]
      refine PC.stop h (hst _ e ?_)
      obtain ⟨d, _, _, _, _, _, _, _, h8, _⟩ := h
      exact h8
    | true =>
      rw [if_pos rfl]
      have e' : t (kdS T (.inl r)) = true := e
      refine pc_loop h0 hb hu hst g _ (hb r m1 h e) (fun r' e2 => ?_)
      obtain ⟨s0, e0, k1, k2⟩ := hu (.inl r) e' r' e2
      cases e0
      have := (k2 ⟨m1, PC.okk h⟩).1
      exact ⟨this, by omega⟩

theorem pc_stepF (hq : ∀ i, (T i).c = 14 → txL (T i).q) (hl : LastK T m) {rec : (Nat × Nat × List Nd) ⊕ (Int × Int) → (Nat × Nat × List Nd) ⊕ (Int × Int)} (hr : ∀ σ, Up T m 0 σ (rec σ)) {i nd : Nat} {N : List Nd} (hi : i < m) (h0 : (T i).c ≠ 0) (hnd : nd ≤ 100)
    (hrec : ∀ i' nd' N', i < i' → i' < m → nd' ≤ 100 → (T i').c ≠ 0 → PC T A 1 1 i' nd' N' (rec (.inl (i', nd', N')))) : PC T A 3 3 i nd N (stepF T A m rec (.inl (i, nd, N))) := by
  have hp := pc_prim hq hl hi h0 hnd (fun i' nd' N' q1 q2 q3 q4 _ => hrec i' nd' N' q1 q2 q3 q4) (N := N)
  refine pc_loop rfl (fun r hr1 h hc => ?_) (fun σ _ => ((up_tk hl (by omega) (by omega) σ).trans (up_move hl _)).less (by omega)) (fun c hc h => ⟨fun _ e => absurd hc (by rw [e]; decide), fun e => absurd e (by omega), fun e => absurd e (by omega)⟩) m _ hp (fun r e => ?_)
  · exact pc_move hq h (of_decide_eq_true hc)
  · obtain ⟨s, e0, k1, k2⟩ := up_prim hl hr _ r e
    cases e0
    exact ⟨(k2 ⟨hi, h0, hnd⟩).1, Nat.le_add_right _ _⟩
theorem pc_meetF (hq : ∀ i, (T i).c = 14 → txL (T i).q) (hl : LastK T m) {rec : (Nat × Nat × List Nd) ⊕ (Int × Int) → (Nat × Nat × List Nd) ⊕ (Int × Int)} (hr : ∀ σ, Up T m 0 σ (rec σ)) {i nd : Nat} {N : List Nd} (hi : i < m) (h0 : (T i).c ≠ 0) (hnd : nd ≤ 100)
    (hrec : ∀ i' nd' N', i < i' → i' < m → nd' ≤ 100 → (T i').c ≠ 0 → PC T A 1 1 i' nd' N' (rec (.inl (i', nd', N')))) : PC T A 2 2 i nd N (meetF T A m rec (.inl (i, nd, N))) := by
  have hp := (pc_stepF hq hl hr hi h0 hnd hrec (N := N)).up (s' := 2) (by omega)
  refine pc_loop rfl (fun r hr1 h hc => ?_) (fun σ _ => (((up_tk hl (by omega) (by omega) σ).trans (up_step hl hr _)).em _).less (by omega)) (fun c hc h => ⟨fun _ => h.1 (by omega), fun _ e => absurd hc (by rw [e]; decide), fun e => absurd e (by omega)⟩) m _ hp (fun r e => ?_)
  · obtain ⟨i1, nd1, N1⟩ := r
    have h6 : (T i1).c = 6 := of_decide_eq_true hc
    have hii : i < i1 := by obtain ⟨d, _, _, _, _, _, h6, _⟩ := h; exact h6
    refine pc_two h h6 (by omega) (by omega) rfl (fun x e => ?_) (fun i2 nd2 N2 e => ?_)
    · have e' : tkP T A 6 (.inl (i1, nd1, N1)) = .inr x := e
      have e2 : stepF T A m rec (.inr x) = .inr x := by
        unfold stepF
        have e3 : primF T A rec (.inr x) = .inr x := rfl
        rw [e3]
        cases m with
        | zero => rfl
        | succ g => rfl
      show stepF T A m rec (tkP T A 6 (.inl (i1, nd1, N1))) = _
      rw [e', e2]
    · have e' : tkP T A 6 (.inl (i1, nd1, N1)) = .inl (i2, nd2, N2) := e
      have ok := up_tk (A := A) hl (c := 6) (by omega) (by omega) (.inl (i1, nd1, N1)) _ e'
      obtain ⟨s, e0, k1, k2⟩ := ok
      cases e0
      obtain ⟨o1, o2, o3⟩ := k2 ⟨hr1, PC.okk h⟩
      have k1' : i1 + 1 ≤ i2 := k1
      show PC T A 3 3 i2 nd2 N2 (stepF T A m rec (tkP T A 6 (.inl (i1, nd1, N1))))
      rw [e']
      exact pc_stepF hq hl hr o1 o2 o3 (fun i' nd' N' q1 q2 q3 q4 => hrec i' nd' N' (by omega) q2 q3 q4)
  · obtain ⟨s, e0, k1, k2⟩ := up_step hl hr _ r e
    cases e0
    exact ⟨(k2 ⟨hi, h0, hnd⟩).1, Nat.le_add_right _ _⟩
theorem pc_pathF (hq : ∀ i, (T i).c = 14 → txL (T i).q) (hl : LastK T m) : ∀ (g i nd : Nat) (N : List Nd), i < m → m ≤ g + i → (T i).c ≠ 0 → nd ≤ 100 → PC T A 1 1 i nd N (pathF T A m g (.inl (i, nd, N)))
  | 0, i, nd, N, hi, hg, _, _ => by omega
  | g + 1, i, nd, N, hi, hg, h0, hnd => by
    have hr : ∀ σ, Up T m 0 σ (pathF T A m g σ) := up_path hl g
    have hrec : ∀ i' nd' N', i < i' → i' < m → nd' ≤ 100 → (T i').c ≠ 0 → PC T A 1 1 i' nd' N' (pathF T A m g (.inl (i', nd', N'))) := fun i' nd' N' q1 q2 q3 q4 => pc_pathF hq hl g i' nd' N' q2 (by omega) q4 q3
    have hp := (pc_meetF hq hl hr hi h0 hnd hrec (N := N)).up (s' := 1) (by omega)
    refine pc_loop rfl (fun r hr1 h hc => ?_) (fun σ h => (((up_tk hl (by have := of_decide_eq_true h; omega) (by have := of_decide_eq_true h; omega) σ).trans (up_meet hl hr _)).em _).less (by omega)) (fun c hc h => ⟨fun _ => h.1 (by omega), fun _ => h.2.1 (by omega), fun _ => ⟨fun e => absurd hc (by rw [e]; decide), fun e => absurd hc (by rw [e]; decide)⟩⟩) m _ hp (fun r e => ?_)
    · obtain ⟨i1, nd1, N1⟩ := r
      have h6 : (T i1).c = 7 ∨ (T i1).c = 8 := of_decide_eq_true hc
      have hii : i < i1 := by obtain ⟨d, _, _, _, _, _, h6, _⟩ := h; exact h6
      refine pc_two h rfl (by show 6 ≤ (T i1).c; omega) (by show (T i1).c ≤ 8; omega) (by show stg (T i1).c = 1; unfold stg; rw [if_neg (by omega), if_pos h6]) (fun x e => ?_) (fun i2 nd2 N2 e => ?_)
      · have e' : tkP T A (T i1).c (.inl (i1, nd1, N1)) = .inr x := e
        have e2 : meetF T A m (pathF T A m g) (.inr x) = .inr x := by
          have e3 : primF T A (pathF T A m g) (.inr x) = .inr x := rfl
          unfold meetF stepF
          rw [e3]
          cases m with
          | zero => rfl
          | succ g => rfl
        show meetF T A m (pathF T A m g) (tkP T A (T i1).c (.inl (i1, nd1, N1))) = _
        rw [e', e2]
      · have e' : tkP T A (T i1).c (.inl (i1, nd1, N1)) = .inl (i2, nd2, N2) := e
        have ok := up_tk (A := A) hl (c := (T i1).c) (by omega) (by omega) (.inl (i1, nd1, N1)) _ e'
        obtain ⟨s, e0, k1, k2⟩ := ok
        cases e0
        obtain ⟨o1, o2, o3⟩ := k2 ⟨hr1, PC.okk h⟩
        have k1' : i1 + 1 ≤ i2 := k1
        show PC T A 2 2 i2 nd2 N2 (meetF T A m (pathF T A m g) (tkP T A (T i1).c (.inl (i1, nd1, N1))))
        rw [e']
        exact pc_meetF hq hl hr o1 o2 o3 (fun i' nd' N' q1 q2 q3 q4 => hrec i' nd' N' (by omega) q2 q3 q4)
    · obtain ⟨s, e0, k1, k2⟩ := up_meet hl hr _ r e
      cases e0
      exact ⟨(k2 ⟨hi, h0, hnd⟩).1, Nat.le_add_right _ _⟩
/-- The whole: what the reader has made. -/
def topF (T : Nat → Tok) (A : Nat → Nat) (m : Nat) : (Nat × Nat × List Nd) ⊕ (Int × Int) := tkP T A 15 (pathF T A m m (nrm T A 0 0 []))
/-- The machine ends where the reader ends. -/
theorem top_same (hq : ∀ i, (T i).c = 14 → txL (T i).q) (hl : LastK T m) (h15 : ∀ i, (T i).c = 15 → (T (i + 1)).c = 15) {s : Mc} (hs : Rch T A ⟨⟨0, 0, 0, 0, []⟩, [], [], true, false⟩ s) (ht : Term s) :
    (∀ x, topF T A m = .inr x → x.1 ≠ 0 ∧ s.p.er = x.1 ∧ s.p.at_ = x.2) ∧ (∀ r, topF T A m = .inl r → s.p.er = 0 ∧ s.o = r.2.2 ∧ Tr s.o ∧ (∀ x, x ∈ s.o → gdN x) ∧ s.o.length ≤ 100) := by
  have hm : 0 < m := hl.1
  have err : ∀ x : Int × Int, x.1 ≠ 0 → (∃ t, Rch T A ⟨⟨0, 0, 0, 0, []⟩, [], [], true, false⟩ t ∧ t.p.er = x.1 ∧ t.p.at_ = x.2) → x.1 ≠ 0 ∧ s.p.er = x.1 ∧ s.p.at_ = x.2 := by
    rintro x hx ⟨t, t1, t2, t3⟩
    have := Rch.same hs t1 ht (Or.inl (by rw [t2]; exact hx))
    rw [this]
    exact ⟨hx, t2, t3⟩
  unfold topF
  by_cases h0 : (T 0).c = 0
  · have e : nrm T A 0 0 [] = .inr (2, (A 0 : Int)) := by unfold nrm; rw [if_pos h0]
    have e2 : pathF T A m m (.inr (2, (A 0 : Int))) = .inr (2, (A 0 : Int)) := by
      cases m with
      | zero => rfl
      | succ g => rfl
    rw [e, e2]
    refine ⟨fun x e => ?_, fun r e => by cases e⟩
    cases e
    exact err _ (by show (2 : Int) ≠ 0; omega) (end_err (T := T) (A := A) (x := (2, (A 0 : Int))) ⟨⟨0, 0, 0, 0, []⟩, [], [], true, false⟩ ⟨by show (2 : Int) ≠ 0; omega, Or.inr ⟨rfl, h0, rfl, rfl⟩⟩ rfl)
  · have e : nrm T A 0 0 [] = .inl (0, 0, []) := by unfold nrm; rw [if_neg h0]
    rw [e]
    have pc := pc_pathF hq hl m 0 0 [] hm (by omega) h0 (by omega) (A := A)
    cases hσ : pathF T A m m (.inl (0, 0, [])) with
    | inr x =>
      rw [hσ] at pc
      refine ⟨fun y e => ?_, fun r e => by cases e⟩
      cases e
      obtain ⟨p1, p2⟩ := pc
      exact err x p1 (p2 ⟨0, 0, 0, 0, []⟩ [] [] rfl rfl rfl (by show 0 < 1; omega))
    | inl r =>
      rw [hσ] at pc
      obtain ⟨i3, nd3, N3⟩ := r
      obtain ⟨d, g1, g2, g3, g4, g5, g6, g7, g8, g9⟩ := pc
      obtain ⟨p', o1, pend, q1, q2, q3, q4, q5, q6⟩ := g9 ⟨0, 0, 0, 0, []⟩ [] [] rfl rfl rfl (by show 0 < 1; omega)
      have g1' : N3 = d := by have : N3 = [] ++ d := g1; simpa using this
      have q2' : p'.i = i3 := q2
      have hd := drn_all (least := 1) (st := []) (by show 0 < 1; omega) pend o1 q5
      rw [q4] at hd
      have g8' : stopC 1 (T i3).c := g8
      obtain ⟨s1, s2, s3⟩ := g8'
      have s1' := s1 (by omega)
      have s2' := s2 (by omega)
      have s3' := s3 (by omega)
      have body : bodyM T A ⟨p', o1, pend ++ [], false, false⟩ = if (T i3).c = 15 then ⟨p', d, [], false, true⟩ else ⟨failP T A p' 3, d, [], false, false⟩ := by
        unfold bodyM
        simp only [q2']
        rw [if_neg (by simp), if_neg s1', if_neg (by omega), hd]
        simp
      by_cases h5 : (T i3).c = 15
      · rw [if_pos h5] at body
        have tk : tkP T A 15 (.inl (i3, nd3, N3)) = .inl (i3 + 1, nd3, N3) := by
          show (if (T i3).c = 15 then (if 1 ≤ 15 ∧ 15 ≤ 9 then _ else nrm T A (i3 + 1) nd3 N3) else _) = _
          rw [if_pos h5, if_neg (by omega)]
          unfold nrm
          rw [if_neg (by rw [h15 _ h5]; omega)]
        rw [tk]
        refine ⟨fun x e => (by cases e), fun r e => ?_⟩
        cases e
        have := Rch.same hs (q6.trans (Rch.one q1 rfl body)) ht (Or.inr rfl)
        rw [this]
        exact ⟨q1, g1'.symm, g2, g3, by have e4 : nd3 = 0 + d.length := g4; have e5 : nd3 ≤ 100 := g5; show d.length ≤ 100; omega⟩
      · rw [if_neg h5] at body
        have tk : tkP T A 15 (.inl (i3, nd3, N3)) = .inr (3, (A i3 : Int)) := by
          show (if (T i3).c = 15 then _ else _) = _
          rw [if_neg h5]
        rw [tk]
        refine ⟨fun x e => ?_, fun r e => (by cases e)⟩
        cases e
        refine err _ (by show (3 : Int) ≠ 0; omega) ?_
        have rf := rp_fail (T := T) (A := A) (p := p') (N := []) (e := 3) ⟨q1, q2, q3, g7⟩ (by omega)
        obtain ⟨t, t1, t2⟩ := end_err (T := T) (A := A) ⟨failP T A p' 3, d, [], false, false⟩ rf rfl
        exact ⟨t, q6.trans ((Rch.one q1 rfl body).trans t1), t2⟩
end
end Go.Proofs.Ytocmbnocdjnfpaa

namespace Go.Proofs.Ytocmbnocdjnfpaa
open Go.RowKit Go.Deep
set_option linter.unusedVariables false
set_option maxRecDepth 100000

theorem tkA_c15 {f : Nat → Int} {n p : Nat} (h : (tkA f n p).c = 15) : n ≤ p := by
  by_cases hn : n ≤ p
  · exact hn
  exfalso
  unfold tkA at h
  rw [if_neg hn] at h
  split at h
  · split at h
    · have h' : (0 : Nat) = 15 := h; omega
    · have h' : (14 : Nat) = 15 := h; omega
  · split at h
    · split at h
      · have h' : (0 : Nat) = 15 := h; omega
      · have h' : cdW (seg f p (endF isLt f n p)) = 15 := h
        unfold cdW at h'
        repeat (first | omega | split at h')
    · split at h
      · have h' : (0 : Nat) = 15 := h; omega
      · have h' : cdS (f p) = 15 := h
        unfold cdS at h'
        repeat (first | omega | split at h')
theorem tk15 (f : Nat → Int) (n i : Nat) (h : (tkF f n i).c = 15) : (tkF f n (i + 1)).c = 15 := by
  have h1 : n ≤ tkPos f n i := tkA_c15 h
  have h2 := (tkA_le (f := f) (tkPos_le f n i)).1
  have h3 := endF_ge isSp f n (tkA f n (tkPos f n i)).e
  have h4 : n ≤ tkPos f n (i + 1) := by show n ≤ endF isSp f n (tkA f n (tkPos f n i)).e; omega
  show (tkA f n (tkPos f n (i + 1))).c = 15
  unfold tkA
  rw [if_pos h4]
theorem tk14 {f : Nat → Int} {n : Nat} (hf : ∀ i, i < n → 0 ≤ f i ∧ f i < 256) (i : Nat) (h : (tkF f n i).c = 14) : txL (tkF f n i).q := by
  show txL (tkA f n (tkPos f n i)).q
  have h' : (tkA f n (tkPos f n i)).c = 14 := h
  generalize tkPos f n i = p at *
  unfold tkA at h' ⊢
  split at h'
  · have h'' : (15 : Nat) = 14 := h'; omega
  · rename_i hp
    rw [if_neg hp]
    split at h'
    · rename_i h34
      rw [if_pos h34]
      split at h'
      · have h'' : (0 : Nat) = 14 := h'; omega
      · rename_i qk e
        have h1 := quoF_le _ _ _ qk.1 qk.2 (Nat.le_refl _) (by omega) e
        have h2 := quoF_byt hf _ _ _ qk.1 qk.2 (Nat.le_refl _) (by omega) (fun x hx => absurd hx List.not_mem_nil) e
        exact ⟨h1.2.2.1, h1.2.2.2, h2⟩
    · exfalso
      split at h'
      · split at h'
        · have h'' : (0 : Nat) = 14 := h'; omega
        · have h'' : cdW (seg f p (endF isLt f n p)) = 14 := h'
          unfold cdW at h''
          repeat (first | omega | split at h'')
      · split at h'
        · have h'' : (0 : Nat) = 14 := h'; omega
        · have h'' : cdS (f p) = 14 := h'
          unfold cdS at h''
          repeat (first | omega | split at h'')
theorem tkc15 (f : Nat → Int) (n i : Nat) : (tkF f n i).c ≤ 15 := tkA_c f n _

/-- A list of nodes, told by its places. -/
def nI (l : List Nd) (i : Nat) : Int := ((l.getD i ⟨0, [], []⟩).k : Int)
def nX (l : List Nd) (i : Nat) : ByteArray := strT (l.getD i ⟨0, [], []⟩).s
def nR (l : List Nd) (i : Nat) : ByteArray := strT (l.getD i ⟨0, [], []⟩).t
theorem ndR_get : ∀ (l : List Nd) (i j : Nat), i < l.length → j < 3 → (ndR l)[i * 3 + j]? = (ndC (l.getD i ⟨0, [], []⟩))[j]?
  | [], i, j, h, _ => absurd h (Nat.not_lt_zero _)
  | x :: l, 0, j, h, hj => by
    show (ndC x ++ ndR l)[0 * 3 + j]? = _
    rw [List.getElem?_append_left (by rw [ndC_length]; omega), Nat.zero_mul, Nat.zero_add]
    rfl
  | x :: l, i + 1, j, h, hj => by
    show (ndC x ++ ndR l)[(i + 1) * 3 + j]? = _
    rw [List.getElem?_append_right (by rw [ndC_length]; omega), ndC_length, show (i + 1) * 3 + j - 3 = i * 3 + j by omega]
    rw [ndR_get l i j (by simpa using h) hj]
    rfl
theorem NdA.rd {w : World} {B : Nat} {v : Value} {l : List Nd} (h : NdA w B v l) : ∃ a c, v = .slice a l.length c ∧ l.length ≤ c ∧ c ≤ 9223372036854775807 ∧ RdN w a l.length (nI l) (nX l) (nR l) := by
  obtain ⟨h0, ⟨e, h1⟩ | ⟨g, cap, cur, e, hg, hh, h1, h2, h3, h4⟩⟩ := h
  · exact ⟨none, 0, by rw [h1]; exact e, by omega, by omega, .inl h1⟩
  · refine ⟨_, cap, e, h1, h2, .inr ⟨g, 0, rfl, fun i hi => ?_⟩⟩
    have cell : ∀ j, j < 3 → w.cell? ⟨g, i * 3 + j, none⟩ = (ndC (l.getD i ⟨0, [], []⟩))[j]? := by
      intro j hj
      rw [← ndR_get l i j hi hj, ← h4]
      unfold World.cell?
      rw [hh, List.getElem?_take, if_pos (by omega)]
      simp
    rw [Nat.zero_add]
    exact ⟨cell 0 (by omega), cell 1 (by omega), cell 2 (by omega)⟩
theorem runD_dep {l : List Nd} {s r : Nat} (A : Nat → Nat) (hA : ∀ i, i < l.length → A i = arN (l.getD i ⟨0, [], []⟩).k) (h : runD l s = some r) : ∀ k, k ≤ l.length → ∃ rk, runD (l.take k) s = some rk ∧ (rk : Int) = s + dep A k ∧ ∀ i, i < k → (A i : Int) ≤ s + dep A i
  | 0, _ => ⟨s, rfl, by show (s : Int) = s + 0; omega, fun i hi => absurd hi (Nat.not_lt_zero _)⟩
  | k + 1, hk => by
    obtain ⟨rk, e1, e2, e3⟩ := runD_dep A hA h k (by omega)
    have hx : l[k]? = some (l.getD k ⟨0, [], []⟩) := by
      rw [List.getD_eq_getElem?_getD, List.getElem?_eq_getElem (by omega)]; rfl
    have ht : l.take (k + 1) = l.take k ++ [l.getD k ⟨0, [], []⟩] := by rw [List.take_add_one, hx]; rfl
    have hr : runD (l.take (k + 1)) s = if A k ≤ rk then some (rk - A k + 1) else none := by
      rw [ht, runD_app, e1, hA k (by omega)]
      rfl
    by_cases hle : A k ≤ rk
    · rw [if_pos hle] at hr
      refine ⟨_, hr, by rw [dep_succ]; omega, fun i hi => ?_⟩
      by_cases e : i = k
      · subst e; omega
      · exact e3 i (by omega)
    · rw [if_neg hle] at hr
      have hw := runD_app (l.take (k + 1)) (l.drop (k + 1)) s
      rw [List.take_append_drop, hr, h] at hw
      cases hw
theorem arN_of {k : Nat} (h1 : 1 ≤ k) (h2 : k ≤ 9) : arOf (k : Int) = arN k := by
  have : k = 1 ∨ k = 2 ∨ k = 3 ∨ k = 4 ∨ k = 5 ∨ k = 6 ∨ k = 7 ∨ k = 8 ∨ k = 9 := by omega
  rcases this with rfl | rfl | rfl | rfl | rfl | rfl | rfl | rfl | rfl <;> rfl
theorem tr_begins {l : List Nd} (h : Tr l) (hg : ∀ x, x ∈ l → gdN x) : 0 < l.length ∧ Begins (fun i => arOf (nI l i)) l.length 0 := by
  have h0 : 0 < l.length := by
    cases l with
    | nil => have := h 0; cases this
    | cons x l => exact Nat.zero_lt_succ _
  have hA : ∀ i, i < l.length → arOf (nI l i) = arN (l.getD i ⟨0, [], []⟩).k := fun i hi => by
    have hm : l.getD i ⟨0, [], []⟩ ∈ l := by
      rw [List.getD_eq_getElem?_getD, List.getElem?_eq_getElem hi]
      exact List.getElem_mem hi
    have := (hg _ hm).1
    exact arN_of this.1 this.2
  obtain ⟨rk, e1, e2, e3⟩ := runD_dep (fun i => arOf (nI l i)) hA (h 0) l.length (Nat.le_refl _)
  rw [List.take_length, h 0] at e1
  cases e1
  refine ⟨h0, (whole_iff _ _ h0).2 ⟨fun i hi => ?_, ?_⟩⟩
  · have := e3 i hi
    simpa using this
  · have e2' : ((0 + 1 : Nat) : Int) = ((0 : Nat) : Int) + dep (fun i => arOf (nI l i)) l.length := e2
    omega
theorem emS_nil : emS (strT []) = true := by unfold emS; rw [ByteArray.toList_eq]; rfl
theorem gd_gn {x : Nd} (h : gdN x) : gnB (x.k : Int) (strT x.s) (strT x.t) = true := by
  obtain ⟨⟨h1, h2⟩, h3, h4, h5⟩ := h
  have tx : ∀ q, txL q → txS (strT q) = true := fun q hq => by rw [txS_T]; exact decide_eq_true ⟨hq.1, hq.2.1⟩
  unfold gnB
  by_cases c1 : x.k = 1 ∨ x.k = 6 ∨ x.k = 7 ∨ x.k = 8
  · rw [if_pos (by omega), (h3 c1).1, (h3 c1).2, emS_nil]; rfl
  · rw [if_neg (by omega)]
    by_cases c2 : x.k = 2 ∨ x.k = 3 ∨ x.k = 4 ∨ x.k = 9
    · rw [if_pos (by omega), tx _ (h4 c2).1, (h4 c2).2, emS_nil]; rfl
    · rw [if_neg (by omega), if_pos (by omega), tx _ (h5 (by omega)).1, tx _ (h5 (by omega)).2]; rfl
/-- A path that was parsed is valid just if it is not too high. -/
theorem tr_valid {l : List Nd} (h : Tr l) (hg : ∀ x, x ∈ l → gdN x) (hl : l.length ≤ 100) : VPth l.length (nI l) (nX l) (nR l) ↔ htF 100 (fun i => arOf (nI l i)) l.length ≤ 64 := by
  obtain ⟨h0, hb⟩ := tr_begins h hg
  refine ⟨fun e => e.2.2.2, fun e => ⟨⟨h0, hl⟩, fun i hi => ?_, hb, e⟩⟩
  refine gd_gn (hg _ ?_)
  rw [List.getD_eq_getElem?_getD, List.getElem?_eq_getElem hi]
  exact List.getElem_mem hi

/-- What ParsePath answers. -/
def PAns (f : Nat → Int) (n m : Nat) (er at_ : Int) (l : List Nd) : Prop :=
  (2000 < n ∧ er = 1 ∧ at_ = 0 ∧ l = []) ∨
  (n ≤ 2000 ∧ ∃ x, topF (tkF f n) (tkPos f n) m = .inr x ∧ x.1 ≠ 0 ∧ er = x.1 ∧ at_ = x.2 ∧ l = []) ∨
  (n ≤ 2000 ∧ ∃ r, topF (tkF f n) (tkPos f n) m = .inl r ∧ ¬ VPth r.2.2.length (nI r.2.2) (nX r.2.2) (nR r.2.2) ∧ er = 5 ∧ at_ = n ∧ l = []) ∨
  (n ≤ 2000 ∧ ∃ r, topF (tkF f n) (tkPos f n) m = .inl r ∧ VPth r.2.2.length (nI r.2.2) (nX r.2.2) (nR r.2.2) ∧ er = 0 ∧ at_ = 0 ∧ l = r.2.2)
theorem PAns.same {f : Nat → Int} {n m : Nat} {er at_ er' at' : Int} {l l' : List Nd} (h : PAns f n m er at_ l) (h' : PAns f n m er' at' l') : er = er' ∧ at_ = at' ∧ l = l' := by
  rcases h with ⟨h0, rfl, rfl, rfl⟩ | ⟨h0, x, e, hx, rfl, rfl, rfl⟩ | ⟨h0, r, e, hv, rfl, rfl, rfl⟩ | ⟨h0, r, e, hv, rfl, rfl, rfl⟩
  · rcases h' with ⟨k0, rfl, rfl, rfl⟩ | ⟨k0, _⟩ | ⟨k0, _⟩ | ⟨k0, _⟩
    · exact ⟨rfl, rfl, rfl⟩
    all_goals omega
  · rcases h' with ⟨k0, _⟩ | ⟨k0, x', e', hx', rfl, rfl, rfl⟩ | ⟨k0, r', e', _⟩ | ⟨k0, r', e', _⟩
    · omega
    · rw [e] at e'; cases e'; exact ⟨rfl, rfl, rfl⟩
    · rw [e] at e'; cases e'
    · rw [e] at e'; cases e'
  · rcases h' with ⟨k0, _⟩ | ⟨k0, x', e', _⟩ | ⟨k0, r', e', hv', rfl, rfl, rfl⟩ | ⟨k0, r', e', hv', _⟩
    · omega
    · rw [e] at e'; cases e'
    · exact ⟨rfl, rfl, rfl⟩
    · rw [e] at e'; cases e'; exact absurd hv' hv
  · rcases h' with ⟨k0, _⟩ | ⟨k0, x', e', _⟩ | ⟨k0, r', e', hv', _⟩ | ⟨k0, r', e', hv', rfl, rfl, rfl⟩
    · omega
    · rw [e] at e'; cases e'
    · rw [e] at e'; cases e'; exact absurd hv hv'
    · rw [e] at e'; cases e'; exact ⟨rfl, rfl, rfl⟩
end Go.Proofs.Ytocmbnocdjnfpaa

namespace Go.Proofs.Ytocmbnocdjnfpaa
open Go.RowKit Go.Deep
set_option linter.unusedVariables false
set_option maxRecDepth 100000

/-- The bytes x stand at p. -/
def AtB (f : Nat → Int) (n p : Nat) (x : List Int) : Prop := p + x.length ≤ n ∧ ∀ j (h : j < x.length), f (p + j) = x[j]
theorem AtB.app {f : Nat → Int} {n p : Nat} {x y : List Int} (h : AtB f n p (x ++ y)) : AtB f n p x ∧ AtB f n (p + x.length) y := by
  obtain ⟨h1, h2⟩ := h
  rw [List.length_append] at h1
  refine ⟨⟨by omega, fun j hj => ?_⟩, by omega, fun j hj => ?_⟩
  · rw [h2 j (by rw [List.length_append]; omega), List.getElem_append_left hj]
  · rw [Nat.add_assoc, h2 (x.length + j) (by rw [List.length_append]; omega), List.getElem_append_right (by omega)]
    simp
theorem AtB.head {f : Nat → Int} {n p : Nat} {b : Int} {y : List Int} (h : AtB f n p (b :: y)) : p < n ∧ f p = b ∧ AtB f n (p + 1) y := by
  have h' : AtB f n p ([b] ++ y) := h
  obtain ⟨h1, h2⟩ := h'.app
  refine ⟨?_, ?_, h2⟩
  · have := h1.1; simp at this; omega
  · have := h1.2 0 (by simp); simpa using this

section
variable {f : Nat → Int} {n k p : Nat}
theorem lx_sp (hp : p < n) (h : f p = 32) : endF isSp f n p = endF isSp f n (p + 1) := endSp_go hp h
theorem lx_sym (hk : tkPos f n k = endF isSp f n p) (hp : p < n) {b : Int} (h : f p = b) {c : Nat} (hc : cdS b = c) (hc0 : c ≠ 0) : (tkF f n k).c = c ∧ tkPos f n (k + 1) = endF isSp f n (p + 1) := by
  have hb := cdS_ne (x := b) (by rw [hc]; exact hc0)
  have e : tkPos f n k = p := by rw [hk]; exact endSp_at (by rw [h]; omega)
  have t : tkF f n k = ⟨c, [], p + 1⟩ := by
    show tkA f n (tkPos f n k) = _
    rw [e, tkA_sym hp (by rw [h]; omega) (by rw [h]; omega) (by rw [h, hc]; exact hc0), h, hc]
  refine ⟨by rw [t], ?_⟩
  show endF isSp f n (tkF f n k).e = _
  rw [t]
theorem lx_quo_go {q : List Int} : ∀ (s : List Int) (q0 : List Int) (p : Nat), (∀ x, x ∈ s → 0 ≤ x ∧ x < 256) → AtB f n p (s.flatMap qB ++ [34]) → quoF f n p q0 = quoF f n (p + (s.flatMap qB).length) (q0 ++ s)
  | [], q0, p, _, _ => by simp
  | x :: s, q0, p, hs, h => by
    have hx := hs x (List.mem_cons_self ..)
    rw [List.flatMap_cons, List.append_assoc] at h
    obtain ⟨h1, h2⟩ := h.app
    have ih := fun q => lx_quo_go (q := q0) s q _ (fun y hy => hs y (List.mem_cons_of_mem _ hy)) h2
    have fin : ∀ l, pcB f n p = some (x, l) → (qB x).length = l → f p ≠ 34 → p < n → quoF f n p q0 = quoF f n (p + ((x :: s).flatMap qB).length) (q0 ++ x :: s) := by
      intro l hp hl h34 hpn
      rw [quoF_go hpn h34 hp, ← hl, ih, List.flatMap_cons, List.length_append]
      rw [show p + (qB x).length + (s.flatMap qB).length = p + ((qB x).length + (s.flatMap qB).length) by omega]
      simp
    by_cases c1 : x = 34 ∨ x = 92
    · have e : qB x = [92, x] := by unfold qB; rw [if_pos c1]
      rw [e] at h1
      obtain ⟨a1, a2, a3⟩ := h1.head
      obtain ⟨b1, b2, _⟩ := a3.head
      refine fin 2 ?_ (by rw [e]; rfl) (by omega) a1
      unfold pcB
      rw [if_pos a2, b2, if_pos ⟨b1, by omega⟩]
    · by_cases c2 : 32 ≤ x ∧ x ≤ 126
      · have e : qB x = [x] := by unfold qB; rw [if_neg c1, if_pos c2]
        rw [e] at h1
        obtain ⟨a1, a2, _⟩ := h1.head
        refine fin 1 ?_ (by rw [e]; rfl) (by omega) a1
        unfold pcB
        rw [a2, if_neg (by omega), if_pos c2]
      · have e : qB x = [92, 120, hexC (x.toNat / 16), hexC (x.toNat % 16)] := by unfold qB; rw [if_neg c1, if_neg c2]
        rw [e] at h1
        obtain ⟨a1, a2, a3⟩ := h1.head
        obtain ⟨b1, b2, b3⟩ := a3.head
        obtain ⟨d1, d2, d3⟩ := b3.head
        obtain ⟨e1, e2, _⟩ := d3.head
        have hh : ∀ m, m < 16 → hxV (hexC m) = (m : Int) := by decide
        refine fin 4 ?_ (by rw [e]; rfl) (by omega) a1
        unfold pcB
        rw [if_pos a2, b2, show p + 2 = p + 1 + 1 by omega, d2, show p + 3 = p + 1 + 1 + 1 by omega, e2, if_neg (by omega), hh _ (by omega), hh _ (by omega), if_pos ⟨by omega, rfl, by omega, by omega⟩]
        congr 2
        omega
theorem lx_quo (hk : tkPos f n k = endF isSp f n p) {s : List Int} (hs : txL s) (h : AtB f n p (qL s)) : (tkF f n k).c = 14 ∧ (tkF f n k).q = s ∧ tkPos f n (k + 1) = endF isSp f n (p + (qL s).length) := by
  have h' : AtB f n p (34 :: (s.flatMap qB ++ [34])) := h
  obtain ⟨h1, h2, h3⟩ := h'.head
  have e : tkPos f n k = p := by rw [hk]; exact endSp_at (by omega)
  have hg := lx_quo_go (q := []) s [] (p + 1) hs.2.2 h3
  obtain ⟨_, h4⟩ := h3.app
  obtain ⟨g1, g2, _⟩ := h4.head
  rw [quoF_end (by omega) (fun e => e.2 g2), List.nil_append, if_pos ⟨g1, hs.1, hs.2.1⟩] at hg
  have t : tkF f n k = ⟨14, s, p + 1 + (s.flatMap qB).length + 1⟩ := by
    show tkA f n (tkPos f n k) = _
    rw [e]
    exact tkA_quo h1 h2 hg
  refine ⟨by rw [t], by rw [t], ?_⟩
  show endF isSp f n (tkF f n k).e = _
  rw [t]
  show endF isSp f n (p + 1 + (s.flatMap qB).length + 1) = _
  congr 1
  unfold qL
  simp
  omega
theorem endF_word {q : List Int} : ∀ (q : List Int) (p : Nat), (∀ x, x ∈ q → 97 ≤ x ∧ x ≤ 122) → AtB f n p q → (p + q.length < n → ¬ (97 ≤ f (p + q.length) ∧ f (p + q.length) ≤ 122)) → endF isLt f n p = p + q.length
  | [], p, _, _, hn => by
    show endF isLt f n p = p + 0
    exact endF_stop (fun e => hn (by simpa using e.1) ((isLt_iff _).1 e.2))
  | x :: q, p, hq, h, hn => by
    obtain ⟨h1, h2, h3⟩ := h.head
    rw [endF_go h1 ((isLt_iff _).2 (by rw [h2]; exact hq x (List.mem_cons_self ..))), endF_word (q := q) q (p + 1) (fun y hy => hq y (List.mem_cons_of_mem _ hy)) h3 (by rw [show p + 1 + q.length = p + (x :: q).length by simp; omega]; exact hn)]
    simp
    omega
theorem seg_at {q : List Int} (h : AtB f n p q) : seg f p (p + q.length) = q := by
  apply List.ext_getElem
  · rw [seg_length]; omega
  · intro i h1 h2
    unfold seg
    simp
    exact h.2 i h2
theorem lx_word (hk : tkPos f n k = endF isSp f n p) {q : List Int} (h : AtB f n p q) (h0 : q ≠ []) (hq : ∀ x, x ∈ q → 97 ≤ x ∧ x ≤ 122) (hn : p + q.length < n → ¬ (97 ≤ f (p + q.length) ∧ f (p + q.length) ≤ 122)) {c : Nat} (hc : cdW q = c) (hc0 : c ≠ 0) : (tkF f n k).c = c ∧ tkPos f n (k + 1) = endF isSp f n (p + q.length) := by
  have he := endF_word (q := q) q p hq h hn
  obtain ⟨x, t, rfl⟩ : ∃ x t, q = x :: t := by
    cases q with
    | nil => exact absurd rfl h0
    | cons x t => exact ⟨x, t, rfl⟩
  obtain ⟨h1, h2, _⟩ := h.head
  have hx := hq x (List.mem_cons_self ..)
  have e : tkPos f n k = p := by rw [hk]; exact endSp_at (by omega)
  have tt : tkF f n k = ⟨c, [], p + (x :: t).length⟩ := by
    show tkA f n (tkPos f n k) = _
    rw [e, tkA_word h1 (by omega) (by rw [he, seg_at h, hc]; exact hc0), he, seg_at h, hc]
  refine ⟨by rw [tt], ?_⟩
  show endF isSp f n (tkF f n k).e = _
  rw [tt]
end
end Go.Proofs.Ytocmbnocdjnfpaa

namespace Go.Proofs.Ytocmbnocdjnfpaa
open Go.RowKit Go.Deep
set_option linter.unusedVariables false
set_option maxRecDepth 100000

theorem emS_size {x : ByteArray} (h : emS x = true) : x.size ≤ 30 := by
  have := emS_yes h
  have e : x.toList = x.data.toList := by rw [ByteArray.toList_eq]
  rw [e] at this
  have : x.data.size = 0 := by rw [← Array.length_toList, this]; rfl
  show x.data.size ≤ 30
  omega
theorem txS_size {x : ByteArray} (h : txS x = true) : x.size ≤ 30 := by
  unfold txS at h
  simp at h
  exact h.2
theorem gn_good {k : Int} {s t : ByteArray} (h : gnB k s t = true) : (1 ≤ k ∧ k ≤ 9) ∧ s.size ≤ 30 ∧ t.size ≤ 30 := by
  unfold gnB at h
  split at h
  · simp only [Bool.and_eq_true] at h
    exact ⟨by omega, emS_size h.1, emS_size h.2⟩
  · split at h
    · simp only [Bool.and_eq_true] at h
      exact ⟨by omega, txS_size h.1, emS_size h.2⟩
    · split at h
      · simp only [Bool.and_eq_true] at h
        exact ⟨by omega, txS_size h.1, txS_size h.2⟩
      · cases h
theorem VPth.gd {n : Nat} {I : Nat → Int} {X R : Nat → ByteArray} (h : VPth n I X R) : GdN n I X R := fun i hi => by
  obtain ⟨h1, h2, h3⟩ := gn_good (h.2.1 i hi)
  exact ⟨h1, by omega, by omega⟩
theorem VPth.gd30 {n : Nat} {I : Nat → Int} {X R : Nat → ByteArray} (h : VPth n I X R) (i : Nat) (hi : i < n) : (1 ≤ I i ∧ I i ≤ 9) ∧ (X i).size ≤ 30 ∧ (R i).size ≤ 30 := gn_good (h.2.1 i hi)
/-- The text of a path: pt. -/
def IsTx (n : Nat) (I : Nat → Int) (X R : Nat → ByteArray) (pt : List Int) : Prop := (VPth n I X R ∧ pt = T I X R (n - 1)) ∨ (¬ VPth n I X R ∧ pt = [])
theorem isTx_ex (n : Nat) (I : Nat → Int) (X R : Nat → ByteArray) : ∃ pt, IsTx n I X R pt := by
  by_cases h : VPth n I X R
  · exact ⟨_, .inl ⟨h, rfl⟩⟩
  · exact ⟨_, .inr ⟨h, rfl⟩⟩
theorem IsTx.len {n : Nat} {I : Nat → Int} {X R : Nat → ByteArray} {pt : List Int} (ht : IsTx n I X R pt) : pt.length ≤ 30000 := by
  rcases ht with ⟨h, rfl⟩ | ⟨_, rfl⟩
  · have h1 := h.1
    have := T_len h.gd n 0 (n - 1) (by omega) (by omega) (by simpa only [Nat.zero_add, show n - 1 + 1 = n by omega] using h.2.2.1)
    rw [Nat.zero_add] at this
    omega
  · simp

end Go.Proofs.Ytocmbnocdjnfpaa

namespace Go.Proofs.Ytocmbnocdjnfpaa
open Go.RowKit Go.Deep
set_option linter.unusedVariables false
set_option maxRecDepth 100000

section
variable {T : Nat → Tok} {A : Nat → Nat} {m : Nat}
theorem tk_ok {c i nd : Nat} {N : List Nd} (hc : (T i).c = c) (h1 : (T (i + 1)).c ≠ 0) (hn : 1 ≤ c ∧ c ≤ 9 → nd ≠ 100) : tkP T A c (.inl (i, nd, N)) = .inl (i + 1, nd + (if 1 ≤ c ∧ c ≤ 9 then 1 else 0), N) := by
  show (if (T i).c = c then (if 1 ≤ c ∧ c ≤ 9 then (if nd = 100 then .inr (4, (A i : Int)) else nrm T A (i + 1) (nd + 1) N) else nrm T A (i + 1) nd N) else .inr (3, (A i : Int))) = _
  rw [if_pos hc]
  by_cases h : 1 ≤ c ∧ c ≤ 9
  · rw [if_pos h, if_neg (hn h), if_pos h]
    unfold nrm
    rw [if_neg h1]
  · rw [if_neg h, if_neg h]
    unfold nrm
    rw [if_neg h1]
    rfl
theorem tk_sy {c i nd : Nat} {N : List Nd} (hc : (T i).c = c) (h9 : 9 < c) (h1 : (T (i + 1)).c ≠ 0) : tkP T A c (.inl (i, nd, N)) = .inl (i + 1, nd, N) := by
  rw [tk_ok hc h1 (fun e => by omega), if_neg (by omega)]
  rfl
theorem tk_mk {c i nd : Nat} {N : List Nd} (hc : (T i).c = c) (h0 : 1 ≤ c) (h9 : c ≤ 9) (h1 : (T (i + 1)).c ≠ 0) (hn : nd < 100) : tkP T A c (.inl (i, nd, N)) = .inl (i + 1, nd + 1, N) := by
  rw [tk_ok hc h1 (fun e => by omega), if_pos ⟨h0, h9⟩]
theorem call_ok {c i nd : Nat} {N : List Nd} (hc : (T i).c = c) (hc0 : 1 ≤ c) (hc9 : c ≤ 9) (h1 : (T (i + 1)).c = 11) (h2 : (T (i + 2)).c = 14) (h3 : (T (i + 3)).c = 12) (h4 : (T (i + 4)).c ≠ 0) (hnd : nd < 100) : callF T A c (.inl (i, nd, N)) = .inl (i + 4, nd + 1, N ++ [⟨c, (T (i + 2)).q, []⟩]) := by
  unfold callF
  rw [tk_mk hc hc0 hc9 (by omega) hnd, tk_sy h1 (by omega) (by rw [show i + 1 + 1 = i + 2 by omega]; omega), tk_q]
  rw [show i + 1 + 1 = i + 2 by omega, if_pos h2, tk_sy h2 (by omega) (by rw [show i + 2 + 1 = i + 3 by omega]; omega)]
  rw [show i + 2 + 1 = i + 3 by omega, tk_sy h3 (by omega) h4]
  rfl
theorem pc_op {s c i nd i1 nd1 i2 nd2 : Nat} {N N1 N2 : List Nd} (h : PC T A s (s + 1) i nd N (.inl (i1, nd1, N1))) (hc : (T i1).c = c) (hc1 : 6 ≤ c) (hc2 : c ≤ 8) (hsc : stg c = s) (hnd : nd1 < 100) (h1 : (T (i1 + 1)).c ≠ 0) (hk : PC T A (s + 1) (s + 1) (i1 + 1) (nd1 + 1) N1 (.inl (i2, nd2, N2))) : PC T A s (s + 1) i nd N (.inl (i2, nd2, N2 ++ [⟨c, [], []⟩])) := by
  have e := tk_mk (A := A) (N := N1) hc (by omega) (by omega) h1 hnd
  exact pc_two (σ3 := .inl (i2, nd2, N2)) h hc hc1 hc2 hsc (fun x q => by rw [e] at q; cases q) (fun i3 nd3 N3 q => by rw [e] at q; cases q; exact hk)
theorem pc_st2 (hq : ∀ i, (T i).c = 14 → txL (T i).q) {i nd i1 nd1 : Nat} {N N1 : List Nd} (h : PC T A 3 4 i nd N (.inl (i1, nd1, N1))) (h0 : (T i1).c = 10) (hc : (T (i1 + 1)).c = 5) (h1 : (T (i1 + 2)).c = 11) (h2 : (T (i1 + 3)).c = 14) (h3 : (T (i1 + 4)).c = 13) (h4 : (T (i1 + 5)).c = 14) (h5 : (T (i1 + 6)).c = 12) (h6 : (T (i1 + 7)).c ≠ 0) (hnd : nd1 < 100) : PC T A 3 4 i nd N (.inl (i1 + 7, nd1 + 1, N1 ++ [⟨5, (T (i1 + 3)).q, (T (i1 + 5)).q⟩])) := by
  have k := pc_move hq h h0
  rw [tk_sy h0 (by omega) (by omega)] at k
  have kk : kdS T (.inl (i1 + 1, nd1, N1)) = 5 := hc
  unfold moveF at k
  rw [kk, if_neg (by omega), if_pos rfl] at k
  unfold hasF at k
  rw [tk_mk hc (by omega) (by omega) (by rw [show i1 + 1 + 1 = i1 + 2 by omega]; omega) hnd] at k
  rw [show i1 + 1 + 1 = i1 + 2 by omega, tk_sy h1 (by omega) (by rw [show i1 + 2 + 1 = i1 + 3 by omega]; omega)] at k
  rw [show i1 + 2 + 1 = i1 + 3 by omega, tk_q, if_pos h2, tk_sy h2 (by omega) (by rw [show i1 + 3 + 1 = i1 + 4 by omega]; omega)] at k
  rw [show i1 + 3 + 1 = i1 + 4 by omega, tk_sy h3 (by omega) (by rw [show i1 + 4 + 1 = i1 + 5 by omega]; omega)] at k
  rw [show i1 + 4 + 1 = i1 + 5 by omega, tk_q, if_pos h4, tk_sy h4 (by omega) (by rw [show i1 + 5 + 1 = i1 + 6 by omega]; omega)] at k
  rw [show i1 + 5 + 1 = i1 + 6 by omega, tk_sy h5 (by omega) h6] at k
  exact k
theorem pc_st1 (hq : ∀ i, (T i).c = 14 → txL (T i).q) {c i nd i1 nd1 : Nat} {N N1 : List Nd} (h : PC T A 3 4 i nd N (.inl (i1, nd1, N1))) (h0 : (T i1).c = 10) (hc : (T (i1 + 1)).c = c) (hc34 : c = 3 ∨ c = 4) (h1 : (T (i1 + 2)).c = 11) (h2 : (T (i1 + 3)).c = 14) (h3 : (T (i1 + 4)).c = 12) (h4 : (T (i1 + 5)).c ≠ 0) (hnd : nd1 < 100) : PC T A 3 4 i nd N (.inl (i1 + 5, nd1 + 1, N1 ++ [⟨c, (T (i1 + 3)).q, []⟩])) := by
  have k := pc_move hq h h0
  rw [tk_sy h0 (by omega) (by omega)] at k
  have kk : kdS T (.inl (i1 + 1, nd1, N1)) = c := hc
  have e : callF T A c (.inl (i1 + 1, nd1, N1)) = .inl (i1 + 5, nd1 + 1, N1 ++ [⟨c, (T (i1 + 3)).q, []⟩]) := call_ok hc (by omega) (by omega) h1 h2 h3 h4 hnd
  unfold moveF at k
  rw [kk] at k
  rcases hc34 with rfl | rfl
  · rw [if_neg (by omega), if_neg (by omega), e] at k
    exact k
  · rw [if_pos rfl, e] at k
    exact k
theorem pc_paren (hq : ∀ i, (T i).c = 14 → txL (T i).q) (hl : LastK T m) {i nd : Nat} {N : List Nd} {σ : (Nat × Nat × List Nd) ⊕ (Int × Int)} (hi : i < m) (hc : (T i).c = 11) (h1 : (T (i + 1)).c ≠ 0) (hnd : nd ≤ 100) (hk : PC T A 1 1 (i + 1) nd N σ) : PC T A 3 4 i nd N (tkP T A 12 σ) := by
  have h := pc_prim hq hl (A := A) (rec := fun _ => σ) (N := N) hi (by omega) hnd (fun i' nd' N' _ _ _ _ e => by
    rcases e with e | e
    · rw [tk_sy hc (by omega) h1] at e
      cases e
      exact hk
    · obtain ⟨i2, nd2, N2, e2, _⟩ := tk_inv e
      obtain ⟨i3, nd3, N3, e3, _⟩ := tk_inv e2
      obtain ⟨i4, nd4, N4, e4, g4, _⟩ := tk_inv e3
      cases e4
      omega)
  have kk : kdS T (.inl (i, nd, N)) = 11 := hc
  unfold primF at h
  rw [kk, if_neg (by omega), if_neg (by omega), if_neg (by omega)] at h
  unfold innerF at h
  rw [tk_sy hc (by omega) h1] at h
  exact h
theorem pc_graph (hq : ∀ i, (T i).c = 14 → txL (T i).q) (hl : LastK T m) {i nd : Nat} {N : List Nd} {σ : (Nat × Nat × List Nd) ⊕ (Int × Int)} (hi : i < m) (hc : (T i).c = 9) (hc1 : (T (i + 1)).c = 14) (hc2 : (T (i + 2)).c = 11) (h1 : (T (i + 3)).c ≠ 0) (hnd : nd < 100) (hk : PC T A 1 1 (i + 3) (nd + 1) N σ) : PC T A 3 4 i nd N (emP ⟨9, (T (i + 1)).q, []⟩ (tkP T A 12 σ)) := by
  have h := pc_prim hq hl (A := A) (rec := fun _ => σ) (N := N) (nd := nd) hi (by omega) (by omega) (fun i' nd' N' _ _ _ _ e => by
    rcases e with e | e
    · obtain ⟨i4, nd4, N4, e4, g4, _⟩ := tk_inv e
      cases e4
      omega
    · rw [tk_mk hc (by omega) (by omega) (by omega) hnd, tk_sy hc1 (by omega) (by rw [show i + 1 + 1 = i + 2 by omega]; omega), tk_sy (i := i + 1 + 1) hc2 (by omega) h1] at e
      cases e
      exact hk)
  have kk : kdS T (.inl (i, nd, N)) = 9 := hc
  unfold primF at h
  rw [kk, if_neg (by omega), if_neg (by omega), if_pos rfl] at h
  unfold innerF at h
  rw [tk_mk hc (by omega) (by omega) (by omega) hnd, tk_sy hc1 (by omega) (by rw [show i + 1 + 1 = i + 2 by omega]; omega), tk_sy (i := i + 1 + 1) hc2 (by omega) h1, tk_q, if_pos hc1] at h
  exact h
theorem pc_all (hq : ∀ i, (T i).c = 14 → txL (T i).q) (hl : LastK T m) {i nd : Nat} {N : List Nd} (hi : i < m) (hc : (T i).c = 1) (h1 : (T (i + 1)).c ≠ 0) (hnd : nd < 100) : PC T A 3 4 i nd N (.inl (i + 1, nd + 1, N ++ [⟨1, [], []⟩])) := by
  have h := pc_prim hq hl (A := A) (rec := pathF T A m m) hi (by omega) (by omega) (N := N) (nd := nd) (fun i' nd' N' q1 q2 q3 q4 _ => pc_pathF hq hl m i' nd' N' q2 (by omega) q4 q3)
  have kk : kdS T (.inl (i, nd, N)) = 1 := hc
  unfold primF at h
  rw [kk, if_pos rfl, tk_mk hc (by omega) (by omega) h1 hnd] at h
  exact h
theorem pc_v (hq : ∀ i, (T i).c = 14 → txL (T i).q) (hl : LastK T m) {i nd : Nat} {N : List Nd} (hi : i < m) (hc : (T i).c = 2) (h1 : (T (i + 1)).c = 11) (h2 : (T (i + 2)).c = 14) (h3 : (T (i + 3)).c = 12) (h4 : (T (i + 4)).c ≠ 0) (hnd : nd < 100) : PC T A 3 4 i nd N (.inl (i + 4, nd + 1, N ++ [⟨2, (T (i + 2)).q, []⟩])) := by
  have h := pc_prim hq hl (A := A) (rec := pathF T A m m) hi (by omega) (by omega) (N := N) (nd := nd) (fun i' nd' N' q1 q2 q3 q4 _ => pc_pathF hq hl m i' nd' N' q2 (by omega) q4 q3)
  have kk : kdS T (.inl (i, nd, N)) = 2 := hc
  unfold primF at h
  rw [kk, if_neg (by omega), if_pos rfl, call_ok hc (by omega) (by omega) h1 h2 h3 h4 hnd] at h
  exact h
end
end Go.Proofs.Ytocmbnocdjnfpaa

namespace Go.Proofs.Ytocmbnocdjnfpaa
open Go.RowKit Go.Deep
set_option linter.unusedVariables false
set_option maxRecDepth 100000

/-- What a text is to the machine: its tokens make these nodes, at this strength. -/
def OPr (f : Nat → Int) (n m l p k : Nat) (x : List Int) (d : List Nd) : Prop :=
  (tkF f n k).c ≠ 0 ∧ ∃ k', k < k' ∧ k' < m ∧ tkPos f n k' = endF isSp f n (p + x.length) ∧ ∀ nd N0, (tkF f n k').c ≠ 0 → nd + d.length ≤ 100 → stopC (l + 1) (tkF f n k').c → PC (tkF f n) (tkPos f n) l (l + 1) k nd N0 (.inl (k', nd + d.length, N0 ++ d))
def NLt (f : Nat → Int) (n q : Nat) : Prop := q < n → ¬ (97 ≤ f q ∧ f q ≤ 122)
def GNd (f : Nat → Int) (n m l : Nat) (x : List Int) (d : List Nd) : Prop :=
  ∀ p k, k < m → tkPos f n k = endF isSp f n p → AtB f n p x → NLt f n (p + x.length) → OPr f n m l p k x d
section
variable {f : Nat → Int} {n m : Nat}

theorem nlt_of {q : Nat} {b : Int} (h : f q = b) (hb : b < 97 ∨ 122 < b) : NLt f n q := fun _ e => by omega

/-- In parentheses. -/
theorem gn_wrap (hq : ∀ i, (tkF f n i).c = 14 → txL (tkF f n i).q) (hl : LastK (tkF f n) m) {l : Nat} {x : List Int} {d : List Nd} (hl1 : 1 ≤ l) (h : GNd f n m l x d) : GNd f n m 3 ([[40], x, [41]].flatten) d := by
  intro p k hk hp ha hn
  have e : [[40], x, [41]].flatten = 40 :: (x ++ [41]) := by simp
  rw [e] at ha hn ⊢
  obtain ⟨a1, a2, a3⟩ := ha.head
  obtain ⟨b1, b2⟩ := a3.app
  obtain ⟨c1, c2, _⟩ := b2.head
  obtain ⟨t1, t2⟩ := lx_sym hp a1 a2 (c := 11) rfl (by omega)
  have hk1 := last_lt hl hk t1 (by omega) (by omega)
  obtain ⟨h0, k1, g1, g2, g3, g4⟩ := h (p + 1) (k + 1) hk1 t2 b1 (nlt_of c2 (by omega))
  obtain ⟨s1, s2⟩ := lx_sym g3 c1 c2 (c := 12) rfl (by omega)
  have hk2 := last_lt hl g2 s1 (by omega) (by omega)
  refine ⟨by omega, k1 + 1, by omega, hk2, ?_, fun nd N0 z1 z2 z3 => ?_⟩
  · rw [s2]
    congr 1
    simp
    omega
  · have pc := g4 nd N0 (by omega) z2 ⟨fun _ => by omega, fun _ => by omega, fun _ => ⟨by omega, by omega⟩⟩
    have pc2 : PC (tkF f n) (tkPos f n) 1 1 (k + 1) nd N0 (.inl (k1, nd + d.length, N0 ++ d)) := (pc.up hl1).stop ⟨fun _ => by show (tkF f n k1).c ≠ 10; omega, fun _ => by show (tkF f n k1).c ≠ 6; omega, fun _ => ⟨by show (tkF f n k1).c ≠ 7; omega, by show (tkF f n k1).c ≠ 8; omega⟩⟩
    have r := pc_paren hq hl hk t1 h0 (by omega) pc2
    rw [tk_sy s1 (by omega) z1] at r
    exact r
/-- An operand, in parentheses or not. -/
theorem gn_opd (hq : ∀ i, (tkF f n i).c = 14 → txL (tkF f n i).q) (hl : LastK (tkF f n) m) {l : Nat} {x : List Int} {d : List Nd} (hl1 : 1 ≤ l) (K : Int) (r : Bool) (kk : Int) (h : GNd f n m l x d) : GNd f n m (if wrB K r (sB kk) = true then 3 else l) (wrT K r kk x) d := by
  unfold wrT
  split
  · exact gn_wrap hq hl hl1 h
  · exact h
theorem lx_arg {p k : Nat} (hp : tkPos f n k = endF isSp f n p) {s : List Int} (hs : txL s) (h : AtB f n p (40 :: (qL s ++ [41]))) : (tkF f n k).c = 11 ∧ (tkF f n (k + 1)).c = 14 ∧ (tkF f n (k + 1)).q = s ∧ (tkF f n (k + 2)).c = 12 ∧ tkPos f n (k + 3) = endF isSp f n (p + 1 + (qL s).length + 1) := by
  obtain ⟨a1, a2, a3⟩ := h.head
  obtain ⟨b1, b2⟩ := a3.app
  obtain ⟨c1, c2, _⟩ := b2.head
  obtain ⟨t1, t2⟩ := lx_sym hp a1 a2 (c := 11) rfl (by omega)
  obtain ⟨u1, u2, u3⟩ := lx_quo t2 hs b1
  obtain ⟨v1, v2⟩ := lx_sym u3 c1 c2 (c := 12) rfl (by omega)
  exact ⟨t1, u1, u2, v1, v2⟩
theorem gn_all (hq : ∀ i, (tkF f n i).c = 14 → txL (tkF f n i).q) (hl : LastK (tkF f n) m) : GNd f n m 3 [97, 108, 108] [⟨1, [], []⟩] := by
  intro p k hk hp ha hn
  obtain ⟨t1, t2⟩ := lx_word hp ha (by simp) (by intro x hx; simp at hx; rcases hx with rfl | rfl | rfl <;> omega) hn (c := 1) rfl (by omega)
  have hk1 := last_lt hl hk t1 (by omega) (by omega)
  refine ⟨by omega, k + 1, by omega, hk1, t2, fun nd N0 z1 z2 z3 => ?_⟩
  have z2' : nd + 1 ≤ 100 := z2
  exact pc_all hq hl hk t1 z1 (by omega)
theorem gn_v (hq : ∀ i, (tkF f n i).c = 14 → txL (tkF f n i).q) (hl : LastK (tkF f n) m) {s : List Int} (hs : txL s) : GNd f n m 3 ([[118, 40], qL s, [41]].flatten) [⟨2, s, []⟩] := by
  intro p k hk hp ha hn
  have e : [[118, 40], qL s, [41]].flatten = [118] ++ 40 :: (qL s ++ [41]) := by simp
  rw [e] at ha hn ⊢
  obtain ⟨a1, a2⟩ := ha.app
  obtain ⟨_, a3, _⟩ := a2.head
  obtain ⟨t1, t2⟩ := lx_word hp a1 (by simp) (by intro x hx; simp at hx; omega) (nlt_of a3 (by omega)) (c := 2) rfl (by omega)
  obtain ⟨u1, u2, u3, u4, u5⟩ := lx_arg t2 hs a2
  have hk1 := last_lt hl hk t1 (by omega) (by omega)
  have hk2 := last_lt hl hk1 u1 (by omega) (by omega)
  have hk3 := last_lt hl hk2 u2 (by omega) (by omega)
  have hk4 := last_lt hl hk3 u4 (by omega) (by omega)
  refine ⟨by omega, k + 4, by omega, hk4, ?_, fun nd N0 z1 z2 z3 => ?_⟩
  · rw [show k + 4 = k + 1 + 3 by omega, u5]
    congr 1
    simp
    omega
  · have z2' : nd + 1 ≤ 100 := z2
    have r := pc_v hq hl (A := tkPos f n) (N := N0) hk t1 u1 u2 u4 z1 (show nd < 100 by omega)
    rw [show (tkF f n (k + 2)).q = s from u3] at r
    exact r
/-- A step. -/
theorem gn_st1 (hq : ∀ i, (tkF f n i).c = 14 → txL (tkF f n i).q) (hl : LastK (tkF f n) m) {l : Nat} {x : List Int} {d : List Nd} (hl3 : l = 3) (h : GNd f n m l x d) (c : Nat) (w : List Int) (hcw : (c = 3 ∧ w = [111, 117, 116]) ∨ (c = 4 ∧ w = [105, 110])) {s : List Int} (hs : txL s) : GNd f n m 3 (x ++ (46 :: (w ++ 40 :: (qL s ++ [41])))) (d ++ [⟨c, s, []⟩]) := by
  subst hl3
  intro p k hk hp ha hn
  obtain ⟨a1, a2⟩ := ha.app
  obtain ⟨b1, b2, b3⟩ := a2.head
  obtain ⟨d1, d2⟩ := b3.app
  obtain ⟨_, d3, _⟩ := d2.head
  obtain ⟨h0, k1, g1, g2, g3, g4⟩ := h p k hk hp a1 (nlt_of b2 (by omega))
  obtain ⟨t1, t2⟩ := lx_sym g3 b1 b2 (c := 10) rfl (by omega)
  have w0 : w ≠ [] ∧ (∀ x, x ∈ w → 97 ≤ x ∧ x ≤ 122) ∧ cdW w = c := by
    rcases hcw with ⟨rfl, rfl⟩ | ⟨rfl, rfl⟩
    · exact ⟨by simp, by intro x hx; simp at hx; rcases hx with rfl | rfl | rfl <;> omega, rfl⟩
    · exact ⟨by simp, by intro x hx; simp at hx; rcases hx with rfl | rfl <;> omega, rfl⟩
  obtain ⟨s1, s2⟩ := lx_word t2 d1 w0.1 w0.2.1 (nlt_of d3 (by omega)) (c := c) w0.2.2 (by omega)
  obtain ⟨u1, u2, u3, u4, u5⟩ := lx_arg s2 hs d2
  have hk1 := last_lt hl g2 t1 (by omega) (by omega)
  have hk2 := last_lt hl hk1 s1 (by omega) (by omega)
  have hk3 := last_lt hl hk2 u1 (by omega) (by omega)
  have hk4 := last_lt hl hk3 u2 (by omega) (by omega)
  have hk5 := last_lt hl hk4 u4 (by omega) (by omega)
  refine ⟨h0, k1 + 5, by omega, hk5, ?_, fun nd N0 z1 z2 z3 => ?_⟩
  · rw [show k1 + 5 = k1 + 1 + 1 + 3 by omega, u5]
    congr 1
    simp
    omega
  · rw [List.length_append, List.length_singleton] at z2
    have pc := g4 nd N0 (by omega) (by omega) ⟨fun e => absurd e (by omega), fun e => absurd e (by omega), fun e => absurd e (by omega)⟩
    have r := pc_st1 hq pc t1 s1 (by omega) u1 u2 u4 z1 (by omega)
    rw [show (tkF f n (k1 + 3)).q = s from u3, List.append_assoc] at r
    rw [List.length_append, List.length_singleton]
    exact r
theorem gn_st2 (hq : ∀ i, (tkF f n i).c = 14 → txL (tkF f n i).q) (hl : LastK (tkF f n) m) {l : Nat} {x : List Int} {d : List Nd} (hl3 : l = 3) (h : GNd f n m l x d) {s t : List Int} (hs : txL s) (ht : txL t) : GNd f n m 3 (x ++ (46 :: ([104, 97, 115] ++ 40 :: (qL s ++ 44 :: 32 :: (qL t ++ [41]))))) (d ++ [⟨5, s, t⟩]) := by
  subst hl3
  intro p k hk hp ha hn
  obtain ⟨a1, a2⟩ := ha.app
  obtain ⟨b1, b2, b3⟩ := a2.head
  obtain ⟨d1, d2⟩ := b3.app
  obtain ⟨d4, d3, d5⟩ := d2.head
  obtain ⟨e1, e2⟩ := d5.app
  obtain ⟨e3, e4, e5⟩ := e2.head
  obtain ⟨e6, e7, e8⟩ := e5.head
  obtain ⟨f1, f2⟩ := e8.app
  obtain ⟨f3, f4, _⟩ := f2.head
  obtain ⟨h0, k1, g1, g2, g3, g4⟩ := h p k hk hp a1 (nlt_of b2 (by omega))
  obtain ⟨t1, t2⟩ := lx_sym g3 b1 b2 (c := 10) rfl (by omega)
  obtain ⟨s1, s2⟩ := lx_word t2 d1 (by simp) (by intro x hx; simp at hx; rcases hx with rfl | rfl | rfl <;> omega) (nlt_of d3 (by omega)) (c := 5) rfl (by omega)
  obtain ⟨u1, u2⟩ := lx_sym s2 d4 d3 (c := 11) rfl (by omega)
  obtain ⟨v1, v2, v3⟩ := lx_quo u2 hs e1
  obtain ⟨w1, w2⟩ := lx_sym v3 e3 e4 (c := 13) rfl (by omega)
  rw [lx_sp e6 e7] at w2
  obtain ⟨x1, x2, x3⟩ := lx_quo w2 ht f1
  obtain ⟨y1, y2⟩ := lx_sym x3 f3 f4 (c := 12) rfl (by omega)
  have hk1 := last_lt hl g2 t1 (by omega) (by omega)
  have hk2 := last_lt hl hk1 s1 (by omega) (by omega)
  have hk3 := last_lt hl hk2 u1 (by omega) (by omega)
  have hk4 := last_lt hl hk3 v1 (by omega) (by omega)
  have hk5 := last_lt hl hk4 w1 (by omega) (by omega)
  have hk6 := last_lt hl hk5 x1 (by omega) (by omega)
  have hk7 := last_lt hl hk6 y1 (by omega) (by omega)
  refine ⟨h0, k1 + 7, by omega, hk7, ?_, fun nd N0 z1 z2 z3 => ?_⟩
  · rw [show k1 + 7 = k1 + 1 + 1 + 1 + 1 + 1 + 1 + 1 by omega, y2]
    congr 1
    simp
    omega
  · rw [List.length_append, List.length_singleton] at z2
    have pc := g4 nd N0 (by omega) (by omega) ⟨fun e => absurd e (by omega), fun e => absurd e (by omega), fun e => absurd e (by omega)⟩
    have r := pc_st2 hq pc t1 s1 u1 v1 w1 x1 y1 z1 (by omega)
    rw [show (tkF f n (k1 + 3)).q = s from v2, show (tkF f n (k1 + 5)).q = t from x2, List.append_assoc] at r
    rw [List.length_append, List.length_singleton]
    exact r
/-- An operator between two operands. -/
theorem gn_op (hl : LastK (tkF f n) m) {l1 l2 : Nat} {x y : List Int} {d e : List Nd} (c : Nat) (b : Int) (s : Nat) (hcb : (c = 6 ∧ b = 38 ∧ s = 2) ∨ (c = 7 ∧ b = 124 ∧ s = 1) ∨ (c = 8 ∧ b = 45 ∧ s = 1)) (hl1 : s ≤ l1) (hl2 : s + 1 ≤ l2) (h : GNd f n m l1 x d) (k2 : GNd f n m l2 y e) : GNd f n m s (x ++ (32 :: b :: 32 :: y)) (d ++ e ++ [⟨c, [], []⟩]) := by
  intro p k hk hp ha hn
  obtain ⟨a1, a2⟩ := ha.app
  obtain ⟨b1, b2, b3⟩ := a2.head
  obtain ⟨b4, b5, b6⟩ := b3.head
  obtain ⟨b7, b8, b9⟩ := b6.head
  have cb : cdS b = c ∧ c ≠ 0 ∧ stg c = s ∧ 6 ≤ c ∧ c ≤ 8 := by
    rcases hcb with ⟨rfl, rfl, rfl⟩ | ⟨rfl, rfl, rfl⟩ | ⟨rfl, rfl, rfl⟩
    · exact ⟨rfl, by omega, rfl, by omega, by omega⟩
    · exact ⟨rfl, by omega, rfl, by omega, by omega⟩
    · exact ⟨rfl, by omega, rfl, by omega, by omega⟩
  obtain ⟨h0, k1, g1, g2, g3, g4⟩ := h p k hk hp a1 (nlt_of b2 (by omega))
  rw [lx_sp b1 b2] at g3
  obtain ⟨t1, t2⟩ := lx_sym g3 b4 b5 cb.1 cb.2.1
  rw [lx_sp b7 b8] at t2
  have hk1 := last_lt hl g2 t1 (by omega) (by omega)
  obtain ⟨h1, k3, i1, i2, i3, i4⟩ := k2 _ (k1 + 1) hk1 t2 b9 (by
    rw [show p + x.length + 1 + 1 + 1 + y.length = p + (x ++ (32 :: b :: 32 :: y)).length by simp; omega]
    exact hn)
  refine ⟨h0, k3, by omega, i2, ?_, fun nd N0 z1 z2 z3 => ?_⟩
  · rw [i3]
    congr 1
    simp
    omega
  · rw [List.length_append, List.length_append, List.length_singleton] at z2
    have pc := g4 nd N0 (by omega) (by omega) ⟨fun _ => by omega, fun _ => by omega, fun q => absurd q (by omega)⟩
    have pc1 : PC (tkF f n) (tkPos f n) s (s + 1) k nd N0 (.inl (k1, nd + d.length, N0 ++ d)) := (pc.up hl1).stop ⟨fun _ => by show (tkF f n k1).c ≠ 10; omega, fun _ => by show (tkF f n k1).c ≠ 6; omega, fun q => absurd q (by omega)⟩
    obtain ⟨z31, z32, z33⟩ := z3
    have pd := i4 (nd + d.length + 1) (N0 ++ d) z1 (by omega) ⟨fun q => z31 (by omega), fun q => z32 (by omega), fun q => absurd q (by omega)⟩
    have pd1 : PC (tkF f n) (tkPos f n) (s + 1) (s + 1) (k1 + 1) (nd + d.length + 1) (N0 ++ d) (.inl (k3, nd + d.length + 1 + e.length, N0 ++ d ++ e)) := (pd.up hl2).stop ⟨z31, z32, z33⟩
    have r := pc_op pc1 t1 cb.2.2.2.1 cb.2.2.2.2 cb.2.2.1 (by omega) h1 pd1
    rw [List.length_append, List.length_append, List.length_singleton, show nd + (d.length + e.length + 1) = nd + d.length + 1 + e.length by omega, ← List.append_assoc, ← List.append_assoc]
    exact r
/-- A graph. -/
theorem gn_graph (hq : ∀ i, (tkF f n i).c = 14 → txL (tkF f n i).q) (hl : LastK (tkF f n) m) {l : Nat} {x : List Int} {d : List Nd} (hl1 : 1 ≤ l) (h : GNd f n m l x d) {s : List Int} (hs : txL s) : GNd f n m 3 ([103, 114, 97, 112, 104] ++ 32 :: (qL s ++ 32 :: 40 :: (x ++ [41]))) (d ++ [⟨9, s, []⟩]) := by
  intro p k hk hp ha hn
  obtain ⟨a1, a2⟩ := ha.app
  obtain ⟨b1, b2, b3⟩ := a2.head
  obtain ⟨c1, c2⟩ := b3.app
  obtain ⟨c3, c4, c5⟩ := c2.head
  obtain ⟨c6, c7, c8⟩ := c5.head
  obtain ⟨d1, d2⟩ := c8.app
  obtain ⟨d3, d4, _⟩ := d2.head
  obtain ⟨t1, t2⟩ := lx_word hp a1 (by simp) (by intro x hx; simp at hx; rcases hx with rfl | rfl | rfl | rfl | rfl <;> omega) (nlt_of b2 (by omega)) (c := 9) rfl (by omega)
  rw [lx_sp b1 b2] at t2
  obtain ⟨u1, u2, u3⟩ := lx_quo t2 hs c1
  rw [lx_sp c3 c4] at u3
  obtain ⟨v1, v2⟩ := lx_sym u3 c6 c7 (c := 11) rfl (by omega)
  have hk1 := last_lt hl hk t1 (by omega) (by omega)
  have hk2 := last_lt hl hk1 u1 (by omega) (by omega)
  have hk3 := last_lt hl hk2 v1 (by omega) (by omega)
  obtain ⟨h0, k1, g1, g2, g3, g4⟩ := h _ (k + 3) hk3 v2 d1 (nlt_of d4 (by omega))
  obtain ⟨s1, s2⟩ := lx_sym g3 d3 d4 (c := 12) rfl (by omega)
  have hk4 := last_lt hl g2 s1 (by omega) (by omega)
  refine ⟨by omega, k1 + 1, by omega, hk4, ?_, fun nd N0 z1 z2 z3 => ?_⟩
  · rw [s2]
    congr 1
    simp
    omega
  · rw [List.length_append, List.length_singleton] at z2
    have pc := g4 (nd + 1) N0 (by omega) (by omega) ⟨fun _ => by omega, fun _ => by omega, fun _ => ⟨by omega, by omega⟩⟩
    have pc2 : PC (tkF f n) (tkPos f n) 1 1 (k + 3) (nd + 1) N0 (.inl (k1, nd + 1 + d.length, N0 ++ d)) := (pc.up hl1).stop ⟨fun _ => by show (tkF f n k1).c ≠ 10; omega, fun _ => by show (tkF f n k1).c ≠ 6; omega, fun _ => ⟨by show (tkF f n k1).c ≠ 7; omega, by show (tkF f n k1).c ≠ 8; omega⟩⟩
    have r := pc_graph hq hl hk t1 u1 v1 h0 (by omega) pc2
    rw [tk_sy s1 (by omega) z1, u2] at r
    rw [List.length_append, List.length_singleton, show nd + (d.length + 1) = nd + 1 + d.length by omega, ← List.append_assoc]
    exact r
end
end Go.Proofs.Ytocmbnocdjnfpaa
