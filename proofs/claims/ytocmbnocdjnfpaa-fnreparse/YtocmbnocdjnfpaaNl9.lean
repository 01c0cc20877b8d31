import Derived.Test.YtocmbnocdjnfpaaNl8
import Derived.Test.YtocmbnocdjnfpaaNl5
import Derived.Test.YtocmbnocdjnfpaaNm1
import Derived.Deep.CutBlock
import Derived.BigQuiet
import Derived.Test.YtocmbnocdjnfpaaRows
import Derived.Test.YtocmbnocdjnfpaaOwn
import Derived.ProofKit
import Derived.OpenShut
import Derived.Lib.SmallJoins
import Derived.Deep.SlicePairs
import Derived.Test.YtocmbnocdjnfpaaNl6
import Derived.Test.YtocmbnocdjnfpaaNl7
namespace Go.Proofs.Ytocmbnocdjnfpaa
open Go.RowKit Go.Deep
set_option linter.unusedVariables false
set_option linter.unusedSimpArgs false
set_option maxRecDepth 100000

theorem pos_mono (f : Nat → Int) (n : Nat) {i : Nat} : ∀ j, i ≤ j → tkPos f n i ≤ tkPos f n j
  | 0, h => by rw [show i = 0 by omega]; exact Nat.le_refl _
  | j + 1, h => by
    by_cases e : i = j + 1
    · subst e; exact Nat.le_refl _
    · have h1 := pos_mono f n (i := i) j (by omega)
      have h2 := (tkA_le (f := f) (tkPos_le f n j)).1
      have h3 := endF_ge isSp f n (tkA f n (tkPos f n j)).e
      show tkPos f n i ≤ endF isSp f n (tkA f n (tkPos f n j)).e
      omega
theorem pos_up {f : Nat → Int} {n i j : Nat} (h : i < j) (h0 : (tkF f n i).c ≠ 0) (h1 : (tkF f n i).c ≠ 15) : tkPos f n i < tkPos f n j := Nat.lt_of_lt_of_le (tkPos_up h0 h1) (pos_mono f n j h)
/-- How far a loop of the reader still has to go. -/
def mzr (n R : Nat) (w : World) : Nat := if intOf ((w.cell? ⟨R, 7, none⟩).getD undef) = 0 then 1 + (n + 1 - (intOf ((w.cell? ⟨R, 3, none⟩).getD undef)).toNat) else 0
section
variable {w0 : World} {a : Option Addr} {n c : Nat} {f : Nat → Int} {m : Nat}
theorem mzr_inl {p : Nat} {w : World} {s : Nat × Nat × List Nd} (h : RS (tkF f n) (tkPos f n) m w0 (.slice a n c) p w (.inl s)) : mzr n w0.heap.size w = 1 + (n + 1 - tkPos f n s.1) := by
  obtain ⟨vn, h1, _⟩ := h
  unfold mzr
  rw [h1.cells.2.2.2.1, h1.cells.2.2.2.2.2.2.2.1]
  simp [intOf]
theorem mzr_inr {p : Nat} {w : World} {x : Int × Int} (h : RS (tkF f n) (tkPos f n) m w0 (.slice a n c) p w (.inr x)) : mzr n w0.heap.size w = 0 := by
  obtain ⟨bh, ta, mk, ct, vn, N, h1, _, h3⟩ := h
  unfold mzr
  rw [h1.cells.2.2.2.2.2.2.2.1]
  simp [intOf, h3]
theorem mzr_less {p p' : Nat} {w w' : World} {s : Nat × Nat × List Nd} {σ' : (Nat × Nat × List Nd) ⊕ (Int × Int)} (h : RS (tkF f n) (tkPos f n) m w0 (.slice a n c) p w (.inl s)) (h' : RS (tkF f n) (tkPos f n) m w0 (.slice a n c) p' w' σ') (hu : Up (tkF f n) m 1 (.inl s) σ') (h15 : ((tkF f n) s.1).c ≠ 15) : mzr n w0.heap.size w' < mzr n w0.heap.size w := by
  rw [mzr_inl h]
  cases σ' with
  | inr x => rw [mzr_inr h']; omega
  | inl s' =>
    rw [mzr_inl h']
    obtain ⟨s0, e0, k1, _⟩ := hu s' rfl
    cases e0
    obtain ⟨vn, _, _, hz⟩ := h
    have := pos_up (show s.1 < s'.1 by omega) hz h15
    have := tkPos_le f n s'.1
    omega
/-- The loop's state: what is still to be done. -/
def LpI {w0 : World} (tv : Value) (f : Nat → Int) (n m i0 p : Nat) (t : Nat → Bool) (body : Nat → (Nat × Nat × List Nd) ⊕ (Int × Int) → (Nat × Nat × List Nd) ⊕ (Int × Int)) (fin : (Nat × Nat × List Nd) ⊕ (Int × Int)) (wr : World) : Prop :=
  ∃ g σ, RS (tkF f n) (tkPos f n) m w0 tv p wr σ ∧ OkS (tkF f n) m i0 σ ∧ loopF (tkF f n) t body g σ = fin ∧ ∀ s, σ = .inl s → m ≤ g + s.1
theorem lp_stop {t : Nat → Bool} {body : Nat → (Nat × Nat × List Nd) ⊕ (Int × Int) → (Nat × Nat × List Nd) ⊕ (Int × Int)} {g : Nat} {σ fin : (Nat × Nat × List Nd) ⊕ (Int × Int)} (h : loopF (tkF f n) t body g σ = fin) (ht : t (kdS (tkF f n) σ) = false) : fin = σ := by
  cases g with
  | zero => exact h.symm
  | succ g =>
    have h' : (if t (kdS (tkF f n) σ) = true then _ else σ) = fin := h
    rw [ht] at h'
    exact h'.symm
theorem lp_go {t : Nat → Bool} {body : Nat → (Nat × Nat × List Nd) ⊕ (Int × Int) → (Nat × Nat × List Nd) ⊕ (Int × Int)} {g i0 : Nat} {s : Nat × Nat × List Nd} {fin : (Nat × Nat × List Nd) ⊕ (Int × Int)} (h : loopF (tkF f n) t body g (.inl s) = fin) (ht : t ((tkF f n) s.1).c = true) (ho : OkS (tkF f n) m i0 (.inl s)) (hm : ∀ s', (Sum.inl s : (Nat × Nat × List Nd) ⊕ (Int × Int)) = .inl s' → m ≤ g + s'.1) (hu : Up (tkF f n) m 1 (.inl s) (body ((tkF f n) s.1).c (.inl s))) : ∃ g', loopF (tkF f n) t body g' (body ((tkF f n) s.1).c (.inl s)) = fin ∧ ∀ s', body ((tkF f n) s.1).c (.inl s) = .inl s' → m ≤ g' + s'.1 := by
  have h1 := hm s rfl
  have h2 := (ho s rfl).1.1
  cases g with
  | zero => omega
  | succ g =>
    have h' : (if t ((tkF f n) s.1).c = true then loopF (tkF f n) t body g (body ((tkF f n) s.1).c (.inl s)) else .inl s) = fin := h
    rw [ht] at h'
    refine ⟨g, h', fun s' e => ?_⟩
    obtain ⟨s0, e0, k1, _⟩ := hu s' e
    cases e0
    omega

set_option maxHeartbeats 2000000 in
theorem step_rs (E : Env w0 a n c f) (hl : LastK (tkF f n) m) (rec : (Nat × Nat × List Nd) ⊕ (Int × Int) → (Nat × Nat × List Nd) ⊕ (Int × Int)) (hr : ∀ σ, Up (tkF f n) m 0 σ (rec σ)) (i0 : Nat) (hrec : (∀ W p' s, i0 < s.1 → Okk (tkF f n) m s → p' ≤ 9000 → RS (tkF f n) (tkPos f n) m w0 (.slice a n c) p' W (.inl s) → Calls Try.prog 55 #[.pointer (some ⟨w0.heap.size, 0, none⟩)] W (FRet (tkF f n) (tkPos f n) m w0 (.slice a n c) p' (rec (.inl s))))) (w : World) (p : Nat) (hp : p ≤ 9000) (σ : (Nat × Nat × List Nd) ⊕ (Int × Int)) (h : RS (tkF f n) (tkPos f n) m w0 (.slice a n c) p w σ) (hok : OkS (tkF f n) m i0 σ) :
    Calls Try.prog 133 #[.pointer (some ⟨w0.heap.size, 0, none⟩)] w (FRet (tkF f n) (tkPos f n) m w0 (.slice a n c) p (stepF (tkF f n) (tkPos f n) m rec σ)) := by
  have HE : Hid (Env w0 a n c f) := E
  have HL : Hid (LastK (tkF f n) m) := hl
  have HUP : Hid (∀ σ, Up (tkF f n) m 0 σ (rec σ)) := hr
  have HF1 : Hid (∀ W p' σ', p' ≤ 9000 → RS (tkF f n) (tkPos f n) m w0 (.slice a n c) p' W σ' → OkS (tkF f n) m i0 σ' → Calls Try.prog 150 #[.pointer (some ⟨w0.heap.size, 0, none⟩)] W (FRet (tkF f n) (tkPos f n) m w0 (.slice a n c) p' (primF (tkF f n) (tkPos f n) rec σ'))) := fun W p' σ' q1 q2 q3 => prim_rs HE.out HL.out rec hr i0 hrec W p' q1 σ' q2 q3
  have HO1 : Hid (OkS (tkF f n) m i0 (primF (tkF f n) (tkPos f n) rec σ)) := (hok.up (up_prim (A := (tkPos f n)) hl hr σ)).less (by omega)
  have HBU : Hid (∀ σ, (fun c => decide (c = 10)) (kdS (tkF f n) σ) = true → Up (tkF f n) m 1 σ ((fun _ σ => moveF (tkF f n) (tkPos f n) (tkP (tkF f n) (tkPos f n) 10 σ)) (kdS (tkF f n) σ) σ)) := fun σ hb => ((up_tk HL.out (by omega) (by omega) σ).trans (up_move HL.out _)).less (by omega)
  have HFIN : Hid (∃ fin, fin = stepF (tkF f n) (tkPos f n) m rec σ) := ⟨_, rfl⟩
  obtain ⟨fin, hfin⟩ := HFIN.out
  rw [← hfin]
  have HLP : Hid (loopF (tkF f n) (fun c => decide (c = 10)) (fun _ σ => moveF (tkF f n) (tkPos f n) (tkP (tkF f n) (tkPos f n) 10 σ)) m (primF (tkF f n) (tkPos f n) rec σ) = fin) := by show _ = _; rw [hfin]; first | done | rfl
  have HS : Hid (RS (tkF f n) (tkPos f n) m w0 (.slice a n c) p w σ ∧ OkS (tkF f n) m i0 σ) := ⟨h, hok⟩
  clear h hok E hl hrec hr hfin HFIN
  go_enter Try.func133, Try.ntmps133
  go_wp2_with fail
  refine (HF1.out w p σ hp HS.out.1 HS.out.2).mono ?_
  rintro e w1 ⟨rfl, h1⟩
  have HS1 : Hid (RS (tkF f n) (tkPos f n) m w0 (.slice a n c) p w1 (primF (tkF f n) (tkPos f n) rec σ)) := h1
  clear h1 HS
  go_wp2_with fail
  go_loopw [] (fun wr => LpI (w0 := w0) (.slice a n c) f n m i0 p (fun c => decide (c = 10)) (fun _ σ => moveF (tkF f n) (tkPos f n) (tkP (tkF f n) (tkPos f n) 10 σ)) fin wr) (fun wr => mzr n w0.heap.size wr)
  case atStart => exact ⟨m, _, HS1.out, HO1.out, HLP.out, fun s _ => Nat.le_add_right _ _⟩
  case round =>
    obtain ⟨g, τ, hS, hO, hL, hM⟩ := hrel
    have HS2 : Hid (RS (tkF f n) (tkPos f n) m w0 (.slice a n c) p wr τ ∧ OkS (tkF f n) m i0 τ) := ⟨hS, hO⟩
    have HG : Hid (loopF (tkF f n) (fun c => decide (c = 10)) (fun _ σ => moveF (tkF f n) (tkPos f n) (tkP (tkF f n) (tkPos f n) 10 σ)) g τ = fin ∧ ∀ s, τ = .inl s → m ≤ g + s.1) := ⟨hL, hM⟩
    have c2 := hS.kind
    have hlt := hS.bel.2
    have h15 := kdS_le f n τ
    clear hS hO hL hM HS1 HLP HO1
    by_cases hk : kdS (tkF f n) τ = 10
    · skip
      obtain ⟨s, rfl⟩ : ∃ s, τ = .inl s := kdS_inl (T := (tkF f n)) (by rw [hk]; omega)
      have hks : ((tkF f n) s.1).c = 10 := hk
      have p1 := HS2.out.1.pos HS2.out.2
      have HN : Hid (∃ g', loopF (tkF f n) (fun c => decide (c = 10)) (fun _ σ => moveF (tkF f n) (tkPos f n) (tkP (tkF f n) (tkPos f n) 10 σ)) g' ((fun _ σ => moveF (tkF f n) (tkPos f n) (tkP (tkF f n) (tkPos f n) 10 σ)) ((tkF f n) s.1).c (.inl s)) = fin ∧ ∀ s', (fun _ σ => moveF (tkF f n) (tkPos f n) (tkP (tkF f n) (tkPos f n) 10 σ)) ((tkF f n) s.1).c (.inl s) = .inl s' → m ≤ g' + s'.1) := lp_go HG.out.1 (by show decide _ = true; exact decide_eq_true (by omega)) HS2.out.2 HG.out.2 (HBU.out (.inl s) (by show decide _ = true; exact decide_eq_true (by omega)))
      have HUB : Hid (Up (tkF f n) m 1 (.inl s) ((fun _ σ => moveF (tkF f n) (tkPos f n) (tkP (tkF f n) (tkPos f n) 10 σ)) ((tkF f n) s.1).c (.inl s))) := HBU.out (.inl s) (by show decide _ = true; exact decide_eq_true (by omega))
      have HS3 : Hid (RS (tkF f n) (tkPos f n) m w0 (.slice a n c) p wr (.inl s)) := HS2.out.1
      have HO3 : Hid (OkS (tkF f n) m i0 (.inl s)) := HS2.out.2
      have HKS : Hid (((tkF f n) s.1).c = 10) := hks
      rw [hk] at c2
      have c2' : wr.cell? ⟨w0.heap.size, 2, none⟩ = some (.string { data := #[46] }) := c2
      clear c2 hks hk HG HS2 HBU
      go_wp2_with fail
      refine (tk_rs HE.out 10 { data := #[46] } rfl (by omega) (by omega) wr (.inl s) HS3.out HO3.out).mono ?_
      rintro e w2 ⟨q2, rfl, _, h2⟩
      have HS4 : Hid (RS (tkF f n) (tkPos f n) m w0 (.slice a n c) (p - 1) w2 (tkP (tkF f n) (tkPos f n) 10 (.inl s))) := h2
      have HO4 : Hid (OkS (tkF f n) m (i0 + 1) (tkP (tkF f n) (tkPos f n) 10 (.inl s))) := HO3.out.up (up_tk (A := (tkPos f n)) HL.out (c := 10) (by omega) (by omega) _)
      clear h2
      go_wp2_with fail
      refine (move_rs HE.out HL.out w2 (p - 1) (i0 + 1) (by omega) (tkP (tkF f n) (tkPos f n) 10 (.inl s)) HS4.out HO4.out).mono ?_
      rintro e w3 ⟨rfl, h3⟩
      have HSB : Hid (RS (tkF f n) (tkPos f n) m w0 (.slice a n c) p w3 ((fun _ σ => moveF (tkF f n) (tkPos f n) (tkP (tkF f n) (tkPos f n) 10 σ)) ((tkF f n) s.1).c (.inl s))) := h3.more (by omega)
      clear h3
      go_wp2
      go_roundw
      case rel =>
        obtain ⟨g', e1, e2⟩ := HN.out
        exact ⟨g', _, HSB.out, (HO3.out.up HUB.out).less (by omega), e1, e2⟩
      case measure => exact mzr_less HS3.out HSB.out HUB.out (by rw [HKS.out]; omega)
    obtain ⟨n1, n1'⟩ := kdW_no [46] (k := 10) rfl h15 (by omega) hk
    have HE2 : Hid (fin = τ) := lp_stop HG.out.1 (by show decide _ = false; exact decide_eq_false (by omega))
    generalize kdW (kdS (tkF f n) τ) = K at *
    have GL : Hid (RS (tkF f n) (tkPos f n) m w0 (.slice a n c) p wr fin) := by show RS _ _ _ _ _ _ _ _; rw [HE2.out]; exact HS2.out.1
    go_wp2
    refine bodyPost_end (v := .tuple #[]) (by simp [results, Try.results133, go_sem]) rfl ⟨rfl, GL.out⟩
set_option maxHeartbeats 2000000 in
theorem meet_rs (E : Env w0 a n c f) (hl : LastK (tkF f n) m) (rec : (Nat × Nat × List Nd) ⊕ (Int × Int) → (Nat × Nat × List Nd) ⊕ (Int × Int)) (hr : ∀ σ, Up (tkF f n) m 0 σ (rec σ)) (i0 : Nat) (hrec : (∀ W p' s, i0 < s.1 → Okk (tkF f n) m s → p' ≤ 9000 → RS (tkF f n) (tkPos f n) m w0 (.slice a n c) p' W (.inl s) → Calls Try.prog 55 #[.pointer (some ⟨w0.heap.size, 0, none⟩)] W (FRet (tkF f n) (tkPos f n) m w0 (.slice a n c) p' (rec (.inl s))))) (w : World) (p : Nat) (hp : p ≤ 9000) (σ : (Nat × Nat × List Nd) ⊕ (Int × Int)) (h : RS (tkF f n) (tkPos f n) m w0 (.slice a n c) p w σ) (hok : OkS (tkF f n) m i0 σ) :
    Calls Try.prog 98 #[.pointer (some ⟨w0.heap.size, 0, none⟩)] w (FRet (tkF f n) (tkPos f n) m w0 (.slice a n c) p (meetF (tkF f n) (tkPos f n) m rec σ)) := by
  have HE : Hid (Env w0 a n c f) := E
  have HL : Hid (LastK (tkF f n) m) := hl
  have HUP : Hid (∀ σ, Up (tkF f n) m 0 σ (rec σ)) := hr
  have HF1 : Hid (∀ W p' σ', p' ≤ 9000 → RS (tkF f n) (tkPos f n) m w0 (.slice a n c) p' W σ' → OkS (tkF f n) m i0 σ' → Calls Try.prog 133 #[.pointer (some ⟨w0.heap.size, 0, none⟩)] W (FRet (tkF f n) (tkPos f n) m w0 (.slice a n c) p' (stepF (tkF f n) (tkPos f n) m rec σ'))) := fun W p' σ' q1 q2 q3 => step_rs HE.out HL.out rec hr i0 hrec W p' q1 σ' q2 q3
  have HO1 : Hid (OkS (tkF f n) m i0 (stepF (tkF f n) (tkPos f n) m rec σ)) := (hok.up (up_step (A := (tkPos f n)) hl hr σ)).less (by omega)
  have HBU : Hid (∀ σ, (fun c => decide (c = 6)) (kdS (tkF f n) σ) = true → Up (tkF f n) m 1 σ ((fun _ σ => emP ⟨6, [], []⟩ (stepF (tkF f n) (tkPos f n) m rec (tkP (tkF f n) (tkPos f n) 6 σ))) (kdS (tkF f n) σ) σ)) := fun σ hb => (((up_tk HL.out (by omega) (by omega) σ).trans (up_step HL.out HUP.out _)).em _).less (by omega)
  have HFIN : Hid (∃ fin, fin = meetF (tkF f n) (tkPos f n) m rec σ) := ⟨_, rfl⟩
  obtain ⟨fin, hfin⟩ := HFIN.out
  rw [← hfin]
  have HLP : Hid (loopF (tkF f n) (fun c => decide (c = 6)) (fun _ σ => emP ⟨6, [], []⟩ (stepF (tkF f n) (tkPos f n) m rec (tkP (tkF f n) (tkPos f n) 6 σ))) m (stepF (tkF f n) (tkPos f n) m rec σ) = fin) := by show _ = _; rw [hfin]; first | done | rfl
  have HS : Hid (RS (tkF f n) (tkPos f n) m w0 (.slice a n c) p w σ ∧ OkS (tkF f n) m i0 σ) := ⟨h, hok⟩
  clear h hok E hl hrec hr hfin HFIN
  go_enter Try.func98, Try.ntmps98
  go_wp2_with fail
  refine (HF1.out w p σ hp HS.out.1 HS.out.2).mono ?_
  rintro e w1 ⟨rfl, h1⟩
  have HS1 : Hid (RS (tkF f n) (tkPos f n) m w0 (.slice a n c) p w1 (stepF (tkF f n) (tkPos f n) m rec σ)) := h1
  clear h1 HS
  go_wp2_with fail
  go_loopw [] (fun wr => LpI (w0 := w0) (.slice a n c) f n m i0 p (fun c => decide (c = 6)) (fun _ σ => emP ⟨6, [], []⟩ (stepF (tkF f n) (tkPos f n) m rec (tkP (tkF f n) (tkPos f n) 6 σ))) fin wr) (fun wr => mzr n w0.heap.size wr)
  case atStart => exact ⟨m, _, HS1.out, HO1.out, HLP.out, fun s _ => Nat.le_add_right _ _⟩
  case round =>
    obtain ⟨g, τ, hS, hO, hL, hM⟩ := hrel
    have HS2 : Hid (RS (tkF f n) (tkPos f n) m w0 (.slice a n c) p wr τ ∧ OkS (tkF f n) m i0 τ) := ⟨hS, hO⟩
    have HG : Hid (loopF (tkF f n) (fun c => decide (c = 6)) (fun _ σ => emP ⟨6, [], []⟩ (stepF (tkF f n) (tkPos f n) m rec (tkP (tkF f n) (tkPos f n) 6 σ))) g τ = fin ∧ ∀ s, τ = .inl s → m ≤ g + s.1) := ⟨hL, hM⟩
    have c2 := hS.kind
    have hlt := hS.bel.2
    have h15 := kdS_le f n τ
    clear hS hO hL hM HS1 HLP HO1
    by_cases hk : kdS (tkF f n) τ = 6
    · skip
      obtain ⟨s, rfl⟩ : ∃ s, τ = .inl s := kdS_inl (T := (tkF f n)) (by rw [hk]; omega)
      have hks : ((tkF f n) s.1).c = 6 := hk
      have p1 := HS2.out.1.pos HS2.out.2
      have HN : Hid (∃ g', loopF (tkF f n) (fun c => decide (c = 6)) (fun _ σ => emP ⟨6, [], []⟩ (stepF (tkF f n) (tkPos f n) m rec (tkP (tkF f n) (tkPos f n) 6 σ))) g' ((fun _ σ => emP ⟨6, [], []⟩ (stepF (tkF f n) (tkPos f n) m rec (tkP (tkF f n) (tkPos f n) 6 σ))) ((tkF f n) s.1).c (.inl s)) = fin ∧ ∀ s', (fun _ σ => emP ⟨6, [], []⟩ (stepF (tkF f n) (tkPos f n) m rec (tkP (tkF f n) (tkPos f n) 6 σ))) ((tkF f n) s.1).c (.inl s) = .inl s' → m ≤ g' + s'.1) := lp_go HG.out.1 (by show decide _ = true; exact decide_eq_true (by omega)) HS2.out.2 HG.out.2 (HBU.out (.inl s) (by show decide _ = true; exact decide_eq_true (by omega)))
      have HUB : Hid (Up (tkF f n) m 1 (.inl s) ((fun _ σ => emP ⟨6, [], []⟩ (stepF (tkF f n) (tkPos f n) m rec (tkP (tkF f n) (tkPos f n) 6 σ))) ((tkF f n) s.1).c (.inl s))) := HBU.out (.inl s) (by show decide _ = true; exact decide_eq_true (by omega))
      have HS3 : Hid (RS (tkF f n) (tkPos f n) m w0 (.slice a n c) p wr (.inl s)) := HS2.out.1
      have HO3 : Hid (OkS (tkF f n) m i0 (.inl s)) := HS2.out.2
      have HKS : Hid (((tkF f n) s.1).c = 6) := hks
      rw [hk] at c2
      have c2' : wr.cell? ⟨w0.heap.size, 2, none⟩ = some (.string { data := #[38] }) := c2
      clear c2 hks hk HG HS2 HBU
      go_wp2_with fail
      refine (tk_rs HE.out 6 { data := #[38] } rfl (by omega) (by omega) wr (.inl s) HS3.out HO3.out).mono ?_
      rintro e w2 ⟨q2, rfl, _, h2⟩
      have HS4 : Hid (RS (tkF f n) (tkPos f n) m w0 (.slice a n c) (p - 1) w2 (tkP (tkF f n) (tkPos f n) 6 (.inl s))) := h2
      have HO4 : Hid (OkS (tkF f n) m i0 (tkP (tkF f n) (tkPos f n) 6 (.inl s))) := (HO3.out.up (up_tk (A := (tkPos f n)) HL.out (c := 6) (by omega) (by omega) _)).less (by omega)
      clear h2
      go_wp2_with fail
      refine (HF1.out w2 (p - 1) (tkP (tkF f n) (tkPos f n) 6 (.inl s)) (by omega) HS4.out HO4.out).mono ?_
      rintro e w3 ⟨rfl, h3⟩
      have HS5 : Hid (RS (tkF f n) (tkPos f n) m w0 (.slice a n c) (p - 1) w3 (stepF (tkF f n) (tkPos f n) m rec (tkP (tkF f n) (tkPos f n) 6 (.inl s)))) := h3
      clear h3
      go_wp2_with fail
      refine (emit_rs HS5.out (by omega) ⟨6, [], []⟩ 6 { data := #[] } { data := #[] } rfl (fun _ => rfl) (fun _ => rfl) ⟨[], [], rfl, rfl⟩).mono ?_
      rintro e w4 ⟨rfl, h4⟩
      have HSB : Hid (RS (tkF f n) (tkPos f n) m w0 (.slice a n c) p w4 ((fun _ σ => emP ⟨6, [], []⟩ (stepF (tkF f n) (tkPos f n) m rec (tkP (tkF f n) (tkPos f n) 6 σ))) ((tkF f n) s.1).c (.inl s))) := h4.more (by omega)
      clear h4
      go_wp2
      go_roundw
      case rel =>
        obtain ⟨g', e1, e2⟩ := HN.out
        exact ⟨g', _, HSB.out, (HO3.out.up HUB.out).less (by omega), e1, e2⟩
      case measure => exact mzr_less HS3.out HSB.out HUB.out (by rw [HKS.out]; omega)
    obtain ⟨n1, n1'⟩ := kdW_no [38] (k := 6) rfl h15 (by omega) hk
    have HE2 : Hid (fin = τ) := lp_stop HG.out.1 (by show decide _ = false; exact decide_eq_false (by omega))
    generalize kdW (kdS (tkF f n) τ) = K at *
    have GL : Hid (RS (tkF f n) (tkPos f n) m w0 (.slice a n c) p wr fin) := by show RS _ _ _ _ _ _ _ _; rw [HE2.out]; exact HS2.out.1
    go_wp2
    refine bodyPost_end (v := .tuple #[]) (by simp [results, Try.results98, go_sem]) rfl ⟨rfl, GL.out⟩
set_option maxHeartbeats 2000000 in
theorem path_once (E : Env w0 a n c f) (hl : LastK (tkF f n) m) (rec : (Nat × Nat × List Nd) ⊕ (Int × Int) → (Nat × Nat × List Nd) ⊕ (Int × Int)) (hr : ∀ σ, Up (tkF f n) m 0 σ (rec σ)) (i0 : Nat) (hrec : (∀ W p' s, i0 < s.1 → Okk (tkF f n) m s → p' ≤ 9000 → RS (tkF f n) (tkPos f n) m w0 (.slice a n c) p' W (.inl s) → Calls Try.prog 55 #[.pointer (some ⟨w0.heap.size, 0, none⟩)] W (FRet (tkF f n) (tkPos f n) m w0 (.slice a n c) p' (rec (.inl s))))) (w : World) (p : Nat) (hp : p ≤ 9000) (σ : (Nat × Nat × List Nd) ⊕ (Int × Int)) (h : RS (tkF f n) (tkPos f n) m w0 (.slice a n c) p w σ) (hok : OkS (tkF f n) m i0 σ) :
    Calls Try.prog 55 #[.pointer (some ⟨w0.heap.size, 0, none⟩)] w (FRet (tkF f n) (tkPos f n) m w0 (.slice a n c) p ((fun σ => loopF (tkF f n) (fun c => decide (c = 7 ∨ c = 8)) (fun c σ => emP ⟨c, [], []⟩ (meetF (tkF f n) (tkPos f n) m rec (tkP (tkF f n) (tkPos f n) c σ))) m (meetF (tkF f n) (tkPos f n) m rec σ)) σ)) := by
  have HE : Hid (Env w0 a n c f) := E
  have HL : Hid (LastK (tkF f n) m) := hl
  have HUP : Hid (∀ σ, Up (tkF f n) m 0 σ (rec σ)) := hr
  have HF1 : Hid (∀ W p' σ', p' ≤ 9000 → RS (tkF f n) (tkPos f n) m w0 (.slice a n c) p' W σ' → OkS (tkF f n) m i0 σ' → Calls Try.prog 98 #[.pointer (some ⟨w0.heap.size, 0, none⟩)] W (FRet (tkF f n) (tkPos f n) m w0 (.slice a n c) p' (meetF (tkF f n) (tkPos f n) m rec σ'))) := fun W p' σ' q1 q2 q3 => meet_rs HE.out HL.out rec hr i0 hrec W p' q1 σ' q2 q3
  have HO1 : Hid (OkS (tkF f n) m i0 (meetF (tkF f n) (tkPos f n) m rec σ)) := (hok.up (up_meet (A := (tkPos f n)) hl hr σ)).less (by omega)
  have HBU : Hid (∀ σ, (fun c => decide (c = 7 ∨ c = 8)) (kdS (tkF f n) σ) = true → Up (tkF f n) m 1 σ ((fun c σ => emP ⟨c, [], []⟩ (meetF (tkF f n) (tkPos f n) m rec (tkP (tkF f n) (tkPos f n) c σ))) (kdS (tkF f n) σ) σ)) := fun σ hb => (((up_tk HL.out (by have := of_decide_eq_true hb; omega) (by have := of_decide_eq_true hb; omega) σ).trans (up_meet HL.out HUP.out _)).em _).less (by omega)
  have HFIN : Hid (∃ fin, fin = (fun σ => loopF (tkF f n) (fun c => decide (c = 7 ∨ c = 8)) (fun c σ => emP ⟨c, [], []⟩ (meetF (tkF f n) (tkPos f n) m rec (tkP (tkF f n) (tkPos f n) c σ))) m (meetF (tkF f n) (tkPos f n) m rec σ)) σ) := ⟨_, rfl⟩
  obtain ⟨fin, hfin⟩ := HFIN.out
  rw [← hfin]
  have HLP : Hid (loopF (tkF f n) (fun c => decide (c = 7 ∨ c = 8)) (fun c σ => emP ⟨c, [], []⟩ (meetF (tkF f n) (tkPos f n) m rec (tkP (tkF f n) (tkPos f n) c σ))) m (meetF (tkF f n) (tkPos f n) m rec σ) = fin) := by show _ = _; rw [hfin]; first | done | rfl
  have HS : Hid (RS (tkF f n) (tkPos f n) m w0 (.slice a n c) p w σ ∧ OkS (tkF f n) m i0 σ) := ⟨h, hok⟩
  clear h hok E hl hrec hr hfin HFIN
  go_enter Try.func55, Try.ntmps55
  go_wp2_with fail
  refine (HF1.out w p σ hp HS.out.1 HS.out.2).mono ?_
  rintro e w1 ⟨rfl, h1⟩
  have HS1 : Hid (RS (tkF f n) (tkPos f n) m w0 (.slice a n c) p w1 (meetF (tkF f n) (tkPos f n) m rec σ)) := h1
  clear h1 HS
  go_wp2_with fail
  go_loopw [] (fun wr => LpI (w0 := w0) (.slice a n c) f n m i0 p (fun c => decide (c = 7 ∨ c = 8)) (fun c σ => emP ⟨c, [], []⟩ (meetF (tkF f n) (tkPos f n) m rec (tkP (tkF f n) (tkPos f n) c σ))) fin wr) (fun wr => mzr n w0.heap.size wr)
  case atStart => exact ⟨m, _, HS1.out, HO1.out, HLP.out, fun s _ => Nat.le_add_right _ _⟩
  case round =>
    obtain ⟨g, τ, hS, hO, hL, hM⟩ := hrel
    have HS2 : Hid (RS (tkF f n) (tkPos f n) m w0 (.slice a n c) p wr τ ∧ OkS (tkF f n) m i0 τ) := ⟨hS, hO⟩
    have HG : Hid (loopF (tkF f n) (fun c => decide (c = 7 ∨ c = 8)) (fun c σ => emP ⟨c, [], []⟩ (meetF (tkF f n) (tkPos f n) m rec (tkP (tkF f n) (tkPos f n) c σ))) g τ = fin ∧ ∀ s, τ = .inl s → m ≤ g + s.1) := ⟨hL, hM⟩
    have c2 := hS.kind
    have hlt := hS.bel.2
    have h15 := kdS_le f n τ
    clear hS hO hL hM HS1 HLP HO1
    by_cases hk : kdS (tkF f n) τ = 7
    · skip
      obtain ⟨s, rfl⟩ : ∃ s, τ = .inl s := kdS_inl (T := (tkF f n)) (by rw [hk]; omega)
      have hks : ((tkF f n) s.1).c = 7 := hk
      have p1 := HS2.out.1.pos HS2.out.2
      have HN : Hid (∃ g', loopF (tkF f n) (fun c => decide (c = 7 ∨ c = 8)) (fun c σ => emP ⟨c, [], []⟩ (meetF (tkF f n) (tkPos f n) m rec (tkP (tkF f n) (tkPos f n) c σ))) g' ((fun c σ => emP ⟨c, [], []⟩ (meetF (tkF f n) (tkPos f n) m rec (tkP (tkF f n) (tkPos f n) c σ))) ((tkF f n) s.1).c (.inl s)) = fin ∧ ∀ s', (fun c σ => emP ⟨c, [], []⟩ (meetF (tkF f n) (tkPos f n) m rec (tkP (tkF f n) (tkPos f n) c σ))) ((tkF f n) s.1).c (.inl s) = .inl s' → m ≤ g' + s'.1) := lp_go HG.out.1 (by show decide _ = true; exact decide_eq_true (by omega)) HS2.out.2 HG.out.2 (HBU.out (.inl s) (by show decide _ = true; exact decide_eq_true (by omega)))
      have HUB : Hid (Up (tkF f n) m 1 (.inl s) ((fun c σ => emP ⟨c, [], []⟩ (meetF (tkF f n) (tkPos f n) m rec (tkP (tkF f n) (tkPos f n) c σ))) ((tkF f n) s.1).c (.inl s))) := HBU.out (.inl s) (by show decide _ = true; exact decide_eq_true (by omega))
      have HS3 : Hid (RS (tkF f n) (tkPos f n) m w0 (.slice a n c) p wr (.inl s)) := HS2.out.1
      have HO3 : Hid (OkS (tkF f n) m i0 (.inl s)) := HS2.out.2
      have HKS : Hid (((tkF f n) s.1).c = 7) := hks
      rw [hk] at c2
      have c2' : wr.cell? ⟨w0.heap.size, 2, none⟩ = some (.string { data := #[124] }) := c2
      clear c2 hks hk HG HS2 HBU
      go_wp2_with fail
      refine (nodeKind_kd (c := 7) (by omega) (by omega) _).mono ?_
      rintro e w8 ⟨rfl, hw8⟩
      rw [hw8]
      clear hw8 w8
      go_wp2_with fail
      refine (tk_rs HE.out 7 { data := #[124] } rfl (by omega) (by omega) wr (.inl s) HS3.out HO3.out).mono ?_
      rintro e w2 ⟨q2, rfl, _, h2⟩
      have HS4 : Hid (RS (tkF f n) (tkPos f n) m w0 (.slice a n c) (p - 1) w2 (tkP (tkF f n) (tkPos f n) 7 (.inl s))) := h2
      have HO4 : Hid (OkS (tkF f n) m i0 (tkP (tkF f n) (tkPos f n) 7 (.inl s))) := (HO3.out.up (up_tk (A := (tkPos f n)) HL.out (c := 7) (by omega) (by omega) _)).less (by omega)
      clear h2
      go_wp2_with fail
      refine (HF1.out w2 (p - 1) (tkP (tkF f n) (tkPos f n) 7 (.inl s)) (by omega) HS4.out HO4.out).mono ?_
      rintro e w3 ⟨rfl, h3⟩
      have HS5 : Hid (RS (tkF f n) (tkPos f n) m w0 (.slice a n c) (p - 1) w3 (meetF (tkF f n) (tkPos f n) m rec (tkP (tkF f n) (tkPos f n) 7 (.inl s)))) := h3
      clear h3
      go_wp2_with fail
      refine (emit_rs HS5.out (by omega) ⟨7, [], []⟩ 7 { data := #[] } { data := #[] } rfl (fun _ => rfl) (fun _ => rfl) ⟨[], [], rfl, rfl⟩).mono ?_
      rintro e w4 ⟨rfl, h4⟩
      have HSB : Hid (RS (tkF f n) (tkPos f n) m w0 (.slice a n c) p w4 ((fun c σ => emP ⟨c, [], []⟩ (meetF (tkF f n) (tkPos f n) m rec (tkP (tkF f n) (tkPos f n) c σ))) ((tkF f n) s.1).c (.inl s))) := by show RS _ _ _ _ _ _ _ _; rw [HKS.out]; exact h4.more (by omega)
      clear h4
      go_wp2
      go_roundw
      case rel =>
        obtain ⟨g', e1, e2⟩ := HN.out
        exact ⟨g', _, HSB.out, (HO3.out.up HUB.out).less (by omega), e1, e2⟩
      case measure => exact mzr_less HS3.out HSB.out HUB.out (by rw [HKS.out]; omega)
    by_cases hk8 : kdS (tkF f n) τ = 8
    · have hk := hk8
      obtain ⟨s, rfl⟩ : ∃ s, τ = .inl s := kdS_inl (T := (tkF f n)) (by rw [hk]; omega)
      have hks : ((tkF f n) s.1).c = 8 := hk
      have p1 := HS2.out.1.pos HS2.out.2
      have HN : Hid (∃ g', loopF (tkF f n) (fun c => decide (c = 7 ∨ c = 8)) (fun c σ => emP ⟨c, [], []⟩ (meetF (tkF f n) (tkPos f n) m rec (tkP (tkF f n) (tkPos f n) c σ))) g' ((fun c σ => emP ⟨c, [], []⟩ (meetF (tkF f n) (tkPos f n) m rec (tkP (tkF f n) (tkPos f n) c σ))) ((tkF f n) s.1).c (.inl s)) = fin ∧ ∀ s', (fun c σ => emP ⟨c, [], []⟩ (meetF (tkF f n) (tkPos f n) m rec (tkP (tkF f n) (tkPos f n) c σ))) ((tkF f n) s.1).c (.inl s) = .inl s' → m ≤ g' + s'.1) := lp_go HG.out.1 (by show decide _ = true; exact decide_eq_true (by omega)) HS2.out.2 HG.out.2 (HBU.out (.inl s) (by show decide _ = true; exact decide_eq_true (by omega)))
      have HUB : Hid (Up (tkF f n) m 1 (.inl s) ((fun c σ => emP ⟨c, [], []⟩ (meetF (tkF f n) (tkPos f n) m rec (tkP (tkF f n) (tkPos f n) c σ))) ((tkF f n) s.1).c (.inl s))) := HBU.out (.inl s) (by show decide _ = true; exact decide_eq_true (by omega))
      have HS3 : Hid (RS (tkF f n) (tkPos f n) m w0 (.slice a n c) p wr (.inl s)) := HS2.out.1
      have HO3 : Hid (OkS (tkF f n) m i0 (.inl s)) := HS2.out.2
      have HKS : Hid (((tkF f n) s.1).c = 8) := hks
      rw [hk] at c2
      have c2' : wr.cell? ⟨w0.heap.size, 2, none⟩ = some (.string { data := #[45] }) := c2
      clear c2 hks hk HG HS2 HBU
      go_wp2_with fail
      refine (nodeKind_kd (c := 8) (by omega) (by omega) _).mono ?_
      rintro e w8 ⟨rfl, hw8⟩
      rw [hw8]
      clear hw8 w8
      go_wp2_with fail
      refine (tk_rs HE.out 8 { data := #[45] } rfl (by omega) (by omega) wr (.inl s) HS3.out HO3.out).mono ?_
      rintro e w2 ⟨q2, rfl, _, h2⟩
      have HS4 : Hid (RS (tkF f n) (tkPos f n) m w0 (.slice a n c) (p - 1) w2 (tkP (tkF f n) (tkPos f n) 8 (.inl s))) := h2
      have HO4 : Hid (OkS (tkF f n) m i0 (tkP (tkF f n) (tkPos f n) 8 (.inl s))) := (HO3.out.up (up_tk (A := (tkPos f n)) HL.out (c := 8) (by omega) (by omega) _)).less (by omega)
      clear h2
      go_wp2_with fail
      refine (HF1.out w2 (p - 1) (tkP (tkF f n) (tkPos f n) 8 (.inl s)) (by omega) HS4.out HO4.out).mono ?_
      rintro e w3 ⟨rfl, h3⟩
      have HS5 : Hid (RS (tkF f n) (tkPos f n) m w0 (.slice a n c) (p - 1) w3 (meetF (tkF f n) (tkPos f n) m rec (tkP (tkF f n) (tkPos f n) 8 (.inl s)))) := h3
      clear h3
      go_wp2_with fail
      refine (emit_rs HS5.out (by omega) ⟨8, [], []⟩ 8 { data := #[] } { data := #[] } rfl (fun _ => rfl) (fun _ => rfl) ⟨[], [], rfl, rfl⟩).mono ?_
      rintro e w4 ⟨rfl, h4⟩
      have HSB : Hid (RS (tkF f n) (tkPos f n) m w0 (.slice a n c) p w4 ((fun c σ => emP ⟨c, [], []⟩ (meetF (tkF f n) (tkPos f n) m rec (tkP (tkF f n) (tkPos f n) c σ))) ((tkF f n) s.1).c (.inl s))) := by show RS _ _ _ _ _ _ _ _; rw [HKS.out]; exact h4.more (by omega)
      clear h4
      go_wp2
      go_roundw
      case rel =>
        obtain ⟨g', e1, e2⟩ := HN.out
        exact ⟨g', _, HSB.out, (HO3.out.up HUB.out).less (by omega), e1, e2⟩
      case measure => exact mzr_less HS3.out HSB.out HUB.out (by rw [HKS.out]; omega)
    obtain ⟨n1, n1'⟩ := kdW_no [124] (k := 7) rfl h15 (by omega) hk
    obtain ⟨n2, n2'⟩ := kdW_no [45] (k := 8) rfl h15 (by omega) hk8
    have HE2 : Hid (fin = τ) := lp_stop HG.out.1 (by show decide _ = false; exact decide_eq_false (by omega))
    generalize kdW (kdS (tkF f n) τ) = K at *
    have GL : Hid (RS (tkF f n) (tkPos f n) m w0 (.slice a n c) p wr fin) := by show RS _ _ _ _ _ _ _ _; rw [HE2.out]; exact HS2.out.1
    go_wp2
    refine bodyPost_end (v := .tuple #[]) (by simp [results, Try.results55, go_sem]) rfl ⟨rfl, GL.out⟩
/-- The whole reader, by induction on how many tokens are left. -/
theorem path_rs (E : Env w0 a n c f) (hl : LastK (tkF f n) m) : ∀ (g : Nat) (w : World) (p : Nat) (σ : (Nat × Nat × List Nd) ⊕ (Int × Int)), p ≤ 9000 → RS (tkF f n) (tkPos f n) m w0 (.slice a n c) p w σ → OkS (tkF f n) m 0 σ → 1 ≤ g → (∀ s, σ = .inl s → m ≤ g + s.1) →
    Calls Try.prog 55 #[.pointer (some ⟨w0.heap.size, 0, none⟩)] w (FRet (tkF f n) (tkPos f n) m w0 (.slice a n c) p (pathF (tkF f n) (tkPos f n) m g σ))
  | 0, _, _, _, _, _, _, h, _ => absurd h (by omega)
  | g + 1, w, p, σ, hp, h, ho, _, hm => by
    cases σ with
    | inr x =>
      exact path_once E hl (pathF (tkF f n) (tkPos f n) m g) (up_path hl g) m (fun W p' s q1 q2 _ _ => absurd q2.1 (by omega)) w p hp (.inr x) h (fun s e => by cases e)
    | inl s =>
      have hms := hm s rfl
      refine path_once E hl (pathF (tkF f n) (tkPos f n) m g) (up_path hl g) s.1 (fun W p' s' q1 q2 q3 q4 => ?_) w p hp (.inl s) h (fun s' e => by cases e; exact ⟨(ho s rfl).1, Nat.le_refl _⟩)
      have := q2.1
      exact path_rs E hl g W p' (.inl s') q3 q4 (fun s2 e => by cases e; exact ⟨q2, Nat.zero_le _⟩) (by omega) (fun s2 e => by cases e; omega)
end
end Go.Proofs.Ytocmbnocdjnfpaa

namespace Go.Proofs.Ytocmbnocdjnfpaa
open Go.RowKit Go.Deep
set_option linter.unusedVariables false
set_option linter.unusedSimpArgs false
set_option maxRecDepth 100000

set_option maxHeartbeats 2000000 in
theorem implPa (a : Option Addr) (n c m : Nat) (f : Nat → Int) (w : World) (h : Rd .u8 w a n f) (hnc : n ≤ c) (hcm : c ≤ 9223372036854775807) (hf : ∀ i, i < n → 0 ≤ f i ∧ f i < 256) (hmx : ∃ m, w.cell? ⟨0, 0, none⟩ = some (.int .i64 m)) (hl : LastK (tkF f n) m) (hmn : m ≤ n + 1) :
    Calls Try.prog 22 #[.slice a n c] w (PaRet f n m w) := by
  by_cases hn : 2000 < n
  · have hn' : (2000 : Int) < (n : Int) := by omega
    have HF : Hid (∀ o, PaRet f n m w (.returned (PVal 1 0 (.slice none 0 0))) (w.alloc o)) := fun o => ⟨1, 0, _, [], rfl, .inl ⟨hn, rfl, rfl, rfl⟩, NdA.nil _ _, below_alloc _ _⟩
    clear h hf hmx hl
    go_enter Try.func22, Try.ntmps22
    go_wp2
    refine bodyPost_ret (v := PVal 1 0 (.slice none 0 0)) (by simp [PVal, results, Try.results22, go_sem]) rfl (HF.out _)
  · have hn' : ¬ (2000 : Int) < (n : Int) := by omega
    obtain ⟨w1, hw1⟩ : ∃ w1, w1 = w.alloc (.cells #[.int .i64 0, .int .i64 0, .slice none 0 0] 40) := ⟨_, rfl⟩
    have hb1 : Below w.heap.size w w1 := by rw [hw1]; exact below_alloc _ _
    have hz1 : w1.heap.size = w.heap.size + 1 := by rw [hw1]; simp
    have k0 : w1.cell? ⟨w.heap.size, 0, none⟩ = some (.int .i64 0) := by rw [hw1]; simp
    have k1 : w1.cell? ⟨w.heap.size, 1, none⟩ = some (.int .i64 0) := by rw [hw1]; simp
    have k2 : w1.cell? ⟨w.heap.size, 2, none⟩ = some (.slice none 0 0) := by rw [hw1]; simp
    have kf : ∀ o, w1.frozen? ⟨w.heap.size, o, none⟩ = false := fun o => by rw [hw1]; simp
    have HEnv : Hid (Env w1 a n c f) := ⟨h.below hb1, by omega, hnc, hcm, hf, by
      obtain ⟨mx, hm⟩ := hmx
      exact ⟨mx, by rw [hb1.cell (p := ⟨0, 0, none⟩) (World.block_lt_of_cell? _ _ hm)]; exact hm⟩⟩
    have HL : Hid (LastK (tkF f n) m) := hl
    have hm0 : 0 < m := hl.1
    have hm1 : m ≤ 2001 := by omega
    have HB1 : Hid (Below w.heap.size w w1 ∧ w1.heap.size = w.heap.size + 1) := ⟨hb1, hz1⟩
    have R0 : RdS w1 (.slice a n c) (w1.alloc (.cells #[.slice a n c, .int .i64 0, .string { data := #[] }, .int .i64 0, .string { data := #[] }, .slice none 0 0, .int .i64 0, .int .i64 0, .int .i64 0] 86)) ((0 : Nat) : Int) 0 ((0 : Nat) : Int) 0 0 { data := #[] } { data := #[] } (.slice none 0 0) [] := ⟨RB.new _ _, NdA.nil _ _, below_alloc _ _⟩
    have HA : Hid (Calls Try.prog 54 #[.pointer (some ⟨w1.heap.size, 0, none⟩)] (w1.alloc (.cells #[.slice a n c, .int .i64 0, .string { data := #[] }, .int .i64 0, .string { data := #[] }, .slice none 0 0, .int .i64 0, .int .i64 0, .int .i64 0] 86)) fun r w' => r = .returned (.tuple #[]) ∧ RS (tkF f n) (tkPos f n) m w1 (.slice a n c) m w' (nrm (tkF f n) (tkPos f n) 0 0 [])) := advance_any HEnv.out _ m 0 0 0 m 0 _ _ _ [] R0 (Nat.zero_le _) rfl (by simp)
    have HO0 : Hid (OkS (tkF f n) m 0 (nrm (tkF f n) (tkPos f n) 0 0 [])) := fun s e => by
      obtain ⟨rfl, h0⟩ := nrm_inv e
      exact ⟨⟨hm0, h0, by show 0 ≤ 100; omega⟩, Nat.zero_le _⟩
    have HP : Hid (∀ W, RS (tkF f n) (tkPos f n) m w1 (.slice a n c) m W (nrm (tkF f n) (tkPos f n) 0 0 []) → Calls Try.prog 55 #[.pointer (some ⟨w1.heap.size, 0, none⟩)] W (FRet (tkF f n) (tkPos f n) m w1 (.slice a n c) m (pathF (tkF f n) (tkPos f n) m m (nrm (tkF f n) (tkPos f n) 0 0 [])))) := fun W hW => path_rs HEnv.out HL.out m W m _ (by omega) hW HO0.out (by omega) (fun s _ => Nat.le_add_right _ _)
    have HO1 : Hid (OkS (tkF f n) m 0 (pathF (tkF f n) (tkPos f n) m m (nrm (tkF f n) (tkPos f n) 0 0 []))) := HO0.out.up (up_path HL.out m _)
    have HT : Hid (∀ W, RS (tkF f n) (tkPos f n) m w1 (.slice a n c) m W (pathF (tkF f n) (tkPos f n) m m (nrm (tkF f n) (tkPos f n) 0 0 [])) → Calls Try.prog 56 #[.pointer (some ⟨w1.heap.size, 0, none⟩), .string { data := #[101, 110, 100, 32, 111, 102, 32, 116, 104, 101, 32, 116, 101, 120, 116] }] W fun e w' => ∃ q, e = .returned (.string (strT q)) ∧ (15 = 14 → q = tkQ (tkF f n) (pathF (tkF f n) (tkPos f n) m m (nrm (tkF f n) (tkPos f n) 0 0 []))) ∧ RS (tkF f n) (tkPos f n) m w1 (.slice a n c) (m - dl (pathF (tkF f n) (tkPos f n) m m (nrm (tkF f n) (tkPos f n) 0 0 []))) w' (topF (tkF f n) (tkPos f n) m)) := fun W hW => tk_rs HEnv.out 15 _ rfl (by omega) (by omega) W _ hW HO1.out
    have HTOP : Hid (∀ s, topF (tkF f n) (tkPos f n) m = .inl s → Tr s.2.2 ∧ (∀ x, x ∈ s.2.2 → gdN x) ∧ s.2.2.length ≤ 100) := fun s e => by
      obtain ⟨i3, nd3, N3, e3, _, q3, _⟩ := tk_inv e
      have hpc : ∃ z, nrm (tkF f n) (tkPos f n) 0 0 [] = .inl z := by
        cases hz : nrm (tkF f n) (tkPos f n) 0 0 [] with
        | inl z => exact ⟨z, rfl⟩
        | inr x =>
          rw [hz] at e3
          have : pathF (tkF f n) (tkPos f n) m m (.inr x) = .inr x := by
            cases m with
            | zero => rfl
            | succ g => rfl
          rw [this] at e3
          cases e3
      obtain ⟨z, hz⟩ := hpc
      obtain ⟨rfl, h0⟩ := nrm_inv hz
      rw [hz] at e3
      have pc := pc_pathF (tk14 HEnv.out.byt) HL.out m 0 0 [] hm0 (by omega) h0 (by omega) (A := (tkPos f n))
      rw [e3] at pc
      obtain ⟨d, g1, g2, g3, g4, g5, _⟩ := pc
      have g1' : N3 = d := by have : N3 = [] ++ d := g1; simpa using this
      have g4' : nd3 = 0 + d.length := g4
      have g5' : nd3 ≤ 100 := g5
      rw [q3]
      show Tr N3 ∧ (∀ x, x ∈ N3 → gdN x) ∧ N3.length ≤ 100
      rw [g1']
      exact ⟨g2, g3, by omega⟩
    clear h hf hmx hl R0 hb1 HO0 HO1 hz1
    go_enter Try.func22, Try.ntmps22
    go_upto_region 3 with fail
    rw [← hw1]
    clear hw1
    go_upto_region 4 with fail
    go_wp2_with fail
    refine HA.out.mono ?_
    rintro e w3 ⟨rfl, h3⟩
    have G3 : Hid (RS (tkF f n) (tkPos f n) m w1 (.slice a n c) m w3 (nrm (tkF f n) (tkPos f n) 0 0 [])) := h3
    clear h3 HA
    go_wp2_with fail
    refine (HP.out w3 G3.out).mono ?_
    rintro e w4 ⟨rfl, h4⟩
    have G4 : Hid (RS (tkF f n) (tkPos f n) m w1 (.slice a n c) m w4 (pathF (tkF f n) (tkPos f n) m m (nrm (tkF f n) (tkPos f n) 0 0 []))) := h4
    clear h4 HP G3
    go_wp2_with fail
    refine (HT.out w4 G4.out).mono ?_
    rintro e w5 ⟨q5, rfl, _, h5⟩
    have G5 : Hid (RS (tkF f n) (tkPos f n) m w1 (.slice a n c) m w5 (topF (tkF f n) (tkPos f n) m)) := h5.more (by omega)
    clear h5 HT G4
    have e1 : w1.heap.size = w.heap.size + 1 := HB1.out.2
    have hb5 := G5.out.bel
    have HB5 : Hid (Below w.heap.size w w5) := HB1.out.1.trans (hb5.1.mono (by omega))
    have z5 : w.heap.size + 1 < w5.heap.size := by have := hb5.2; omega
    have j0 : w5.cell? ⟨w.heap.size, 0, none⟩ = some (.int .i64 0) := by rw [hb5.1.cell (p := ⟨w.heap.size, 0, none⟩) (by show w.heap.size < _; omega)]; exact k0
    have j1 : w5.cell? ⟨w.heap.size, 1, none⟩ = some (.int .i64 0) := by rw [hb5.1.cell (p := ⟨w.heap.size, 1, none⟩) (by show w.heap.size < _; omega)]; exact k1
    have j2 : w5.cell? ⟨w.heap.size, 2, none⟩ = some (.slice none 0 0) := by rw [hb5.1.cell (p := ⟨w.heap.size, 2, none⟩) (by show w.heap.size < _; omega)]; exact k2
    have jf : ∀ o, w5.frozen? ⟨w.heap.size, o, none⟩ = false := fun o => by rw [hb5.1.frozen (p := ⟨w.heap.size, o, none⟩) (by show w.heap.size < _; omega)]; exact kf o
    clear hb5 k0 k1 k2 kf
    cases htop : topF (tkF f n) (tkPos f n) m with
    | inr x =>
      have G6 : RS (tkF f n) (tkPos f n) m w1 (.slice a n c) m w5 (.inr x) := by rw [← htop]; exact G5.out
      obtain ⟨bh, ta, mk, ct, vn, N, g1, _, g3⟩ := G6
      obtain ⟨c0, c1, c2, c3, c4, c5, c6, c7, c8⟩ := g1.cells
      rw [e1] at c7 c8 ⊢
      obtain ⟨er, at_⟩ := x
      have d7 : w5.cell? ⟨w.heap.size + 1, 7, none⟩ = some (.int .i64 er) := c7
      have d8 : w5.cell? ⟨w.heap.size + 1, 8, none⟩ = some (.int .i64 at_) := c8
      have her : ¬ er = 0 := g3
      have der : (er == 0) = false := by simp [her]
      have HF : Hid (∀ w', Below w.heap.size w w' → PaRet f n m w (.returned (PVal er at_ (.slice none 0 0))) w') := fun w' hb => ⟨er, at_, _, [], rfl, .inr (.inl ⟨by omega, _, htop, her, rfl, rfl, rfl⟩), NdA.nil _ _, hb⟩
      clear c0 c1 c2 c3 c4 c5 c6 c7 c8 g1 g3 htop HTOP G5 e1
      go_wp2_with fail
      refine wp_region_late (S := fun W => W.cell? ⟨w.heap.size + 1, 7, none⟩ = some (.int .i64 er) ∧ W.cell? ⟨w.heap.size + 1, 8, none⟩ = some (.int .i64 at_)) 9 (by kernel_rfl) ⟨d7, d8⟩ (fun hHeld => ?_)
      refine tk 0 .zero (v := ?_) ?_ ?_
      rotate_left
      · (intro wz hSw; obtain ⟨z7, z8⟩ := hSw; go_simp) <;> with_reducible rfl
      simp only [tkp]
      refine tk 1 (.succ .zero) (v := ?_) ?_ ?_
      rotate_left
      · (intro wz hSw; obtain ⟨z7, z8⟩ := hSw; go_simp) <;> with_reducible rfl
      simp only [tkp]
      refine tk 2 (.succ (.succ .zero)) (v := ?_) ?_ ?_
      rotate_left
      · (intro wz hSw; obtain ⟨z7, z8⟩ := hSw; go_simp) <;> with_reducible rfl
      simp only [tkp]
      refine tk 3 (.succ (.succ (.succ .zero))) (v := ?_) ?_ ?_
      rotate_left
      · (intro wz hSw; obtain ⟨z7, z8⟩ := hSw; go_simp) <;> with_reducible rfl
      simp only [tkp]
      refine tk 4 (.succ (.succ (.succ (.succ .zero)))) (v := ?_) ?_ ?_
      rotate_left
      · (intro wz hSw; obtain ⟨z7, z8⟩ := hSw; go_simp) <;> with_reducible rfl
      simp only [tkp]
      refine tk 5 (.succ (.succ (.succ (.succ (.succ .zero))))) (v := ?_) ?_ ?_
      rotate_left
      · (intro wz hSw; obtain ⟨z7, z8⟩ := hSw; go_simp) <;> with_reducible rfl
      simp only [tkp]
      refine tk 6 (.succ (.succ (.succ (.succ (.succ (.succ .zero)))))) (v := ?_) ?_ ?_
      rotate_left
      · (intro wz hSw; obtain ⟨z7, z8⟩ := hSw; go_simp) <;> with_reducible rfl
      simp only [tkp]
      refine tk 7 (.succ (.succ (.succ (.succ (.succ (.succ (.succ .zero))))))) (v := ?_) ?_ ?_
      rotate_left
      · (intro wz hSw; obtain ⟨z7, z8⟩ := hSw; go_simp) <;> with_reducible rfl
      simp only [tkp]
      refine tk 8 (.succ (.succ (.succ (.succ (.succ (.succ (.succ (.succ .zero)))))))) (v := ?_) ?_ ?_
      rotate_left
      · (intro wz hSw; obtain ⟨z7, z8⟩ := hSw; go_simp) <;> with_reducible rfl
      simp only [tkp]
      refine tk1 9 (.succ (.succ (.succ (.succ (.succ (.succ (.succ (.succ (.succ .zero))))))))) (fun K hK => ?_)
      go_simp
      refine hK.out _ _ (fun hne => absurd rfl hne) (fun _ => ?_)
      clear hK K
      try simp only [tkp]
      refine wpLate_done (by kernel_rfl) ?_ _
      go_wp2
      refine bodyPost_ret (v := PVal er at_ (.slice none 0 0)) (by simp [PVal, results, Try.results22, go_sem, j0, j1, j2]) rfl (HF.out _ ?_)
      exact (((HB5.out.drew).setCell (by simp) _).setCell (by simp) _).setCell (by simp) _
    | inl s =>
      obtain ⟨hT1, hT2, hT3⟩ := HTOP.out s htop
      have G6 : RS (tkF f n) (tkPos f n) m w1 (.slice a n c) m w5 (.inl s) := by rw [← htop]; exact G5.out
      obtain ⟨vn, g1, _, _⟩ := G6
      obtain ⟨c0, c1, c2, c3, c4, c5, c6, c7, c8⟩ := g1.cells
      obtain ⟨i, nd, N⟩ := s
      have hnd : NdA w5 (w1.heap.size + 1) vn N := g1.nd
      have hlen : N.length ≤ 100 := hT3
      obtain ⟨av, cv, ev, hlc, hcm2, hrd⟩ := hnd.rd
      subst ev
      rw [e1] at c5 c7 hnd ⊢
      have d5 : w5.cell? ⟨w.heap.size + 1, 5, none⟩ = some (.slice av N.length cv) := c5
      have d7 : w5.cell? ⟨w.heap.size + 1, 7, none⟩ = some (.int .i64 0) := c7
      have HND : Hid (NdA w5 (w.heap.size + 1 + 1) (.slice av N.length cv) N ∧ RdN w5 av N.length (nI N) (nX N) (nR N)) := ⟨hnd, hrd⟩
      have HTT : Hid (topF (tkF f n) (tkPos f n) m = .inl (i, nd, N)) := htop
      clear c0 c1 c2 c3 c4 c5 c6 c7 c8 g1 htop HTOP G5 e1 hnd hrd hT1 hT2 hT3
      obtain ⟨L, hL⟩ : ∃ L, L = N.length := ⟨_, rfl⟩
      have HLL : Hid (L = N.length) := hL
      rw [← hL] at d5 hlc HND hlen
      clear hL
      have HV : Hid (∀ W, Below w5.heap.size w5 W → Calls Try.prog 12 #[.agg #[.slice av L cv]] W (AnsN W (VPth L (nI N) (nX N) (nR N)))) := fun W hW => implVP av L cv _ _ _ W (HND.out.2.below hW) (by omega) hlc hcm2
      go_wp2_with fail
      refine (HV.out _ (below_alloc _ _)).mono ?_
      rintro e w6 ⟨bb, rfl, hbb, hb6⟩
      have HB6 : Hid (Below w.heap.size w w6) := (HB5.out.alloc (by omega) _).trans (hb6.mono (by simp; omega))
      have hb56 : Below w5.heap.size w5 w6 := (below_alloc _ _).trans (hb6.mono (by simp))
      have z6 : w5.heap.size < w6.heap.size := by have := hb6.size; simp at this; omega
      have HN6 : Hid (NdA w6 (w.heap.size + 1 + 1) (.slice av L cv) N) := HND.out.1.below hb56
      have p0 : w6.cell? ⟨w5.heap.size, 0, none⟩ = some (.slice av L cv) := by rw [hb6.cell (p := ⟨w5.heap.size, 0, none⟩) (by simp)]; simp
      have s0 : w6.cell? ⟨w.heap.size, 0, none⟩ = some (.int .i64 0) := by rw [hb56.cell (p := ⟨w.heap.size, 0, none⟩) (by show w.heap.size < _; omega)]; exact j0
      have s1 : w6.cell? ⟨w.heap.size, 1, none⟩ = some (.int .i64 0) := by rw [hb56.cell (p := ⟨w.heap.size, 1, none⟩) (by show w.heap.size < _; omega)]; exact j1
      have s2 : w6.cell? ⟨w.heap.size, 2, none⟩ = some (.slice none 0 0) := by rw [hb56.cell (p := ⟨w.heap.size, 2, none⟩) (by show w.heap.size < _; omega)]; exact j2
      have sf : ∀ o, w6.frozen? ⟨w.heap.size, o, none⟩ = false := fun o => by rw [hb56.frozen (p := ⟨w.heap.size, o, none⟩) (by show w.heap.size < _; omega)]; exact jf o
      clear hb6 hb56 HV HND j0 j1 j2 jf d5 d7
      generalize w5.heap.size = b5 at *
      cases bb with
      | false =>
        have HF : Hid (∀ w', Below w.heap.size w w' → PaRet f n m w (.returned (PVal 5 n (.slice none 0 0))) w') := fun w' hb => ⟨5, n, _, [], rfl, .inr (.inr (.inl ⟨by omega, _, HTT.out, fun hv => absurd (hbb.2 (by rw [HLL.out]; exact hv)) (by decide), rfl, rfl, rfl⟩)), NdA.nil _ _, hb⟩
        clear hbb
        go_wp2
        refine bodyPost_ret (v := PVal 5 n (.slice none 0 0)) (by simp [PVal, results, Try.results22, go_sem, s0, s1, s2]) rfl (HF.out _ ?_)
        exact ((HB6.out.setCell (by simp) _).setCell (by simp) _).setCell (by simp) _
      | true =>
        have HF : Hid (∀ w', Below w.heap.size w w' → NdA w' (w.heap.size + 1 + 1) (.slice av L cv) N → PaRet f n m w (.returned (PVal 0 0 (.slice av L cv))) w') := fun w' hb hnd => ⟨0, 0, _, N, rfl, .inr (.inr (.inr ⟨by omega, _, HTT.out, by have := hbb.1 rfl; rw [HLL.out] at this; exact this, rfl, rfl, rfl⟩)), hnd.mono (by omega), hb⟩
        clear hbb
        have HBL : Hid (∀ u0 u1 u2 : Value, NdA (((w6.setCell ⟨w.heap.size, 0, none⟩ u0).setCell ⟨w.heap.size, 1, none⟩ u1).setCell ⟨w.heap.size, 2, none⟩ u2) (w.heap.size + 1 + 1) (.slice av L cv) N) := fun u0 u1 u2 => ((HN6.out.setLow (by show w.heap.size < _; omega) _).setLow (by show w.heap.size < _; omega) _).setLow (by show w.heap.size < _; omega) _
        go_wp2
        refine bodyPost_ret (v := PVal 0 0 (.slice av L cv)) (by simp [PVal, results, Try.results22, go_sem, s0, s1, s2]) rfl (HF.out _ ?_ ?_)
        · exact ((HB6.out.setCell (by simp) _).setCell (by simp) _).setCell (by simp) _
        · exact HBL.out _ _ _
end Go.Proofs.Ytocmbnocdjnfpaa

namespace Go.Proofs.Ytocmbnocdjnfpaa
open Go.RowKit Go.Deep
set_option linter.unusedVariables false
set_option linter.unusedSimpArgs false
set_option maxRecDepth 100000

set_option maxHeartbeats 4000000 in
theorem lwNodes_eq (a a' : Option Addr) (n c c' : Nat) (I : Nat → Int) (X R : Nat → ByteArray) (w : World) (h : RdN w a n I X R) (h' : RdN w a' n I X R) (hn : n ≤ 1048576) :
    Calls Try.prog 23 #[.slice a n c, .slice a' n c'] w fun e w' => e = .returned (.bool true) ∧ Below w.heap.size w w' := by
  have H : Hid (RdN w a n I X R ∧ RdN w a' n I X R) := ⟨h, h'⟩
  clear h h'
  go_enter Try.func23, Try.ntmps23
  go_wp2_with fail
  go_loopw [5] (fun i wr => ∃ j : Nat, i = .int .i64 (j : Int) ∧ j ≤ n ∧ Below w.heap.size w wr) (fun i _ => n - (intOf i).toNat)
  case atStart => exact ⟨0, rfl, Nat.zero_le _, Below.refl _ _⟩
  case round =>
    obtain ⟨j, rfl, hj, hb⟩ := hrel
    have HB : Hid (Below w.heap.size w wr) := hb
    clear hb
    by_cases hlt : j < n
    · have ij : (j : Int) < (n : Int) := by omega
      have hr1 := H.out.1.below HB.out
      have hr2 := H.out.2.below HB.out
      obtain h0 | ⟨b, o, rfl, hc⟩ := hr1
      · omega
      obtain h0 | ⟨b', o', rfl, hc'⟩ := hr2
      · omega
      obtain ⟨k0, k1, k2⟩ := hc j hlt
      obtain ⟨l0, l1, l2⟩ := hc' j hlt
      clear hc hc' H
      have h1 : (I j != I j) = false := by simp
      have h2 : ((R j).toList == (R j).toList) = true := by simp
      have h3 : ((X j).toList == (X j).toList) = true := by simp
      go_wp2
      go_region
      have HX : Hid (Below w.heap.size w wr.drew) := HB.out.drew
      clear k0 k1 k2 l0 l1 l2 HB
      go_wp2
      go_roundw
      case rel => exact ⟨j + 1, by go_num, by omega, HX.out⟩
      case measure => simp [intOf]; omega
    · have ij : ¬ (j : Int) < (n : Int) := by omega
      go_wp2
      go_ret
      exact ⟨rfl, HB.out⟩
theorem lwBytes_eq (a a' : Option Addr) (n c c' : Nat) (q : List Int) (hn : n = q.length) (w : World) (h : Rd .u8 w a n (lf q)) (h' : Rd .u8 w a' n (lf q)) :
    Calls Try.prog 21 #[.slice a n c, .slice a' n c'] w fun e w' => e = .returned (.bool true) ∧ Below w.heap.size w w' := by
  have c1 := conv_T (w := w) n c hn h
  have c2 := conv_T (w := w) n c' hn h'
  have e0 : ((strT q).toList == (strT q).toList) = true := by simp
  clear h h' hn
  generalize strT q = Y at *
  go_enter Try.func21, Try.ntmps21
  go_wp2

  go_ret
  exact ⟨rfl, Below.refl _ _⟩
end Go.Proofs.Ytocmbnocdjnfpaa

namespace Go.Proofs.Ytocmbnocdjnfpaa
open Go.ChangeShapes Go.WideShapes Go.ChangeAt Go.RowKit Go.Deep Go.Joins
set_option maxRecDepth 100000

section
variable {H : Type} {enc : TypeId × Value → H} {W : World}

theorem spot_of {w : World} {a : Addr} {v : Value} (h : w.cell? (a.add 0) = some v) : a.spot = none := by
  obtain ⟨b, off, spot⟩ := a
  simpa [Addr.add] using World.cell?_spot h

theorem add_eq {b off i : Nat} : (Addr.add ⟨b, off, none⟩ i) = ⟨b, off + i, none⟩ := by
  unfold Addr.add
  by_cases h : i = 0
  · subst h; simp
  · simp [h]

set_option maxRecDepth 100000 in
theorem bytes_of {fuel : Nat} {cs : List Value} {x : DataW H × List MemPlace} (h : DataW.trod enc Try.prog W 0 (fun _ => true) true fuel 33 cs = some x) :
    ∃ a n c f, cs = [.slice a n c] ∧ Rd .u8 W a n f ∧ (∀ i, i < n → 0 ≤ f i ∧ f i < 256) ∧ n ≤ maxLen := by
  rcases open_ints Try.underlying33 Try.underlying5 (by kernel_rfl) h with ⟨hcs, _⟩ | ⟨y, l, c, zs, hcs, _, hl, hm, hz, _, hcell, hwz⟩
  · exact ⟨none, 0, 0, fun _ => 0, hcs, Or.inl rfl, fun i hi => absurd hi (Nat.not_lt_zero _), Nat.zero_le _⟩
  · refine ⟨_, l, c, fun i => zs.getD i 0, hcs, ?_, fun i hi => ?_, by omega⟩
    · by_cases h0 : l = 0
      · exact Or.inl h0
      · simp at hz
        obtain ⟨b, off, spot⟩ := y
        have hs := spot_of (hcell 0 (by omega))
        simp at hs
        subst hs
        exact Or.inr ⟨b, off, rfl, fun i hi => by rw [← add_eq]; exact hcell i (by omega)⟩
    · simp at hz
      have hiz : i < zs.length := by omega
      have hw := hwz (zs.getD i 0) (by rw [List.getD_eq_getElem?_getD, List.getElem?_eq_getElem hiz]; exact List.getElem_mem hiz)
      have := bounds_u8 hw
      show 0 ≤ zs.getD i 0 ∧ zs.getD i 0 < 256
      omega

/-- What the walk is told of a slice of bytes that came in. -/
def IsBytesR (w : World) (v : Value) : Prop := ∃ a n c f, v = .slice a n c ∧ Rd .u8 w a n f ∧ (∀ i, i < n → 0 ≤ f i ∧ f i < 256) ∧ n ≤ maxLen

theorem openByteR {r : Reach} {b0 : Nat} {v : Value} {d : DataW H} {p : List MemPlace} (hv : Value.okWide Try.prog W r b0 33 v) (h : DataW.Trod enc Try.prog W 0 (fun _ => true) true 33 v d p) : IsBytesR W v := by
  obtain ⟨a0, len, cap, rfl⟩ := okWide_slice Try.underlying33 hv
  obtain ⟨fuel, hf⟩ := h
  obtain ⟨a, n, c, f, hcs, h1, h3, h2⟩ := bytes_of hf
  simp [Value.cells] at hcs
  obtain ⟨rfl, rfl, rfl⟩ := hcs
  exact ⟨_, _, _, f, rfl, h1, h3, h2⟩
end
end Go.Proofs.Ytocmbnocdjnfpaa

namespace Go.Proofs.Ytocmbnocdjnfpaa
open Go.RowKit Go.Deep
set_option linter.unusedVariables false
set_option linter.unusedSimpArgs false
set_option maxRecDepth 100000

theorem catOk : CatOk := fun b m PL w h hm h1 h2 => (l2Cat_l b 0 m m PL w h hm h1 h2).mono fun e w' ⟨a', c', q1, q2, q3, q4, q5⟩ => ⟨a', c', q1, ⟨q2, q4, q5⟩, q3⟩
theorem showOk : ShowOk := fun l v B w hs hl hn => by
  obtain ⟨h0, hb⟩ := trW_begins hs.1 hs.2
  have hg : GdN l.length (nI l) (nX l) (nR l) := fun i hi => gdW_cells hs.2 i hi
  obtain ⟨a, c, rfl, h1, h2, hrd⟩ := hn.rd
  obtain ⟨m, hm⟩ : ∃ m, l.length = m + 1 := ⟨l.length - 1, by omega⟩
  rcases hrd with q | ⟨bb, o, rfl, hc⟩
  · omega
  have hh := l6Show_any hg 1000 bb o 0 m c w (.inr ⟨bb, o, rfl, by rw [← hm]; simpa using hc⟩) (by omega) (by omega) (by omega) h2 (by omega) (by rw [← hm]; simpa using hb)
  rw [← hm] at hh
  refine hh.mono fun e w' ⟨a', c', q1, q2, q3, q4, q5⟩ => ?_
  have e : 0 + m = l.length - 1 := by omega
  rw [e] at q1 q2 q4 q5
  exact ⟨a', c', q1, ⟨q2, q4, q5⟩, q3⟩
theorem T_pos (I : Nat → Int) (X R : Nat → ByteArray) (i : Nat) (hk : 1 ≤ I i ∧ I i ≤ 9) : 0 < (T I X R i).length := by
  rw [T_eq]
  unfold nodeT
  have h9 : I i = 1 ∨ I i = 2 ∨ I i = 3 ∨ I i = 4 ∨ I i = 5 ∨ I i = 6 ∨ I i = 7 ∨ I i = 8 ∨ I i = 9 := by omega
  rcases h9 with e | e | e | e | e | e | e | e | e <;> rw [e] <;> simp [nodeP] <;> omega
theorem lastK_ex' (f : Nat → Int) (n : Nat) : ∃ m, LastK (tkF f n) m ∧ m ≤ n + 1 := by
  obtain ⟨m0, hm0, hm1, _⟩ := tk_last f n
  exact ⟨m0 + 1, ⟨Nat.succ_pos _, by rw [Nat.add_sub_cancel]; exact hm1⟩, by omega⟩
theorem RdN.congr' {w : World} {a : Option Addr} {n : Nat} {I I' : Nat → Int} {X X' R R' : Nat → ByteArray} (h : RdN w a n I X R) (e : ∀ i, i < n → I i = I' i ∧ X i = X' i ∧ R i = R' i) : RdN w a n I' X' R' := by
  rcases h with h | ⟨b, o, e0, hc⟩
  · exact .inl h
  · refine .inr ⟨b, o, e0, fun i hi => ?_⟩
    obtain ⟨e1, e2, e3⟩ := e i hi
    rw [← e1, ← e2, ← e3]
    exact hc i hi
/-- A box of three. -/
def Bx3 (W : World) (b : Nat) (x y z : Value) : Prop := W.cell? ⟨b, 0, none⟩ = some x ∧ W.cell? ⟨b, 1, none⟩ = some y ∧ W.cell? ⟨b, 2, none⟩ = some z
theorem Bx3.below {W W' : World} {b : Nat} {x y z : Value} (h : Bx3 W b x y z) (hb : Below W.heap.size W W') : Bx3 W' b x y z :=
  have hl := World.block_lt_of_cell? _ _ h.1
  ⟨(hb.cell (p := ⟨b, 0, none⟩) hl).trans h.1, (hb.cell (p := ⟨b, 1, none⟩) hl).trans h.2.1, (hb.cell (p := ⟨b, 2, none⟩) hl).trans h.2.2⟩
theorem Bx3.new (w : World) (x y z : Value) (t : TypeId) : Bx3 (w.alloc (.cells #[x, y, z] t)) w.heap.size x y z := by
  refine ⟨?_, ?_, ?_⟩ <;> (unfold World.cell?; rw [show (w.alloc (.cells #[x, y, z] t)).heap[w.heap.size]? = _ from Array.getElem?_push_size]; rfl)
/-- What a parse has answered, in its box. -/
def PaB (W : World) (b : Nat) (er at_ : Int) (l : List Nd) : Prop := ∃ av cv, Bx3 W b (.int .i64 er) (.int .i64 at_) (.slice av l.length cv) ∧ RdN W av l.length (nI l) (nX l) (nR l) ∧ l.length ≤ cv ∧ cv ≤ 9223372036854775807
set_option maxHeartbeats 8000000 in
theorem rpLaw0 (a : Option Addr) (n c : Nat) (f : Nat → Int) (w : World) (ha : Rd .u8 w a n f) (hf : ∀ i, i < n → 0 ≤ f i ∧ f i < 256) (hn : n ≤ maxLen) (hmx : ∃ m, w.cell? ⟨0, 0, none⟩ = some (.int .i64 m)) :
    Calls Try.prog 8 #[.slice a n c] w fun e w' => e = .returned (.bool true) ∧ Below w.heap.size w w' := by
  unfold maxLen at hn
  by_cases hbig : 1048576 < n
  · have hb' : (1048576 : Int) < (n : Int) := by omega
    go_enter Try.func8, Try.ntmps8
    go_wp2
    go_ret
    exact ⟨rfl, Below.refl _ _⟩
  have hb' : ¬ (1048576 : Int) < (n : Int) := by omega
  have HA : Hid (∀ W, Below w.heap.size w W → Calls Try.prog 38 #[.slice a n c] W (DqRet (drawPF f n) W)) := fun W hW => drawPa showOk catOk a n c f W (ha.below hW) (by omega) hf (fun h x e => by
    rcases ha with h0 | ⟨b, o, e', hc⟩
    · exact absurd h0 h
    · rw [e'] at e
      injection e with e
      subst e
      exact Nat.lt_of_lt_of_le (World.block_lt_of_cell? _ _ (hc 0 (by omega))) hW.size)
  have HM : Hid (∀ W, Below w.heap.size w W → ∃ m, W.cell? ⟨0, 0, none⟩ = some (.int .i64 m)) := fun W hW => by
    obtain ⟨x, hx⟩ := hmx
    exact ⟨x, (hW.cell (p := ⟨0, 0, none⟩) (World.block_lt_of_cell? _ _ hx)).trans hx⟩
  have HBy := lf_byt (drawPF_byt f n)
  generalize drawPF f n = l at *
  have HBY : Hid (∀ i, i < l.length → 0 ≤ lf l i ∧ lf l i < 256) := HBy
  clear ha hf hmx HBy
  go_enter Try.func8, Try.ntmps8
  go_wp2_with fail
  refine (HA.out w (Below.refl _ _)).mono ?_
  rintro e w1 ⟨a1, L, c1, rfl, hL, hr1, hc1, hcm1, hb1⟩
  have HL : Hid (L = l.length) := hL
  have H1 : Hid (Rd .u8 w1 a1 L (lf l) ∧ Below w.heap.size w w1) := ⟨by rw [hL]; exact hr1, hb1⟩
  clear hr1 hb1 hL
  go_wp2_with fail
  refine (specPa a1 L c1 (lf l) w1 H1.out.1 hc1 hcm1 (by rw [HL.out]; exact HBY.out)).mono ?_
  rintro e w2 ⟨m, hm, hmn, er, at_, v, N, rfl, hans, hn2, hb2⟩
  obtain ⟨av, cv, rfl, hlc, hcm, hrn⟩ := hn2.rd
  obtain ⟨NN, hNN⟩ : ∃ NN, NN = N.length := ⟨_, rfl⟩
  have HNN : Hid (NN = N.length) := hNN
  rw [← hNN] at hlc hrn ⊢
  obtain ⟨W3, hW3⟩ : ∃ W3, W3 = w2.alloc (.cells #[.int .i64 er, .int .i64 at_, .slice av NN cv] 40) := ⟨_, rfl⟩
  have hbb : Below w2.heap.size w2 W3 := by rw [hW3]; exact below_alloc _ _
  have hbx : Bx3 W3 w2.heap.size (.int .i64 er) (.int .i64 at_) (.slice av NN cv) := by rw [hW3]; exact Bx3.new _ _ _ _ _
  have hw3 : Below w.heap.size w W3 := (H1.out.2.trans (hb2.mono H1.out.2.size)).trans (hbb.mono (Nat.le_trans H1.out.2.size hb2.size))
  have H3 : Hid (PAns (lf l) L m er at_ N ∧ LastK (tkF (lf l) L) m ∧ m ≤ L + 1 ∧ Bx3 W3 w2.heap.size (.int .i64 er) (.int .i64 at_) (.slice av NN cv) ∧ RdN W3 av NN (nI N) (nX N) (nR N) ∧ Below w.heap.size w W3) := ⟨hans, hm, hmn, hbx, hrn.below hbb, hw3⟩
  clear hans hn2 hb2 hrn hm hmn hbb hNN hbx hw3
  unfold PVal
  go_upto_region 4 with fail
  rw [← hW3]
  clear hW3
  generalize w2.heap.size = b3 at *
  go_wp2_with fail
  refine (HA.out W3 H3.out.2.2.2.2.2).mono ?_
  rintro e w4 ⟨a4, L4, c4, rfl, hL4, hr4, hc4, hcm4, hb4⟩
  obtain rfl : L4 = L := by rw [hL4, HL.out]
  have hb04 : Below w.heap.size w w4 := H3.out.2.2.2.2.2.trans (hb4.mono H3.out.2.2.2.2.2.size)
  have H4 : Hid (Rd .u8 w4 a4 L4 (lf l) ∧ Below w.heap.size w w4 ∧ Bx3 w4 b3 (.int .i64 er) (.int .i64 at_) (.slice av NN cv) ∧ RdN w4 av NN (nI N) (nX N) (nR N)) := ⟨by rw [hL4]; exact hr4, hb04, H3.out.2.2.2.1.below hb4, H3.out.2.2.2.2.1.below hb4⟩
  clear hr4 hb4 hL4 hb04 HA
  go_wp2_with fail
  refine (implPa a4 L4 c4 m (lf l) w4 H4.out.1 hc4 hcm4 (by rw [HL.out]; exact HBY.out) (HM.out _ H4.out.2.1) H3.out.2.1 H3.out.2.2.1).mono ?_
  rintro e w5 ⟨er', at', v', N', rfl, hans', hn5, hb5⟩
  obtain ⟨rfl, rfl, rfl⟩ := hans'.same H3.out.1
  obtain ⟨av5, cv5, rfl, hlc5, hcm5, hrn5⟩ := hn5.rd
  rw [← HNN.out] at hlc5 hrn5 ⊢
  obtain ⟨W6, hW6⟩ : ∃ W6, W6 = w5.alloc (.cells #[.int .i64 er', .int .i64 at', .slice av5 NN cv5] 40) := ⟨_, rfl⟩
  have hbb : Below w5.heap.size w5 W6 := by rw [hW6]; exact below_alloc _ _
  have hb46 : Below w4.heap.size w4 W6 := hb5.trans (hbb.mono hb5.size)
  have hw6 : Below w.heap.size w W6 := H4.out.2.1.trans (hb46.mono H4.out.2.1.size)
  have hbx : Bx3 W6 w5.heap.size (.int .i64 er') (.int .i64 at') (.slice av5 NN cv5) := by rw [hW6]; exact Bx3.new _ _ _ _ _
  have H6 : Hid (PAns (lf l) L4 m er' at' N' ∧ Below w.heap.size w W6) := ⟨hans', hw6⟩
  have HK : Hid (∀ W, Below W6.heap.size W6 W → Bx3 W b3 (.int .i64 er') (.int .i64 at') (.slice av NN cv) ∧ Bx3 W w5.heap.size (.int .i64 er') (.int .i64 at') (.slice av5 NN cv5) ∧ RdN W av NN (nI N') (nX N') (nR N') ∧ RdN W av5 NN (nI N') (nX N') (nR N') ∧ Below w.heap.size w W) := fun W hW => ⟨(H4.out.2.2.1.below hb46).below hW, hbx.below hW, (H4.out.2.2.2.below hb46).below hW, (hrn5.below hbb).below hW, hw6.trans (hW.mono hw6.size)⟩
  clear hans' hn5 hb5 hrn5 hbb hb46 hw6 H3 H4
  unfold PVal
  go_upto_region 5 with fail
  rw [← hW6]
  clear hW6 hbx
  generalize w5.heap.size = b4 at *
  obtain ⟨⟨p0, p1, p2⟩, ⟨q0, q1, q2⟩, -, -, -⟩ := HK.out W6 (Below.refl _ _)
  by_cases he : er' = 0
  case neg =>
    have hN0 : NN = 0 := by
      rw [HNN.out]
      rcases H6.out.1 with ⟨_, _, _, e⟩ | ⟨_, _, _, _, _, _, e⟩ | ⟨_, _, _, _, _, _, e⟩ | ⟨_, _, _, _, e, _⟩
      · rw [e]; rfl
      · rw [e]; rfl
      · rw [e]; rfl
      · exact absurd e he
    subst hN0
    have ee : (er' != 0) = true := by simp [he]
    have HB6 : Hid (Below w.heap.size w W6) := H6.out.2
    clear HK H6
    go_wp2
    go_ret
    exact ⟨rfl, HB6.out⟩
  case pos =>
    subst he
    obtain ⟨hV, hat⟩ : VPth NN (nI N') (nX N') (nR N') ∧ at' = 0 := by
      rcases H6.out.1 with ⟨_, e, _⟩ | ⟨_, _, _, e, e', _⟩ | ⟨_, _, _, _, e, _⟩ | ⟨_, r, _, hv, _, e, e'⟩
      · omega
      · omega
      · omega
      · rw [HNN.out, e']; exact ⟨hv, e⟩
    subst hat
    obtain ⟨pt, ht⟩ := isTx_ex NN (nI N') (nX N') (nR N')
    have hlen := ht.len
    have hpt : pt = T (nI N') (nX N') (nR N') (NN - 1) := by
      rcases ht with ⟨_, h⟩ | ⟨h, _⟩
      · exact h
      · exact absurd hV h
    have h100 := hV.1
    have hpos : 0 < pt.length := by rw [hpt]; exact T_pos _ _ _ _ ((hV.gd (NN - 1) (by omega)).1)
    have HV : Hid (VPth NN (nI N') (nX N') (nR N') ∧ pt = T (nI N') (nX N') (nR N') (NN - 1) ∧ IsTx NN (nI N') (nX N') (nR N') pt) := ⟨hV, hpt, ht⟩
    obtain ⟨LP, hLP⟩ : ∃ LP, LP = pt.length := ⟨_, rfl⟩
    have HLP : Hid (LP = pt.length) := hLP
    rw [← hLP] at hlen hpos
    clear hV hpt ht hLP HNN
    go_wp2_with fail
    refine (implPP3 pt av5 NN cv5 _ _ _ W6 (HK.out _ (Below.refl _ _)).2.2.2.1 (by omega) hlc5 hcm5 HV.out.2.2).mono ?_
    rintro e w7 ⟨a7, c7, rfl, hr7, hb7, hc7, hcm7⟩
    obtain ⟨⟨r0, r1, r2⟩, ⟨s0, s1, s2⟩, -, -, -⟩ := HK.out w7 hb7
    have H7 : Hid (RdL w7 a7 pt ∧ Below W6.heap.size W6 w7) := ⟨hr7, hb7⟩
    rw [← HLP.out] at hc7 ⊢
    clear hr7 hb7 p0 p1 p2 q0 q1 q2
    go_wp2_with fail
    refine (specPP pt av NN cv _ _ _ w7 (HK.out _ H7.out.2).2.2.1 (by omega) hlc hcm HV.out.2.2).mono ?_
    rintro e w8 ⟨a8, c8, rfl, hr8, hb8, -⟩
    have hb8' : Below W6.heap.size W6 w8 := H7.out.2.trans (hb8.mono H7.out.2.size)
    obtain ⟨⟨t0, t1, t2⟩, ⟨v0, v1, v2⟩, -, -, -⟩ := HK.out w8 hb8'
    have H8 : Hid (RdL w8 a7 pt ∧ Below W6.heap.size W6 w8) := ⟨H7.out.1.below hb8, hb8'⟩
    rw [← HLP.out]
    clear hr8 hb8 hb8' r0 r1 r2 s0 s1 s2 H7
    by_cases hl2 : 2000 < LP
    · have il2 : (2000 : Int) < (LP : Int) := by omega
      go_wp2_with fail
      refine (lwNodes_eq av5 av NN cv5 cv _ _ _ w8 (HK.out _ H8.out.2).2.2.2.1 (HK.out _ H8.out.2).2.2.1 (by omega)).mono ?_
      rintro e w9 ⟨rfl, hb9⟩
      have HB9 : Hid (Below w.heap.size w w9) := (HK.out w9 (H8.out.2.trans (hb9.mono H8.out.2.size))).2.2.2.2
      clear hb9
      go_wp2
      go_ret
      exact ⟨rfl, HB9.out⟩
    have il2 : ¬ (2000 : Int) < (LP : Int) := by omega
    obtain ⟨m2, hm2, hmn2⟩ := lastK_ex' (lf pt) LP
    have HP : Hid (Calls Try.prog 22 #[.slice a7 LP c7] w8 (PaRet (lf pt) LP m2 w8)) := implPa a7 LP c7 m2 (lf pt) w8 (by have := H8.out.1; unfold RdL at this; rw [HLP.out]; exact this) hc7 hcm7 (fun i hi => lf_byt (by rw [HV.out.2.1]; exact T_byt _ _ _ _) i (by rw [← HLP.out]; exact hi)) (HM.out _ (HK.out _ H8.out.2).2.2.2.2) hm2 hmn2
    have HRp : Hid (PAns (lf pt) LP m2 0 0 (ndS (nI N') (nX N') (nR N') 0 NN)) := by
      have := reparse HV.out.1 HV.out.2.1 (by rw [← HLP.out]; omega) (m := m2) (by rw [← HLP.out]; exact hm2)
      rw [← HLP.out] at this
      exact this
    clear hm2 hmn2
    go_wp2_with fail
    refine HP.out.mono ?_
    rintro e w9 ⟨er9, at9, v9, N9, rfl, hans9, hn9, hb9⟩
    obtain ⟨rfl, rfl, rfl⟩ := hans9.same HRp.out
    obtain ⟨av9, cv9, rfl, hlc9, hcm9, hrn9⟩ := hn9.rd
    rw [ndS_len] at hrn9 hlc9 ⊢
    have hr9 : RdN w9 av9 NN (nI N') (nX N') (nR N') := hrn9.congr' (fun i hi => ndS_cells (fun i hi => by have := (HV.out.1.gd i hi).1; omega) hi)
    obtain ⟨W9, hW9⟩ : ∃ W9, W9 = w9.alloc (.cells #[.int .i64 0, .int .i64 0, .slice av9 NN cv9] 40) := ⟨_, rfl⟩
    have hbb : Below w9.heap.size w9 W9 := by rw [hW9]; exact below_alloc _ _
    have hb89 : Below w8.heap.size w8 W9 := hb9.trans (hbb.mono hb9.size)
    have hb69 : Below W6.heap.size W6 W9 := H8.out.2.trans (hb89.mono H8.out.2.size)
    have hbx : Bx3 W9 w9.heap.size (.int .i64 0) (.int .i64 0) (.slice av9 NN cv9) := by rw [hW9]; exact Bx3.new _ _ _ _ _
    have HK9 : Hid (∀ W, Below W9.heap.size W9 W → Bx3 W w9.heap.size (.int .i64 0) (.int .i64 0) (.slice av9 NN cv9) ∧ RdN W av9 NN (nI N') (nX N') (nR N') ∧ RdL W a7 pt ∧ Below W6.heap.size W6 W) := fun W hW => ⟨hbx.below hW, (hr9.below hbb).below hW, (H8.out.1.below hb89).below hW, hb69.trans (hW.mono hb69.size)⟩
    clear hans9 hn9 hb9 hrn9 hr9 hbb hb89 hb69 HP HRp H8 t0 t1 t2 v0 v1 v2
    unfold PVal
    go_upto_region 13 with fail
    rw [← hW9]
    clear hW9 hbx
    generalize w9.heap.size = b9 at *
    obtain ⟨⟨x0, x1, x2⟩, -⟩ := HK9.out W9 (Below.refl _ _)
    obtain ⟨⟨y0, y1, y2⟩, -⟩ := HK.out W9 (HK9.out W9 (Below.refl _ _)).2.2.2
    go_wp2_with fail
    refine (lwNodes_eq av9 av NN cv9 cv _ _ _ W9 (HK9.out _ (Below.refl _ _)).2.1 (HK.out _ (HK9.out W9 (Below.refl _ _)).2.2.2).2.2.1 (by omega)).mono ?_
    rintro e w10 ⟨rfl, hb10⟩
    obtain ⟨⟨z0, z1, z2⟩, -⟩ := HK9.out w10 hb10
    have H10 : Hid (Below W9.heap.size W9 w10) := hb10
    clear hb10 x0 x1 x2 y0 y1 y2
    go_wp2_with fail
    refine (implPP3 pt av9 NN cv9 _ _ _ w10 (HK9.out _ H10.out).2.1 (by omega) hlc9 hcm9 HV.out.2.2).mono ?_
    rintro e w11 ⟨a11, c11, rfl, hr11, hb11, -, -⟩
    have hb11' : Below W9.heap.size W9 w11 := H10.out.trans (hb11.mono H10.out.size)
    have H11 : Hid (RdL w11 a11 pt ∧ RdL w11 a7 pt ∧ Below w.heap.size w w11) := ⟨hr11, (HK9.out _ hb11').2.2.1, (HK.out _ (HK9.out _ hb11').2.2.2).2.2.2.2⟩
    rw [← HLP.out]
    clear hr11 hb11 hb11' z0 z1 z2 H10
    go_wp2_with fail
    refine (lwBytes_eq a11 a7 LP c11 c7 pt HLP.out w11 (by have := H11.out.1; unfold RdL at this; rw [HLP.out]; exact this) (by have := H11.out.2.1; unfold RdL at this; rw [HLP.out]; exact this)).mono ?_
    rintro e w12 ⟨rfl, hb12⟩
    have HB12 : Hid (Below w.heap.size w w12) := H11.out.2.2.trans (hb12.mono H11.out.2.2.size)
    have ip : (LP : Int) > 0 := by omega
    clear hb12
    go_wp2
    go_ret
    exact ⟨rfl, HB12.out⟩
/-- For the frame: openByteR . -/
theorem rpLaw (v : Value) (w : World) (hv : IsBytesR w v) (hmx : ∃ m, w.cell? ⟨0, 0, none⟩ = some (.int .i64 m)) : Calls Try.prog 8 #[v] w fun e w' => e = .returned (.bool true) ∧ Below w.heap.size w w' := by
  obtain ⟨a, n, c, f, rfl, h1, h2, h3⟩ := hv
  exact rpLaw0 a n c f w h1 h2 h3 hmx
end Go.Proofs.Ytocmbnocdjnfpaa
