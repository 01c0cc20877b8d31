import Derived.Test.YtocmbnocdjnfpaaNk12
namespace Go.Proofs.Ytocmbnocdjnfpaa
open Go.RowKit Go.Deep
set_option linter.unusedVariables false
set_option linter.unusedSimpArgs false
set_option maxRecDepth 100000

def dl : (Nat × Nat × List Nd) ⊕ (Int × Int) → Nat
  | .inl _ => 1
  | .inr _ => 0
/-- What take gives back. -/
def TkRet (T : Nat → Tok) (A : Nat → Nat) (m : Nat) (w0 : World) (tv : Value) (p c : Nat) (σ : (Nat × Nat × List Nd) ⊕ (Int × Int)) (e : Ending) (w' : World) : Prop :=
  ∃ q, e = .returned (.string (strT q)) ∧ (c = 14 → q = tkQ T σ) ∧ RS T A m w0 tv (p - dl σ) w' (tkP T A c σ)

set_option maxHeartbeats 2000000 in
theorem take_rs {w0 : World} {a : Option Addr} {n c : Nat} {f : Nat → Int} (E : Env w0 a n c f) {m : Nat} (k : Nat) (kind : ByteArray) (hkd : kind = kdW k) (hk1 : 1 ≤ k) (hk2 : k ≤ 15) (w : World) (p : Nat) (σ : (Nat × Nat × List Nd) ⊕ (Int × Int)) (h : RS (tkF f n) (tkPos f n) m w0 (.slice a n c) p w σ) (hok : ∀ s, σ = .inl s → s.1 < m ∧ s.2.1 ≤ 100) :
    Calls Try.prog 56 #[.pointer (some ⟨w0.heap.size, 0, none⟩), .string kind] w (TkRet (tkF f n) (tkPos f n) m w0 (.slice a n c) p k σ) := by
  subst hkd
  cases σ with
  | inr x =>
    obtain ⟨bh, ta, mk, ct, vn, N, h1, h2, h3⟩ := h
    have hne := kdW_ne (a := 0) (c := k) (by omega) hk2 (by omega)
    have c2 := h1.cells.2.2.1
    have HF : Hid (Calls Try.prog 97 #[.pointer (some ⟨w0.heap.size, 0, none⟩), .int .i64 3] w fun r w' => r = .returned (.tuple #[]) ∧ w' = w) := fail_no w0 _ w bh ta mk x.1 x.2 _ ct vn N 3 h1 h3
    have HX : Hid (TkRet (tkF f n) (tkPos f n) m w0 (.slice a n c) p k (.inr x) (.returned (.string (strT []))) w) := ⟨[], rfl, fun _ => rfl, bh, ta, mk, ct, vn, N, h1, by simpa [dl] using h2, h3⟩
    clear h1 h2 h3 hok E
    obtain ⟨n1, n2⟩ := hne
    generalize kdW k = K at *
    generalize kdW 0 = Z at *
    go_enter Try.func56, Try.ntmps56
    go_wp2_with fail
    refine HF.out.mono ?_
    rintro e w1 ⟨rfl, hw⟩
    rw [hw]
    clear hw w1
    go_wp2
    refine bodyPost_ret (v := .string { data := #[] }) (by simp [results, Try.results56, go_sem]) rfl HX.out
  | inl s =>
    obtain ⟨i, nd, N⟩ := s
    obtain ⟨vn, h1, h2, h3⟩ := h
    obtain ⟨him, hnd⟩ := hok _ rfl
    have him' : i < m := him
    have hnd' : nd ≤ 100 := hnd
    have h2' : N.length + (m - i) ≤ p := h2
    have h1' : RdS w0 (.slice a n c) w ((tkF f n i).e : Int) (tkPos f n i : Int) (nd : Int) 0 0 (kdW (tkF f n i).c) (strT (tkF f n i).q) vn N := h1
    obtain ⟨c0, c1, c2, c3, c4, c5, c6, c7, c8⟩ := h1'.cells
    have fr := h1'.rb.frozen
    have hlt := h1'.rb.lt
    have HH : Hid (RdS w0 (.slice a n c) w ((tkF f n i).e : Int) (tkPos f n i : Int) (nd : Int) 0 0 (kdW (tkF f n i).c) (strT (tkF f n i).q) vn N) := h1'
    have HE : Hid (Env w0 a n c f) := E
    have h15 := tkc15 f n i
    clear h1 h2 h3 hok E him hnd h1' c0 c1 c3 c5 c7 c8
    by_cases hc : (tkF f n i).c = k
    · have HK : Hid (∀ W, Calls Try.prog 99 #[.string (kdW k)] W fun e w' => e = .returned (.int .i64 ((if k ≤ 9 then k else 0 : Nat) : Int)) ∧ w' = W) := fun W => nodeKind_kd hk1 hk2 W
      have HTE : Hid ((tkF f n i).e ≤ n ∧ endF isSp f n (tkF f n i).e = tkPos f n (i + 1)) := ⟨(tkA_le (tkPos_le f n i)).2, rfl⟩
      have HADV : Hid (∀ W (nd2 : Nat), RdS w0 (.slice a n c) W ((tkF f n i).e : Int) (tkPos f n i : Int) (nd2 : Int) 0 0 (kdW (tkF f n i).c) (strT (tkF f n i).q) vn N → Calls Try.prog 54 #[.pointer (some ⟨w0.heap.size, 0, none⟩)] W fun r w' => r = .returned (.tuple #[]) ∧ RS (tkF f n) (tkPos f n) m w0 (.slice a n c) (p - 1) w' (nrm (tkF f n) (tkPos f n) (i + 1) nd2 N)) := fun W nd2 hW => advance_any HE.out W m _ nd2 (i + 1) (p - 1) _ _ _ vn N hW HTE.out.1 HTE.out.2 (by omega)
      have HQ : Hid (k = 14 → (tkF f n i).q = tkQ (tkF f n) (.inl (i, nd, N))) := fun e => by rw [tk_q, if_pos (by rw [hc]; exact e)]
      rw [hc] at c2
      obtain ⟨K, hK⟩ : ∃ K, K = kdW k := ⟨_, rfl⟩
      obtain ⟨X, hX⟩ : ∃ X, X = strT (tkF f n i).q := ⟨_, rfl⟩
      have HXX : Hid (X = strT (tkF f n i).q) := hX
      rw [← hK] at c2 HK ⊢
      rw [← hX] at c4
      have HC : Hid ((tkF f n i).c = k) := hc
      clear hK hX hc
      by_cases h9 : k ≤ 9
      · have e9 : ((if k ≤ 9 then k else 0 : Nat) : Int) = (k : Int) := by rw [if_pos h9]
        rw [e9] at HK
        have nk : ((k : Int) == 0) = false := by simp; omega
        have nk' : ¬ (k : Int) = 0 := by omega
        have e1 : IntKind.i64.wrap ((nd : Int) + 1) = ((nd + 1 : Nat) : Int) := by rw [IntKind.wrap_i64]; omega
        obtain ⟨nd1, hnd1⟩ : ∃ nd1, nd1 = nd + 1 := ⟨_, rfl⟩
        rw [← hnd1] at e1
        have HND : Hid (nd1 = nd + 1) := hnd1
        have HW : Hid (RdS w0 (.slice a n c) (w.setCell ⟨w0.heap.size, 6, none⟩ (.int .i64 (nd1 : Int))) ((tkF f n i).e : Int) (tkPos f n i : Int) (nd1 : Int) 0 0 (kdW (tkF f n i).c) (strT (tkF f n i).q) vn N) := HH.out.put 6 (.int .i64 (nd1 : Int)) (mk' := (nd1 : Int)) rfl
        by_cases h100 : nd = 100
        · have i100 : (100 : Int) < (nd1 : Int) := by omega
          have HT : Hid (tkP (tkF f n) (tkPos f n) k (.inl (i, nd, N)) = .inr (4, (tkPos f n i : Int))) := by
            show (if (tkF f n i).c = k then (if 1 ≤ k ∧ k ≤ 9 then (if nd = 100 then _ else _) else _) else _) = _
            rw [if_pos HC.out, if_pos ⟨hk1, h9⟩, if_pos h100]
          clear hnd1 h100
          go_enter Try.func56, Try.ntmps56
          go_wp2_with fail
          refine (HK.out _).mono ?_
          rintro e w1 ⟨rfl, hw⟩
          rw [hw]
          clear hw w1
          go_wp2_with fail
          refine (fail_yes w0 _ _ _ _ _ _ _ _ _ _ 4 HW.out).mono ?_
          rintro e w3 ⟨rfl, hR3⟩
          have HX : Hid (TkRet (tkF f n) (tkPos f n) m w0 (.slice a n c) p k (.inl (i, nd, N)) (.returned (.string { data := #[] })) w3) := ⟨[], rfl, fun e => by omega, by rw [HT.out]; exact ⟨_, _, _, _, _, _, hR3, by show N.length ≤ p - 1; omega, by show (4 : Int) ≠ 0; omega⟩⟩
          clear hR3
          go_wp2
          refine bodyPost_ret (v := .string { data := #[] }) (by simp [results, Try.results56, go_sem]) rfl HX.out
        · have i100 : ¬ (100 : Int) < (nd1 : Int) := by omega
          have HT : Hid (tkP (tkF f n) (tkPos f n) k (.inl (i, nd, N)) = nrm (tkF f n) (tkPos f n) (i + 1) nd1 N) := by
            show (if (tkF f n i).c = k then (if 1 ≤ k ∧ k ≤ 9 then (if nd = 100 then _ else _) else _) else _) = _
            rw [if_pos HC.out, if_pos ⟨hk1, h9⟩, if_neg h100, HND.out]
          clear hnd1 h100
          go_enter Try.func56, Try.ntmps56
          go_wp2_with fail
          refine (HK.out _).mono ?_
          rintro e w1 ⟨rfl, hw⟩
          rw [hw]
          clear hw w1
          go_wp2_with fail
          refine (HADV.out _ nd1 HW.out).mono ?_
          rintro e w3 ⟨rfl, hR3⟩
          have HX : Hid (TkRet (tkF f n) (tkPos f n) m w0 (.slice a n c) p k (.inl (i, nd, N)) (.returned (.string X)) w3) := ⟨_, by rw [HXX.out], HQ.out, by rw [HT.out]; exact hR3⟩
          clear hR3
          go_wp2
          refine bodyPost_ret (v := .string X) (by simp [results, Try.results56, go_sem]) rfl HX.out
      · have e9 : ((if k ≤ 9 then k else 0 : Nat) : Int) = 0 := by rw [if_neg h9]; rfl
        rw [e9] at HK
        have i100 : ¬ (100 : Int) < (nd : Int) := by omega
        have HT : Hid (tkP (tkF f n) (tkPos f n) k (.inl (i, nd, N)) = nrm (tkF f n) (tkPos f n) (i + 1) nd N) := by
          show (if (tkF f n i).c = k then (if 1 ≤ k ∧ k ≤ 9 then (if nd = 100 then _ else _) else _) else _) = _
          rw [if_pos HC.out, if_neg (by omega)]
        go_enter Try.func56, Try.ntmps56
        go_wp2_with fail
        refine (HK.out _).mono ?_
        rintro e w1 ⟨rfl, hw⟩
        rw [hw]
        clear hw w1
        go_wp2_with fail
        refine (HADV.out _ nd HH.out).mono ?_
        rintro e w3 ⟨rfl, hR3⟩
        have HX : Hid (TkRet (tkF f n) (tkPos f n) m w0 (.slice a n c) p k (.inl (i, nd, N)) (.returned (.string X)) w3) := ⟨_, by rw [HXX.out], HQ.out, by rw [HT.out]; exact hR3⟩
        clear hR3
        go_wp2
        refine bodyPost_ret (v := .string X) (by simp [results, Try.results56, go_sem]) rfl HX.out
    · have hne := kdW_ne (a := (tkF f n i).c) (c := k) h15 hk2 hc
      have HT : Hid (tkP (tkF f n) (tkPos f n) k (.inl (i, nd, N)) = .inr (3, (tkPos f n i : Int))) := by
        show (if (tkF f n i).c = k then _ else _) = _
        rw [if_neg hc]
      have HQ : Hid (k = 14 → ([] : List Int) = tkQ (tkF f n) (.inl (i, nd, N))) := fun e => by rw [tk_q, if_neg (by rw [← e]; exact hc)]
      obtain ⟨n1, n2⟩ := hne
      clear hc
      obtain ⟨Z, hZ⟩ : ∃ Z, Z = kdW (tkF f n i).c := ⟨_, rfl⟩
      rw [← hZ] at c2 n1 n2
      clear hZ
      generalize kdW k = K at *
      go_enter Try.func56, Try.ntmps56
      go_wp2_with fail
      refine (fail_yes w0 _ _ _ _ _ _ _ _ _ _ 3 HH.out).mono ?_
      rintro e w3 ⟨rfl, hR3⟩
      have HX : Hid (TkRet (tkF f n) (tkPos f n) m w0 (.slice a n c) p k (.inl (i, nd, N)) (.returned (.string { data := #[] })) w3) := ⟨[], rfl, HQ.out, by rw [HT.out]; exact ⟨_, _, _, _, _, _, hR3, by show N.length ≤ p - 1; omega, by show (3 : Int) ≠ 0; omega⟩⟩
      clear hR3
      go_wp2
      refine bodyPost_ret (v := .string { data := #[] }) (by simp [results, Try.results56, go_sem]) rfl HX.out
end Go.Proofs.Ytocmbnocdjnfpaa

namespace Go.Proofs.Ytocmbnocdjnfpaa
open Go.RowKit Go.Deep
set_option linter.unusedVariables false
set_option linter.unusedSimpArgs false
set_option maxRecDepth 100000

def OkS (T : Nat → Tok) (m i0 : Nat) (σ : (Nat × Nat × List Nd) ⊕ (Int × Int)) : Prop := ∀ s, σ = .inl s → Okk T m s ∧ i0 ≤ s.1
theorem OkS.up {T : Nat → Tok} {m i0 a : Nat} {σ σ' : (Nat × Nat × List Nd) ⊕ (Int × Int)} (h : OkS T m i0 σ) (hu : Up T m a σ σ') : OkS T m (i0 + a) σ' := fun s' e => by
  obtain ⟨s, e0, h1, h2⟩ := hu s' e
  obtain ⟨k1, k2⟩ := h s e0
  exact ⟨h2 k1, by omega⟩
theorem OkS.less {T : Nat → Tok} {m i0 i1 : Nat} {σ : (Nat × Nat × List Nd) ⊕ (Int × Int)} (h : OkS T m i0 σ) (hi : i1 ≤ i0) : OkS T m i1 σ := fun s e => ⟨(h s e).1, by have := (h s e).2; omega⟩
theorem OkS.two {T : Nat → Tok} {m i0 : Nat} {σ : (Nat × Nat × List Nd) ⊕ (Int × Int)} (h : OkS T m i0 σ) : ∀ s, σ = .inl s → s.1 < m ∧ s.2.1 ≤ 100 := fun s e => ⟨(h s e).1.1, (h s e).1.2.2⟩
/-- What the reader's functions give back. -/
def FRet (T : Nat → Tok) (A : Nat → Nat) (m : Nat) (w0 : World) (tv : Value) (p : Nat) (σ : (Nat × Nat × List Nd) ⊕ (Int × Int)) (e : Ending) (w' : World) : Prop := e = .returned (.tuple #[]) ∧ RS T A m w0 tv p w' σ
theorem RS.pos {T : Nat → Tok} {A : Nat → Nat} {m : Nat} {w0 w : World} {tv : Value} {p i0 : Nat} {s : Nat × Nat × List Nd} (h : RS T A m w0 tv p w (.inl s)) (ho : OkS T m i0 (.inl s)) : 1 ≤ p := by
  obtain ⟨vn, h1, h2, h3⟩ := h
  have := (ho s rfl).1.1
  omega

section
variable {w0 : World} {a : Option Addr} {n c : Nat} {f : Nat → Int} {m : Nat}
set_option maxHeartbeats 1000000 in
theorem call_rs (E : Env w0 a n c f) (hl : LastK (tkF f n) m) (k : Nat) (kind : ByteArray) (hkd : kind = kdW k) (hk1 : 1 ≤ k) (hk2 : k ≤ 9) (w : World) (p i0 : Nat) (hp : p ≤ 9000) (σ : (Nat × Nat × List Nd) ⊕ (Int × Int)) (h : RS (tkF f n) (tkPos f n) m w0 (.slice a n c) p w σ) (hok : OkS (tkF f n) m i0 σ) :
    Calls Try.prog 167 #[.pointer (some ⟨w0.heap.size, 0, none⟩), .string kind] w (FRet (tkF f n) (tkPos f n) m w0 (.slice a n c) (p - dl σ + 1) (callF (tkF f n) (tkPos f n) k σ)) := by
  have ok1 := hok.up (up_tk (A := tkPos f n) hl (c := k) (by omega) (by omega) σ)
  have ok2 := ok1.up (up_tk (A := tkPos f n) hl (c := 11) (by omega) (by omega) _)
  have ok3 := ok2.up (up_tk (A := tkPos f n) hl (c := 14) (by omega) (by omega) _)
  have H1 : Hid (Calls Try.prog 56 #[.pointer (some ⟨w0.heap.size, 0, none⟩), .string kind] w (TkRet (tkF f n) (tkPos f n) m w0 (.slice a n c) p k σ)) := take_rs E k kind hkd hk1 (by omega) w p σ h hok.two
  have H2 : Hid (∀ W, RS (tkF f n) (tkPos f n) m w0 (.slice a n c) (p - dl σ) W (tkP (tkF f n) (tkPos f n) k σ) → Calls Try.prog 56 #[.pointer (some ⟨w0.heap.size, 0, none⟩), .string { data := #[40] }] W (TkRet (tkF f n) (tkPos f n) m w0 (.slice a n c) (p - dl σ) 11 (tkP (tkF f n) (tkPos f n) k σ))) := fun W hW => take_rs E 11 _ rfl (by omega) (by omega) W _ _ hW ok1.two
  have H3 : Hid (∀ W p', RS (tkF f n) (tkPos f n) m w0 (.slice a n c) p' W (tkP (tkF f n) (tkPos f n) 11 (tkP (tkF f n) (tkPos f n) k σ)) → Calls Try.prog 56 #[.pointer (some ⟨w0.heap.size, 0, none⟩), .string { data := #[83, 84, 82] }] W (TkRet (tkF f n) (tkPos f n) m w0 (.slice a n c) p' 14 (tkP (tkF f n) (tkPos f n) 11 (tkP (tkF f n) (tkPos f n) k σ)))) := fun W p' hW => take_rs E 14 _ rfl (by omega) (by omega) W _ _ hW ok2.two
  have H4 : Hid (∀ W p', RS (tkF f n) (tkPos f n) m w0 (.slice a n c) p' W (tkP (tkF f n) (tkPos f n) 14 (tkP (tkF f n) (tkPos f n) 11 (tkP (tkF f n) (tkPos f n) k σ))) → Calls Try.prog 56 #[.pointer (some ⟨w0.heap.size, 0, none⟩), .string { data := #[41] }] W (TkRet (tkF f n) (tkPos f n) m w0 (.slice a n c) p' 12 (tkP (tkF f n) (tkPos f n) 14 (tkP (tkF f n) (tkPos f n) 11 (tkP (tkF f n) (tkPos f n) k σ))))) := fun W p' hW => take_rs E 12 _ rfl (by omega) (by omega) W _ _ hW ok3.two
  have HK : Hid (∀ W, Calls Try.prog 99 #[.string kind] W fun e w' => e = .returned (.int .i64 (k : Int)) ∧ w' = W) := fun W => by
    have := nodeKind_kd hk1 (by omega) W
    rw [if_pos hk2, ← hkd] at this
    exact this
  have H5 : Hid (∀ W q, RS (tkF f n) (tkPos f n) m w0 (.slice a n c) (p - dl σ) W (tkP (tkF f n) (tkPos f n) 12 (tkP (tkF f n) (tkPos f n) 14 (tkP (tkF f n) (tkPos f n) 11 (tkP (tkF f n) (tkPos f n) k σ)))) → q = tkQ (tkF f n) (tkP (tkF f n) (tkPos f n) 11 (tkP (tkF f n) (tkPos f n) k σ)) → Calls Try.prog 100 #[.pointer (some ⟨w0.heap.size, 0, none⟩), .int .i64 (k : Int), .string (strT q), .string { data := #[] }] W (FRet (tkF f n) (tkPos f n) m w0 (.slice a n c) (p - dl σ + 1) (callF (tkF f n) (tkPos f n) k σ))) := fun W q hW hq => by
    subst hq
    exact emit_rs hW (by omega) ⟨k, tkQ (tkF f n) (tkP (tkF f n) (tkPos f n) 11 (tkP (tkF f n) (tkPos f n) k σ)), []⟩ _ _ _ rfl (fun _ => rfl) (fun _ => rfl) ⟨_, [], rfl, rfl⟩
  clear ok1 ok2 ok3 hok h E hl hkd
  go_enter Try.func167, Try.ntmps167
  go_wp2_with fail
  refine H1.out.mono ?_
  rintro e w1 ⟨q1, rfl, _, h1⟩
  have G1 : Hid (RS (tkF f n) (tkPos f n) m w0 (.slice a n c) (p - dl σ) w1 (tkP (tkF f n) (tkPos f n) k σ)) := h1
  clear h1 H1
  go_wp2_with fail
  refine (H2.out w1 G1.out).mono ?_
  rintro e w2 ⟨q2, rfl, _, h2⟩
  have G2 : Hid (RS (tkF f n) (tkPos f n) m w0 (.slice a n c) (p - dl σ) w2 (tkP (tkF f n) (tkPos f n) 11 (tkP (tkF f n) (tkPos f n) k σ))) := h2.more (by omega)
  clear h2 H2 G1
  go_wp2_with fail
  refine (H3.out w2 _ G2.out).mono ?_
  rintro e w3 ⟨q3, rfl, hq3, h3⟩
  have HQ : Hid (q3 = tkQ (tkF f n) (tkP (tkF f n) (tkPos f n) 11 (tkP (tkF f n) (tkPos f n) k σ))) := hq3 rfl
  have G3 : Hid (RS (tkF f n) (tkPos f n) m w0 (.slice a n c) (p - dl σ) w3 (tkP (tkF f n) (tkPos f n) 14 (tkP (tkF f n) (tkPos f n) 11 (tkP (tkF f n) (tkPos f n) k σ)))) := h3.more (by omega)
  clear h3 H3 G2 hq3
  go_wp2_with fail
  refine (H4.out w3 _ G3.out).mono ?_
  rintro e w4 ⟨q4, rfl, _, h4⟩
  have G4 : Hid (RS (tkF f n) (tkPos f n) m w0 (.slice a n c) (p - dl σ) w4 (tkP (tkF f n) (tkPos f n) 12 (tkP (tkF f n) (tkPos f n) 14 (tkP (tkF f n) (tkPos f n) 11 (tkP (tkF f n) (tkPos f n) k σ))))) := h4.more (by omega)
  clear h4 H4 G3
  go_wp2_with fail
  refine (HK.out _).mono ?_
  rintro e w8 ⟨rfl, hw8⟩
  rw [hw8]
  clear hw8 w8 HK
  go_wp2_with fail
  refine (H5.out w4 q3 G4.out HQ.out).mono ?_
  rintro e w5 ⟨rfl, h5⟩
  have G5 : Hid (RS (tkF f n) (tkPos f n) m w0 (.slice a n c) (p - dl σ + 1) w5 (callF (tkF f n) (tkPos f n) k σ)) := h5
  clear h5 H5 G4
  go_wp2
  refine bodyPost_end (v := .tuple #[]) (by simp [results, Try.results167, go_sem]) rfl ⟨rfl, G5.out⟩
end
end Go.Proofs.Ytocmbnocdjnfpaa

namespace Go.Proofs.Ytocmbnocdjnfpaa
open Go.RowKit Go.Deep
set_option linter.unusedVariables false
set_option linter.unusedSimpArgs false
set_option maxRecDepth 100000

theorem kdW_no {c k : Nat} (L : List UInt8) (hL : (kdW k).data.toList = L) (hc : c ≤ 15) (hk : k ≤ 15) (h : c ≠ k) : ¬ (kdW c).toList = L ∧ ((kdW c).toList == L) = false := by
  have := (kdW_ne hc hk h).2
  rw [kdW_list k L hL] at this
  exact ⟨this, by simp [this]⟩
theorem kdS_le (f : Nat → Int) (n : Nat) (σ : (Nat × Nat × List Nd) ⊕ (Int × Int)) : kdS (tkF f n) σ ≤ 15 := by
  cases σ with
  | inl s => exact tkc15 f n s.1
  | inr x => exact Nat.zero_le _
theorem kdS_inl {T : Nat → Tok} {σ : (Nat × Nat × List Nd) ⊕ (Int × Int)} (h : kdS T σ ≠ 0) : ∃ s, σ = .inl s := by
  cases σ with
  | inl s => exact ⟨s, rfl⟩
  | inr x => exact absurd rfl h
theorem FRet.more {T : Nat → Tok} {A : Nat → Nat} {m : Nat} {w0 : World} {tv : Value} {p p' : Nat} {σ : (Nat × Nat × List Nd) ⊕ (Int × Int)} {e : Ending} {w' : World} (h : FRet T A m w0 tv p σ e w') (hp : p ≤ p') : FRet T A m w0 tv p' σ e w' := ⟨h.1, h.2.more hp⟩

section
variable {w0 : World} {a : Option Addr} {n c : Nat} {f : Nat → Int} {m : Nat}
/-- take, on a state. -/
theorem tk_rs (E : Env w0 a n c f) {i0 p : Nat} (k : Nat) (kind : ByteArray) (hkd : kind = kdW k) (hk1 : 1 ≤ k) (hk2 : k ≤ 15) (w : World) (σ : (Nat × Nat × List Nd) ⊕ (Int × Int)) (h : RS (tkF f n) (tkPos f n) m w0 (.slice a n c) p w σ) (hok : OkS (tkF f n) m i0 σ) :
    Calls Try.prog 56 #[.pointer (some ⟨w0.heap.size, 0, none⟩), .string kind] w fun e w' => ∃ q, e = .returned (.string (strT q)) ∧ (k = 14 → q = tkQ (tkF f n) σ) ∧ RS (tkF f n) (tkPos f n) m w0 (.slice a n c) (p - dl σ) w' (tkP (tkF f n) (tkPos f n) k σ) := take_rs E k kind hkd hk1 hk2 w p σ h hok.two
set_option maxHeartbeats 1000000 in
theorem move_rs (E : Env w0 a n c f) (hl : LastK (tkF f n) m) (w : World) (p i0 : Nat) (hp : p ≤ 9000) (σ : (Nat × Nat × List Nd) ⊕ (Int × Int)) (h : RS (tkF f n) (tkPos f n) m w0 (.slice a n c) p w σ) (hok : OkS (tkF f n) m i0 σ) :
    Calls Try.prog 151 #[.pointer (some ⟨w0.heap.size, 0, none⟩)] w (FRet (tkF f n) (tkPos f n) m w0 (.slice a n c) (p - dl σ + 1) (moveF (tkF f n) (tkPos f n) σ)) := by
  have HE : Hid (Env w0 a n c f) := E
  have HL : Hid (LastK (tkF f n) m) := hl
  have HS : Hid (RS (tkF f n) (tkPos f n) m w0 (.slice a n c) p w σ) := h
  have HO : Hid (OkS (tkF f n) m i0 σ) := hok
  have c2 := h.kind
  have hlt := h.bel.2
  have h15 := kdS_le f n σ
  clear h hok E hl
  by_cases h4 : kdS (tkF f n) σ = 4
  · have HM : Hid (moveF (tkF f n) (tkPos f n) σ = callF (tkF f n) (tkPos f n) 4 σ) := by show _ = _; unfold moveF; rw [if_pos h4]
    rw [h4] at c2
    have c2' : w.cell? ⟨w0.heap.size, 2, none⟩ = some (.string { data := #[105, 110] }) := c2
    clear c2 h4
    go_enter Try.func151, Try.ntmps151
    go_wp2_with fail
    refine (call_rs HE.out HL.out 4 _ rfl (by omega) (by omega) w p i0 hp σ HS.out HO.out).mono ?_
    rintro e w1 ⟨rfl, h1⟩
    have GL : Hid (RS (tkF f n) (tkPos f n) m w0 (.slice a n c) (p - dl σ + 1) w1 (moveF (tkF f n) (tkPos f n) σ)) := by show RS _ _ _ _ _ _ _ _; rw [HM.out]; exact h1
    clear h1
    go_wp2
    refine bodyPost_end (v := .tuple #[]) (by simp [results, Try.results151, go_sem]) rfl ⟨rfl, GL.out⟩
  by_cases h5 : kdS (tkF f n) σ = 5
  · have HM : Hid (moveF (tkF f n) (tkPos f n) σ = hasF (tkF f n) (tkPos f n) σ) := by show _ = _; unfold moveF; rw [if_neg h4, if_pos h5]
    rw [h5] at c2
    have c2' : w.cell? ⟨w0.heap.size, 2, none⟩ = some (.string { data := #[104, 97, 115] }) := c2
    clear c2 h5 h4
    go_enter Try.func151, Try.ntmps151
    go_wp2_with fail
    refine (tk_rs HE.out 5 { data := #[104, 97, 115] } rfl (by omega) (by omega) w σ HS.out HO.out).mono ?_
    rintro e v0 ⟨q0, rfl, hq0, h0⟩
    have HS0 : Hid (RS (tkF f n) (tkPos f n) m w0 (.slice a n c) (p - dl σ) v0 (tkP (tkF f n) (tkPos f n) 5 σ)) := h0.more (by first | omega | (simp [dl]; done) | exact Nat.le_refl _)
    have HO0 : Hid (OkS (tkF f n) m (i0 + 1) (tkP (tkF f n) (tkPos f n) 5 σ)) := (HO.out.up (up_tk (A := (tkPos f n)) HL.out (c := 5) (by omega) (by omega) σ)).less (by omega)
    clear h0 hq0
    go_wp2_with fail
    refine (tk_rs HE.out 11 { data := #[40] } rfl (by omega) (by omega) v0 (tkP (tkF f n) (tkPos f n) 5 σ) HS0.out HO0.out).mono ?_
    rintro e v1 ⟨q1, rfl, hq1, h1⟩
    have HS1 : Hid (RS (tkF f n) (tkPos f n) m w0 (.slice a n c) (p - dl σ) v1 (tkP (tkF f n) (tkPos f n) 11 (tkP (tkF f n) (tkPos f n) 5 σ))) := h1.more (by omega)
    have HO1 : Hid (OkS (tkF f n) m (i0 + 1) (tkP (tkF f n) (tkPos f n) 11 (tkP (tkF f n) (tkPos f n) 5 σ))) := (HO0.out.up (up_tk (A := (tkPos f n)) HL.out (c := 11) (by omega) (by omega) (tkP (tkF f n) (tkPos f n) 5 σ))).less (by omega)
    clear h1 hq1
    go_wp2_with fail
    refine (tk_rs HE.out 14 { data := #[83, 84, 82] } rfl (by omega) (by omega) v1 (tkP (tkF f n) (tkPos f n) 11 (tkP (tkF f n) (tkPos f n) 5 σ)) HS1.out HO1.out).mono ?_
    rintro e v2 ⟨q2, rfl, hq2, h2⟩
    have HS2 : Hid (RS (tkF f n) (tkPos f n) m w0 (.slice a n c) (p - dl σ) v2 (tkP (tkF f n) (tkPos f n) 14 (tkP (tkF f n) (tkPos f n) 11 (tkP (tkF f n) (tkPos f n) 5 σ)))) := h2.more (by omega)
    have HO2 : Hid (OkS (tkF f n) m (i0 + 1) (tkP (tkF f n) (tkPos f n) 14 (tkP (tkF f n) (tkPos f n) 11 (tkP (tkF f n) (tkPos f n) 5 σ)))) := (HO1.out.up (up_tk (A := (tkPos f n)) HL.out (c := 14) (by omega) (by omega) (tkP (tkF f n) (tkPos f n) 11 (tkP (tkF f n) (tkPos f n) 5 σ)))).less (by omega)
    have HQ2 : Hid (q2 = tkQ (tkF f n) (tkP (tkF f n) (tkPos f n) 11 (tkP (tkF f n) (tkPos f n) 5 σ))) := hq2 rfl
    clear h2 hq2
    go_wp2_with fail
    refine (tk_rs HE.out 13 { data := #[44] } rfl (by omega) (by omega) v2 (tkP (tkF f n) (tkPos f n) 14 (tkP (tkF f n) (tkPos f n) 11 (tkP (tkF f n) (tkPos f n) 5 σ))) HS2.out HO2.out).mono ?_
    rintro e v3 ⟨q3, rfl, hq3, h3⟩
    have HS3 : Hid (RS (tkF f n) (tkPos f n) m w0 (.slice a n c) (p - dl σ) v3 (tkP (tkF f n) (tkPos f n) 13 (tkP (tkF f n) (tkPos f n) 14 (tkP (tkF f n) (tkPos f n) 11 (tkP (tkF f n) (tkPos f n) 5 σ))))) := h3.more (by omega)
    have HO3 : Hid (OkS (tkF f n) m (i0 + 1) (tkP (tkF f n) (tkPos f n) 13 (tkP (tkF f n) (tkPos f n) 14 (tkP (tkF f n) (tkPos f n) 11 (tkP (tkF f n) (tkPos f n) 5 σ))))) := (HO2.out.up (up_tk (A := (tkPos f n)) HL.out (c := 13) (by omega) (by omega) (tkP (tkF f n) (tkPos f n) 14 (tkP (tkF f n) (tkPos f n) 11 (tkP (tkF f n) (tkPos f n) 5 σ))))).less (by omega)
    clear h3 hq3
    go_wp2_with fail
    refine (tk_rs HE.out 14 { data := #[83, 84, 82] } rfl (by omega) (by omega) v3 (tkP (tkF f n) (tkPos f n) 13 (tkP (tkF f n) (tkPos f n) 14 (tkP (tkF f n) (tkPos f n) 11 (tkP (tkF f n) (tkPos f n) 5 σ)))) HS3.out HO3.out).mono ?_
    rintro e v4 ⟨q4, rfl, hq4, h4⟩
    have HS4 : Hid (RS (tkF f n) (tkPos f n) m w0 (.slice a n c) (p - dl σ) v4 (tkP (tkF f n) (tkPos f n) 14 (tkP (tkF f n) (tkPos f n) 13 (tkP (tkF f n) (tkPos f n) 14 (tkP (tkF f n) (tkPos f n) 11 (tkP (tkF f n) (tkPos f n) 5 σ)))))) := h4.more (by omega)
    have HO4 : Hid (OkS (tkF f n) m (i0 + 1) (tkP (tkF f n) (tkPos f n) 14 (tkP (tkF f n) (tkPos f n) 13 (tkP (tkF f n) (tkPos f n) 14 (tkP (tkF f n) (tkPos f n) 11 (tkP (tkF f n) (tkPos f n) 5 σ)))))) := (HO3.out.up (up_tk (A := (tkPos f n)) HL.out (c := 14) (by omega) (by omega) (tkP (tkF f n) (tkPos f n) 13 (tkP (tkF f n) (tkPos f n) 14 (tkP (tkF f n) (tkPos f n) 11 (tkP (tkF f n) (tkPos f n) 5 σ)))))).less (by omega)
    have HQ4 : Hid (q4 = tkQ (tkF f n) (tkP (tkF f n) (tkPos f n) 13 (tkP (tkF f n) (tkPos f n) 14 (tkP (tkF f n) (tkPos f n) 11 (tkP (tkF f n) (tkPos f n) 5 σ))))) := hq4 rfl
    clear h4 hq4
    go_wp2_with fail
    refine (tk_rs HE.out 12 { data := #[41] } rfl (by omega) (by omega) v4 (tkP (tkF f n) (tkPos f n) 14 (tkP (tkF f n) (tkPos f n) 13 (tkP (tkF f n) (tkPos f n) 14 (tkP (tkF f n) (tkPos f n) 11 (tkP (tkF f n) (tkPos f n) 5 σ))))) HS4.out HO4.out).mono ?_
    rintro e v5 ⟨q5, rfl, hq5, h5⟩
    have HS5 : Hid (RS (tkF f n) (tkPos f n) m w0 (.slice a n c) (p - dl σ) v5 (tkP (tkF f n) (tkPos f n) 12 (tkP (tkF f n) (tkPos f n) 14 (tkP (tkF f n) (tkPos f n) 13 (tkP (tkF f n) (tkPos f n) 14 (tkP (tkF f n) (tkPos f n) 11 (tkP (tkF f n) (tkPos f n) 5 σ))))))) := h5.more (by omega)
    have HO5 : Hid (OkS (tkF f n) m (i0 + 1) (tkP (tkF f n) (tkPos f n) 12 (tkP (tkF f n) (tkPos f n) 14 (tkP (tkF f n) (tkPos f n) 13 (tkP (tkF f n) (tkPos f n) 14 (tkP (tkF f n) (tkPos f n) 11 (tkP (tkF f n) (tkPos f n) 5 σ))))))) := (HO4.out.up (up_tk (A := (tkPos f n)) HL.out (c := 12) (by omega) (by omega) (tkP (tkF f n) (tkPos f n) 14 (tkP (tkF f n) (tkPos f n) 13 (tkP (tkF f n) (tkPos f n) 14 (tkP (tkF f n) (tkPos f n) 11 (tkP (tkF f n) (tkPos f n) 5 σ))))))).less (by omega)
    clear h5 hq5
    go_wp2_with fail
    refine (emit_rs HS5.out (by omega) ⟨5, tkQ (tkF f n) (tkP (tkF f n) (tkPos f n) 11 (tkP (tkF f n) (tkPos f n) 5 σ)), tkQ (tkF f n) (tkP (tkF f n) (tkPos f n) 13 (tkP (tkF f n) (tkPos f n) 14 (tkP (tkF f n) (tkPos f n) 11 (tkP (tkF f n) (tkPos f n) 5 σ))))⟩ 5 (strT q2) (strT q4) rfl (fun _ => by rw [HQ2.out]) (fun _ => by rw [HQ4.out]) ⟨_, _, rfl, rfl⟩).mono ?_
    rintro e w1 ⟨rfl, h1⟩
    have GL : Hid (RS (tkF f n) (tkPos f n) m w0 (.slice a n c) (p - dl σ + 1) w1 (moveF (tkF f n) (tkPos f n) σ)) := by show RS _ _ _ _ _ _ _ _; rw [HM.out]; exact h1
    clear h1
    go_wp2
    refine bodyPost_end (v := .tuple #[]) (by simp [results, Try.results151, go_sem]) rfl ⟨rfl, GL.out⟩
  have HM : Hid (moveF (tkF f n) (tkPos f n) σ = callF (tkF f n) (tkPos f n) 3 σ) := by show _ = _; unfold moveF; rw [if_neg h4, if_neg h5]
  obtain ⟨n4, n4'⟩ := kdW_no [105, 110] (k := 4) rfl h15 (by omega) h4
  obtain ⟨n5, n5'⟩ := kdW_no [104, 97, 115] (k := 5) rfl h15 (by omega) h5
  generalize kdW (kdS (tkF f n) σ) = K at *
  clear h4 h5 h15
  go_enter Try.func151, Try.ntmps151
  go_wp2_with fail
  refine (call_rs HE.out HL.out 3 _ rfl (by omega) (by omega) w p i0 hp σ HS.out HO.out).mono ?_
  rintro e w1 ⟨rfl, h1⟩
  have GL : Hid (RS (tkF f n) (tkPos f n) m w0 (.slice a n c) (p - dl σ + 1) w1 (moveF (tkF f n) (tkPos f n) σ)) := by show RS _ _ _ _ _ _ _ _; rw [HM.out]; exact h1
  clear h1
  go_wp2
  refine bodyPost_end (v := .tuple #[]) (by simp [results, Try.results151, go_sem]) rfl ⟨rfl, GL.out⟩
set_option maxHeartbeats 1000000 in
theorem inner_rs (E : Env w0 a n c f) (hl : LastK (tkF f n) m) (rec : (Nat × Nat × List Nd) ⊕ (Int × Int) → (Nat × Nat × List Nd) ⊕ (Int × Int)) (hr : ∀ σ, Up (tkF f n) m 0 σ (rec σ)) (i0 : Nat) (hrec : (∀ W p' s, i0 < s.1 → Okk (tkF f n) m s → p' ≤ 9000 → RS (tkF f n) (tkPos f n) m w0 (.slice a n c) p' W (.inl s) → Calls Try.prog 55 #[.pointer (some ⟨w0.heap.size, 0, none⟩)] W (FRet (tkF f n) (tkPos f n) m w0 (.slice a n c) p' (rec (.inl s))))) (w : World) (p : Nat) (hp : p ≤ 9000) (σ : (Nat × Nat × List Nd) ⊕ (Int × Int)) (h : RS (tkF f n) (tkPos f n) m w0 (.slice a n c) p w σ) (hok : OkS (tkF f n) m i0 σ) :
    Calls Try.prog 168 #[.pointer (some ⟨w0.heap.size, 0, none⟩)] w (FRet (tkF f n) (tkPos f n) m w0 (.slice a n c) p (innerF (tkF f n) (tkPos f n) rec σ)) := by
  have HE : Hid (Env w0 a n c f) := E
  have HL : Hid (LastK (tkF f n) m) := hl
  have HS : Hid (RS (tkF f n) (tkPos f n) m w0 (.slice a n c) p w σ) := h
  have HO : Hid (OkS (tkF f n) m i0 σ) := hok
  have HREC : Hid (∀ W p' s, i0 < s.1 → Okk (tkF f n) m s → p' ≤ 9000 → RS (tkF f n) (tkPos f n) m w0 (.slice a n c) p' W (.inl s) → Calls Try.prog 55 #[.pointer (some ⟨w0.heap.size, 0, none⟩)] W (FRet (tkF f n) (tkPos f n) m w0 (.slice a n c) p' (rec (.inl s)))) := hrec
  have HUP : Hid (∀ σ, Up (tkF f n) m 0 σ (rec σ)) := hr
  clear h hok E hl hrec hr
  go_enter Try.func168, Try.ntmps168
  go_wp2_with fail
  refine (tk_rs HE.out 11 { data := #[40] } rfl (by omega) (by omega) w σ HS.out HO.out).mono ?_
  rintro e w1 ⟨q1, rfl, _, h1⟩
  have HS1 : Hid (RS (tkF f n) (tkPos f n) m w0 (.slice a n c) p w1 (tkP (tkF f n) (tkPos f n) 11 σ)) := h1.more (by omega)
  have HO1 : Hid (OkS (tkF f n) m (i0 + 1) (tkP (tkF f n) (tkPos f n) 11 σ)) := HO.out.up (up_tk (A := (tkPos f n)) HL.out (c := 11) (by omega) (by omega) σ)
  clear h1
  obtain ⟨σ1, hσ1⟩ : ∃ σ1, σ1 = (tkP (tkF f n) (tkPos f n) 11 σ) := ⟨_, rfl⟩
  have HI : Hid (innerF (tkF f n) (tkPos f n) rec σ = tkP (tkF f n) (tkPos f n) 12 (recF rec σ1)) := by show _ = _; rw [hσ1]; rfl
  rw [← hσ1] at HS1 HO1
  clear hσ1
  have hlt := HS1.out.bel.2
  cases σ1 with
  | inl s =>
    have c7 : w1.cell? ⟨w0.heap.size, 7, none⟩ = some (.int .i64 0) := by
      obtain ⟨vn, g1, _⟩ := HS1.out
      exact g1.cells.2.2.2.2.2.2.2.1
    have HP : Hid (Calls Try.prog 55 #[.pointer (some ⟨w0.heap.size, 0, none⟩)] w1 (FRet (tkF f n) (tkPos f n) m w0 (.slice a n c) p (rec (.inl s)))) := HREC.out w1 p s (by have := (HO1.out s rfl).2; omega) (HO1.out s rfl).1 hp HS1.out
    have HO2 : Hid (OkS (tkF f n) m (i0 + 1) (rec (.inl s))) := HO1.out.up (HUP.out _)
    clear HREC HUP
    go_wp2_with fail
    refine HP.out.mono ?_
    rintro e w2 ⟨rfl, h2⟩
    have HS2 : Hid (RS (tkF f n) (tkPos f n) m w0 (.slice a n c) p w2 (rec (.inl s))) := h2
    clear h2 HP c7
    go_wp2_with fail
    refine (tk_rs HE.out 12 { data := #[41] } rfl (by omega) (by omega) w2 (rec (.inl s)) HS2.out HO2.out).mono ?_
    rintro e w3 ⟨q3, rfl, _, h3⟩
    have GL : Hid (RS (tkF f n) (tkPos f n) m w0 (.slice a n c) p w3 (innerF (tkF f n) (tkPos f n) rec σ)) := by show RS _ _ _ _ _ _ _ _; rw [HI.out]; exact h3.more (by omega)
    clear h3
    go_wp2
    refine bodyPost_end (v := .tuple #[]) (by simp [results, Try.results168, go_sem]) rfl ⟨rfl, GL.out⟩
  | inr x =>
    obtain ⟨e7, c7, n7⟩ : ∃ e : Int, w1.cell? ⟨w0.heap.size, 7, none⟩ = some (.int .i64 e) ∧ e ≠ 0 := by
      obtain ⟨bh, ta, mk, ct, vn, N, g1, _, g3⟩ := HS1.out
      exact ⟨_, g1.cells.2.2.2.2.2.2.2.1, g3⟩
    have n7' : (e7 == 0) = false := by simp [n7]
    clear HREC HUP
    go_wp2_with fail
    refine (tk_rs HE.out 12 { data := #[41] } rfl (by omega) (by omega) w1 (.inr x) HS1.out HO1.out).mono ?_
    rintro e w3 ⟨q3, rfl, _, h3⟩
    have GL : Hid (RS (tkF f n) (tkPos f n) m w0 (.slice a n c) p w3 (innerF (tkF f n) (tkPos f n) rec σ)) := by show RS _ _ _ _ _ _ _ _; rw [HI.out]; exact h3.more (by omega)
    clear h3
    go_wp2
    refine bodyPost_end (v := .tuple #[]) (by simp [results, Try.results168, go_sem]) rfl ⟨rfl, GL.out⟩
set_option maxHeartbeats 1000000 in
theorem prim_rs (E : Env w0 a n c f) (hl : LastK (tkF f n) m) (rec : (Nat × Nat × List Nd) ⊕ (Int × Int) → (Nat × Nat × List Nd) ⊕ (Int × Int)) (hr : ∀ σ, Up (tkF f n) m 0 σ (rec σ)) (i0 : Nat) (hrec : (∀ W p' s, i0 < s.1 → Okk (tkF f n) m s → p' ≤ 9000 → RS (tkF f n) (tkPos f n) m w0 (.slice a n c) p' W (.inl s) → Calls Try.prog 55 #[.pointer (some ⟨w0.heap.size, 0, none⟩)] W (FRet (tkF f n) (tkPos f n) m w0 (.slice a n c) p' (rec (.inl s))))) (w : World) (p : Nat) (hp : p ≤ 9000) (σ : (Nat × Nat × List Nd) ⊕ (Int × Int)) (h : RS (tkF f n) (tkPos f n) m w0 (.slice a n c) p w σ) (hok : OkS (tkF f n) m i0 σ) :
    Calls Try.prog 150 #[.pointer (some ⟨w0.heap.size, 0, none⟩)] w (FRet (tkF f n) (tkPos f n) m w0 (.slice a n c) p (primF (tkF f n) (tkPos f n) rec σ)) := by
  have HE : Hid (Env w0 a n c f) := E
  have HL : Hid (LastK (tkF f n) m) := hl
  have HS : Hid (RS (tkF f n) (tkPos f n) m w0 (.slice a n c) p w σ) := h
  have HO : Hid (OkS (tkF f n) m i0 σ) := hok
  have c2 := h.kind
  have hlt := h.bel.2
  have h15 := kdS_le f n σ
  have HIN : Hid (∀ W p' σ', p' ≤ 9000 → RS (tkF f n) (tkPos f n) m w0 (.slice a n c) p' W σ' → OkS (tkF f n) m i0 σ' → Calls Try.prog 168 #[.pointer (some ⟨w0.heap.size, 0, none⟩)] W (FRet (tkF f n) (tkPos f n) m w0 (.slice a n c) p' (innerF (tkF f n) (tkPos f n) rec σ'))) := fun W p' σ' q1 q2 q3 => inner_rs HE.out HL.out rec hr i0 hrec W p' q1 σ' q2 q3
  have HPP : Hid (kdS (tkF f n) σ ≠ 0 → 1 ≤ p ∧ dl σ = 1) := fun e => by
    obtain ⟨s, rfl⟩ := kdS_inl e
    exact ⟨HS.out.pos HO.out, rfl⟩
  clear h hok E hl hrec hr
  by_cases h1 : kdS (tkF f n) σ = 1
  · obtain ⟨p1, p2⟩ := HPP.out (by omega)
    have HM : Hid (primF (tkF f n) (tkPos f n) rec σ = emP ⟨1, [], []⟩ (tkP (tkF f n) (tkPos f n) 1 σ)) := by show _ = _; unfold primF; rw [if_pos h1]
    rw [h1] at c2
    have c2' : w.cell? ⟨w0.heap.size, 2, none⟩ = some (.string { data := #[97, 108, 108] }) := c2
    clear c2 h1 HIN
    go_enter Try.func150, Try.ntmps150
    go_wp2_with fail
    refine (tk_rs HE.out 1 { data := #[97, 108, 108] } rfl (by omega) (by omega) w σ HS.out HO.out).mono ?_
    rintro e v0 ⟨q0, rfl, hq0, h0⟩
    have HS0 : Hid (RS (tkF f n) (tkPos f n) m w0 (.slice a n c) (p - 1) v0 (tkP (tkF f n) (tkPos f n) 1 σ)) := h0.more (by first | omega | (simp [dl]; done) | exact Nat.le_refl _)
    have HO0 : Hid (OkS (tkF f n) m (i0 + 1) (tkP (tkF f n) (tkPos f n) 1 σ)) := (HO.out.up (up_tk (A := (tkPos f n)) HL.out (c := 1) (by omega) (by omega) σ)).less (by omega)
    clear h0 hq0
    go_wp2_with fail
    refine (emit_rs HS0.out (by omega) ⟨1, [], []⟩ 1 { data := #[] } { data := #[] } rfl (fun _ => rfl) (fun _ => rfl) ⟨[], [], rfl, rfl⟩).mono ?_
    rintro e w1 ⟨rfl, h1⟩
    have GL : Hid (RS (tkF f n) (tkPos f n) m w0 (.slice a n c) p w1 (primF (tkF f n) (tkPos f n) rec σ)) := by show RS _ _ _ _ _ _ _ _; rw [HM.out]; exact h1.more (by omega)
    clear h1
    go_wp2
    refine bodyPost_end (v := .tuple #[]) (by simp [results, Try.results150, go_sem]) rfl ⟨rfl, GL.out⟩
  by_cases h2 : kdS (tkF f n) σ = 2
  · obtain ⟨p1, p2⟩ := HPP.out (by omega)
    have HM : Hid (primF (tkF f n) (tkPos f n) rec σ = callF (tkF f n) (tkPos f n) 2 σ) := by show _ = _; unfold primF; rw [if_neg h1, if_pos h2]
    rw [h2] at c2
    have c2' : w.cell? ⟨w0.heap.size, 2, none⟩ = some (.string { data := #[118] }) := c2
    clear c2 h1 h2 HIN
    go_enter Try.func150, Try.ntmps150
    go_wp2_with fail
    refine (call_rs HE.out HL.out 2 _ rfl (by omega) (by omega) w p i0 hp σ HS.out HO.out).mono ?_
    rintro e w1 ⟨rfl, h1⟩
    have GL : Hid (RS (tkF f n) (tkPos f n) m w0 (.slice a n c) p w1 (primF (tkF f n) (tkPos f n) rec σ)) := by show RS _ _ _ _ _ _ _ _; rw [HM.out]; exact h1.more (by omega)
    clear h1
    go_wp2
    refine bodyPost_end (v := .tuple #[]) (by simp [results, Try.results150, go_sem]) rfl ⟨rfl, GL.out⟩
  by_cases h9 : kdS (tkF f n) σ = 9
  · obtain ⟨p1, p2⟩ := HPP.out (by omega)
    have HM : Hid (primF (tkF f n) (tkPos f n) rec σ = emP ⟨9, tkQ (tkF f n) (tkP (tkF f n) (tkPos f n) 9 σ), []⟩ (innerF (tkF f n) (tkPos f n) rec (tkP (tkF f n) (tkPos f n) 14 (tkP (tkF f n) (tkPos f n) 9 σ)))) := by show _ = _; unfold primF; rw [if_neg h1, if_neg h2, if_pos h9]
    rw [h9] at c2
    have c2' : w.cell? ⟨w0.heap.size, 2, none⟩ = some (.string { data := #[103, 114, 97, 112, 104] }) := c2
    clear c2 h1 h2 h9
    go_enter Try.func150, Try.ntmps150
    go_wp2_with fail
    refine (tk_rs HE.out 9 { data := #[103, 114, 97, 112, 104] } rfl (by omega) (by omega) w σ HS.out HO.out).mono ?_
    rintro e v0 ⟨q0, rfl, hq0, h0⟩
    have HS0 : Hid (RS (tkF f n) (tkPos f n) m w0 (.slice a n c) (p - 1) v0 (tkP (tkF f n) (tkPos f n) 9 σ)) := h0.more (by first | omega | (simp [dl]; done) | exact Nat.le_refl _)
    have HO0 : Hid (OkS (tkF f n) m (i0 + 1) (tkP (tkF f n) (tkPos f n) 9 σ)) := (HO.out.up (up_tk (A := (tkPos f n)) HL.out (c := 9) (by omega) (by omega) σ)).less (by omega)
    clear h0 hq0
    go_wp2_with fail
    refine (tk_rs HE.out 14 { data := #[83, 84, 82] } rfl (by omega) (by omega) v0 (tkP (tkF f n) (tkPos f n) 9 σ) HS0.out HO0.out).mono ?_
    rintro e v1 ⟨q1, rfl, hq1, h1⟩
    have HS1 : Hid (RS (tkF f n) (tkPos f n) m w0 (.slice a n c) (p - 1) v1 (tkP (tkF f n) (tkPos f n) 14 (tkP (tkF f n) (tkPos f n) 9 σ))) := h1.more (by omega)
    have HO1 : Hid (OkS (tkF f n) m (i0 + 1) (tkP (tkF f n) (tkPos f n) 14 (tkP (tkF f n) (tkPos f n) 9 σ))) := (HO0.out.up (up_tk (A := (tkPos f n)) HL.out (c := 14) (by omega) (by omega) (tkP (tkF f n) (tkPos f n) 9 σ))).less (by omega)
    have HQ1 : Hid (q1 = tkQ (tkF f n) (tkP (tkF f n) (tkPos f n) 9 σ)) := hq1 rfl
    clear h1 hq1
    go_wp2_with fail
    refine (HIN.out v1 (p - 1) (tkP (tkF f n) (tkPos f n) 14 (tkP (tkF f n) (tkPos f n) 9 σ)) (by omega) HS1.out (HO1.out.less (by omega))).mono ?_
    rintro e w5 ⟨rfl, h5⟩
    have HS5 : Hid (RS (tkF f n) (tkPos f n) m w0 (.slice a n c) (p - 1) w5 (innerF (tkF f n) (tkPos f n) rec (tkP (tkF f n) (tkPos f n) 14 (tkP (tkF f n) (tkPos f n) 9 σ)))) := h5
    clear h5 HIN
    go_wp2_with fail
    refine (emit_rs HS5.out (by omega) ⟨9, tkQ (tkF f n) (tkP (tkF f n) (tkPos f n) 9 σ), []⟩ 9 (strT q1) { data := #[] } rfl (fun _ => by rw [HQ1.out]) (fun _ => rfl) ⟨_, [], rfl, rfl⟩).mono ?_
    rintro e w1 ⟨rfl, h1⟩
    have GL : Hid (RS (tkF f n) (tkPos f n) m w0 (.slice a n c) p w1 (primF (tkF f n) (tkPos f n) rec σ)) := by show RS _ _ _ _ _ _ _ _; rw [HM.out]; exact h1.more (by omega)
    clear h1
    go_wp2
    refine bodyPost_end (v := .tuple #[]) (by simp [results, Try.results150, go_sem]) rfl ⟨rfl, GL.out⟩
  have HM : Hid (primF (tkF f n) (tkPos f n) rec σ = innerF (tkF f n) (tkPos f n) rec σ) := by show _ = _; unfold primF; rw [if_neg h1, if_neg h2, if_neg h9]
  obtain ⟨n1, n1'⟩ := kdW_no [97, 108, 108] (k := 1) rfl h15 (by omega) h1
  obtain ⟨n2, n2'⟩ := kdW_no [118] (k := 2) rfl h15 (by omega) h2
  obtain ⟨n9, n9'⟩ := kdW_no [103, 114, 97, 112, 104] (k := 9) rfl h15 (by omega) h9
  generalize kdW (kdS (tkF f n) σ) = K at *
  clear h1 h2 h9 h15
  go_enter Try.func150, Try.ntmps150
  go_wp2_with fail
  refine (HIN.out w p σ hp HS.out HO.out).mono ?_
  rintro e w1 ⟨rfl, h1⟩
  have GL : Hid (RS (tkF f n) (tkPos f n) m w0 (.slice a n c) p w1 (primF (tkF f n) (tkPos f n) rec σ)) := by show RS _ _ _ _ _ _ _ _; rw [HM.out]; exact h1
  clear h1
  go_wp2
  refine bodyPost_end (v := .tuple #[]) (by simp [results, Try.results150, go_sem]) rfl ⟨rfl, GL.out⟩
end
end Go.Proofs.Ytocmbnocdjnfpaa
