import Derived.Test.YtakemeccigpbaaaTgB
namespace Go.Proofs.Ytakemeccigpbaaa
open Go.RowKit Go.Deep
set_option linter.unusedVariables false
set_option maxRecDepth 100000

/-- What TreeRange answers. -/
def RetRg (w : World) (n : Nat) (N : Nat → Tn) (lo hi : ByteArray) (e : Ending) (w' : World) : Prop :=
  ∃ (L : List ByteArray) (a : Option Addr) (c : Nat), e = .returned (.slice a L.length c) ∧ OwnS w' w.heap.size a L.length (gt L) ∧ Below w.heap.size w w' ∧ L.length ≤ 1048576 ∧ ((∃ t, VTt n N t ∧ L = fil lo hi (keysR 21 t)) ∨ (¬ VT n N ∧ L = []))

set_option maxHeartbeats 2000000 in
theorem implRg (a : Option Addr) (n c : Nat) (N : Nat → Tn) (lo hi : ByteArray) (w : World) (h : RdTn w a n N) (hn : n ≤ 1048576) (hN : ∀ i, i < n → TnFit (N i)) :
    Calls Try.prog 18 #[.agg #[.slice a n c], .string lo, .string hi] w (RetRg w n N lo hi) := by
  have HR : Hid (RdTn w a n N ∧ ∀ i, i < n → TnFit (N i)) := ⟨h, hN⟩
  clear h hN
  go_enter Try.func18, Try.ntmps18
  go_wp2_with fail
  refine (readTree_any a n c N _ (HR.out.1.below (below_alloc _ _)) hn HR.out.2).mono ?_
  rintro e w1 ⟨hb1, v, ok, rfl, hr⟩
  have H1 : Hid (Below w.heap.size w w1) := (below_alloc _ _).trans (hb1.mono (by simp))
  clear hb1
  cases ok with
  | false =>
    have HNo : Hid (¬ VT n N) := by
      rcases hr with ⟨q, _⟩ | ⟨_, q⟩
      · cases q
      · exact q
    clear hr
    go_wp2
    go_ret
    exact ⟨[], none, 0, rfl, .inl rfl, H1.out, Nat.zero_le _, .inr ⟨HNo.out, rfl⟩⟩
  | true =>
    obtain ⟨t, t', hh, q1, q2, q3, q4, q5, q6⟩ : ∃ (t : Ro n) (t' : Ro 21) (h : Nat), VTt n N t' ∧ keysR 21 t' = keysR n t ∧ BalR n true t h ∧ Tells N 0 n t 0 ∧ nodesR n t = n ∧ TAt (fun b => (w.alloc (.cells #[.slice a n c] 25)).heap.size ≤ b) w1 n t v := by
      rcases hr with ⟨_, q⟩ | ⟨q, _⟩
      · exact q
      · cases q
    have hasc : Asc (keysR n t) := by
      rw [← q2]
      exact asc_of_ascK q1.2.2.2.2.1
    have hlen : (keysR n t).length ≤ 1048576 := by
      have := fit_len (bal_fit q3)
      have := q1.2.1
      omega
    have hga := gather_any lo hi w1.heap.size w1 n t v true hh (q6.mono (Nat.le_refl _) (fun bb _ hlt => ⟨hlt, rfl⟩)) q3 hasc hlen
    have HV : Hid (VTt n N t' ∧ fil lo hi (keysR n t) = fil lo hi (keysR 21 t') ∧ (fil lo hi (keysR n t)).length ≤ 1048576 ∧ (keysR n t).length ≤ 1048576) := ⟨q1, by rw [q2], by have := fil_le lo hi (keysR n t); omega, hlen⟩
    have HFin : Hid (∀ (L : List ByteArray) (a5 : Option Addr) (c5 : Nat) (w5 : World), L = [] ++ fil lo hi (keysR n t) → w5.ownsRow w1.heap.size 9 1 (.slice a5 L.length c5) L.length (strL L) → Below w1.heap.size w1 w5 → RetRg w n N lo hi (.returned (.slice a5 L.length c5)) w5) := by
      intro L a5 c5 w5 hL ho hb
      obtain ⟨a6, c6, e6, q, _⟩ := ownS_strL ho rfl
      injection e6 with e6 _ _
      subst e6
      rw [List.nil_append] at hL
      refine ⟨L, a5, c5, rfl, q.mono H1.out.size, H1.out.trans (hb.mono H1.out.size), by rw [hL]; exact HV.out.2.2.1, .inl ⟨t', HV.out.1, by rw [hL]; exact HV.out.2.1⟩⟩
    clear hr q1 q2 q3 q4 q5 q6 hasc hlen
    rcases hga with ⟨p, rfl, hcall⟩ | ⟨p, rfl, hcall⟩
    · have HC : Hid (Calls Try.prog 105 #[.pointer (some p), .slice none 0 0, .string lo, .string hi] w1 (RetGa w1.heap.size w1 ([] ++ fil lo hi (keysR n t)))) := hcall w1 none 0 0 [] (Below.refl _ _) (Nat.le_refl _) (World.ownsRow_nil _ _ _ _) rfl (by omega)
      clear hcall
      go_wp2_with fail
      refine HC.out.mono ?_
      rintro e w5 ⟨a5, c5, he, ho, hb⟩
      obtain ⟨L, hL⟩ : ∃ L, L = [] ++ fil lo hi (keysR n t) := ⟨_, rfl⟩
      rw [← hL] at he ho
      have HX := HFin.out L a5 c5 w5 hL ho hb
      have HX2 : Hid (RetRg w n N lo hi (.returned (.slice a5 L.length c5)) w5) := HX
      subst he
      clear ho hb HX hL
      generalize L.length = m at HX2 ⊢
      go_wp2
      go_ret
      exact HX2.out
    · have HC : Hid (Calls Try.prog 122 #[.pointer (some p), .slice none 0 0, .string lo, .string hi] w1 (RetGa w1.heap.size w1 ([] ++ fil lo hi (keysR n t)))) := hcall w1 none 0 0 [] (Below.refl _ _) (Nat.le_refl _) (World.ownsRow_nil _ _ _ _) rfl (by have := HV.out.2.2.2; omega)
      clear hcall
      go_wp2_with fail
      refine HC.out.mono ?_
      rintro e w5 ⟨a5, c5, he, ho, hb⟩
      obtain ⟨L, hL⟩ : ∃ L, L = [] ++ fil lo hi (keysR n t) := ⟨_, rfl⟩
      rw [← hL] at he ho
      have HX := HFin.out L a5 c5 w5 hL ho hb
      have HX2 : Hid (RetRg w n N lo hi (.returned (.slice a5 L.length c5)) w5) := HX
      subst he
      clear ho hb HX hL
      generalize L.length = m at HX2 ⊢
      go_wp2
      go_ret
      exact HX2.out
end Go.Proofs.Ytakemeccigpbaaa
