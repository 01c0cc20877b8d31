import Derived.Test.YtakemeccigpbaaaTkJ
namespace Go.Proofs.Ytakemeccigpbaaa
open Go.RowKit Go.Deep
set_option linter.unusedVariables false
set_option maxRecDepth 100000

/-- What TreeRank answers. -/
def RetRk (w : World) (n : Nat) (N : Nat → Tn) (key : ByteArray) (e : Ending) (w' : World) : Prop :=
  ∃ r : Nat, e = .returned (.int .i64 (r : Int)) ∧ Below w.heap.size w w' ∧ ((∃ t, VTt n N t ∧ r = cntL key (keysR 21 t)) ∨ (¬ VT n N ∧ r = 0))

theorem vtt_fn {n : Nat} {N : Nat → Tn} {t t' : Ro 21} (h : VTt n N t) (h' : VTt n N t') : t = t' := by
  have q := h.2.2.1
  rw [h'.2.2.1] at q
  injection q with q
  injection q with q _
  exact q.symm

set_option maxHeartbeats 2000000 in
theorem implRk (a : Option Addr) (n c : Nat) (N : Nat → Tn) (key : ByteArray) (w : World) (h : RdTn w a n N) (hn : n ≤ 1048576) (hN : ∀ i, i < n → TnFit (N i)) :
    Calls Try.prog 19 #[.agg #[.slice a n c], .string key] w (RetRk w n N key) := by
  have HR : Hid (RdTn w a n N ∧ ∀ i, i < n → TnFit (N i)) := ⟨h, hN⟩
  clear h hN
  go_enter Try.func19, Try.ntmps19
  go_wp2_with fail
  refine (readTree_any a n c N _ (HR.out.1.below (below_alloc _ _)) hn HR.out.2).mono ?_
  rintro e w1 ⟨hb1, v, ok, rfl, hr⟩
  have H1 : Hid (Below w.heap.size w w1) := (below_alloc _ _).trans (hb1.mono (by simp))
  clear hb1
  cases ok with
  | false =>
    have HNo : Hid (¬ VT n N) := by
      rcases hr with ⟨q, _⟩ | ⟨_, q⟩
      · cases q
      · exact q
    clear hr
    go_wp2
    go_ret
    exact ⟨0, rfl, H1.out, .inr ⟨HNo.out, rfl⟩⟩
  | true =>
    obtain ⟨t, t', hh, q1, q2, q3, q4, q5, q6⟩ : ∃ (t : Ro n) (t' : Ro 21) (h : Nat), VTt n N t' ∧ keysR 21 t' = keysR n t ∧ BalR n true t h ∧ Tells N 0 n t 0 ∧ nodesR n t = n ∧ TAt (fun b => (w.alloc (.cells #[.slice a n c] 25)).heap.size ≤ b) w1 n t v := by
      rcases hr with ⟨_, q⟩ | ⟨q, _⟩
      · exact q
      · cases q
    have hasc : Asc (keysR n t) := by
      rw [← q2]
      exact asc_of_ascK q1.2.2.2.2.1
    have hlen : (keysR n t).length ≤ 1048576 := by
      have := fit_len (bal_fit q3)
      have := q1.2.1
      omega
    have hrk := rank_any key w1 _ n t v true hh q6 q3 hasc hlen
    have HV : Hid (VTt n N t' ∧ cntL key (keysR n t) = cntL key (keysR 21 t')) := ⟨q1, by rw [q2]⟩
    clear hr q1 q2 q3 q4 q5 q6 hasc hlen
    obtain ⟨R, hR⟩ : ∃ R, R = cntL key (keysR n t) := ⟨_, rfl⟩
    rw [← hR] at hrk HV
    clear hR
    rcases hrk with ⟨p, rfl, hcall⟩ | ⟨p, rfl, hcall⟩
    · have HC : Hid (Calls Try.prog 108 #[.pointer (some p), .string key] w1 fun e w' => e = .returned (.int .i64 (R : Int)) ∧ w' = w1) := hcall
      clear hcall
      go_wp2_with fail
      refine HC.out.mono ?_
      rintro e w2 ⟨rfl, rfl⟩
      go_wp2
      go_ret
      exact ⟨R, rfl, H1.out, .inl ⟨t', HV.out⟩⟩
    · have HC : Hid (Calls Try.prog 125 #[.pointer (some p), .string key] w1 fun e w' => e = .returned (.int .i64 (R : Int)) ∧ w' = w1) := hcall
      clear hcall
      go_wp2_with fail
      refine HC.out.mono ?_
      rintro e w2 ⟨rfl, rfl⟩
      go_wp2
      go_ret
      exact ⟨R, rfl, H1.out, .inl ⟨t', HV.out⟩⟩

set_option maxHeartbeats 1000000 in
theorem keys_zero (w : World) : Calls Try.prog 43 #[.agg #[.bool false, .slice none 0 0, .slice none 0 0]] w fun e w' => ∃ a c, e = .returned (.slice a 0 c) ∧ Below w.heap.size w w' := by
  go_enter Try.func43, Try.ntmps43
  go_wp2
  go_loopw [3, 4] (fun q i wr => i = .int .i64 0 ∧ q = .slice (some ⟨w.heap.size + 1, 0, none⟩) 0 0 ∧ wr = ((w.alloc (.cells #[.bool false, .slice none 0 0, .slice none 0 0] 67)).alloc (.cells #[] 9))) (fun _ i _ => 1 - (intOf i).toNat)
  case atStart => exact ⟨rfl, by simp, rfl⟩
  case round =>
    obtain ⟨rfl, rfl, rfl⟩ := hrel
    go_wp2
    go_ret
    exact ⟨_, _, rfl, (below_alloc _ _).alloc (by simp) _⟩

theorem cntL_take {key : ByteArray} {L : List ByteArray} {k : Nat} (h : k < L.length) : cntL key (L.take (k + 1)) = cntL key (L.take k) + (if Op.bytesLess (gt L k).toList key.toList = true then 1 else 0) := by
  rw [chain_take h, cntL_app]
  congr 1
  unfold cntL
  rw [List.filter_cons, List.filter_nil]
  cases Op.bytesLess (gt L k).toList key.toList <;> rfl

set_option maxHeartbeats 4000000 in
theorem specRk (a : Option Addr) (n c : Nat) (N : Nat → Tn) (key : ByteArray) (w : World) (h : RdTn w a n N) (hn : n ≤ 1048576) (hN : ∀ i, i < n → TnFit (N i)) :
    Calls Try.prog 23 #[.agg #[.slice a n c], .string key] w (RetRk w n N key) := by
  have HR : Hid (RdTn w a n N ∧ ∀ i, i < n → TnFit (N i)) := ⟨h, hN⟩
  clear h hN
  go_enter Try.func23, Try.ntmps23
  go_wp2_with fail
  refine (of_any a n c N _ (HR.out.1.below (below_alloc _ _)) hn HR.out.2).mono ?_
  rintro e w1 ⟨hb1, lf, ka, kn, kc, ca, cn, cc, ok, rfl, hr⟩
  have H1 : Hid (Below w.heap.size w w1) := (below_alloc _ _).trans (hb1.mono (by simp))
  have HRR : Hid ((ok = false ∧ ¬ VT n N ∧ XV w1 (.agg #[.bool lf, .slice ka kn kc, .slice ca cn cc])) ∨ (ok = true ∧ ∃ t, VTt n N t ∧ NA w1 21 t (.agg #[.bool lf, .slice ka kn kc, .slice ca cn cc]))) := hr
  clear hb1 hr
  have HKeys : Hid (∀ W, Below w1.heap.size w1 W → Calls Try.prog 43 #[.agg #[.bool lf, .slice ka kn kc, .slice ca cn cc]] W (fun e w' => ∃ a3 m c3, e = .returned (.slice a3 m c3) ∧ m ≤ 1099511627776 ∧ Below W.heap.size W w' ∧ ((ok = false ∧ ¬ VT n N) ∨ (ok = true ∧ ∃ t, VTt n N t ∧ m = (keysR 21 t).length ∧ RdS w' a3 m (gt (keysR 21 t)))))) := by
    intro W hW
    rcases HRR.out with ⟨q1, q2, q3⟩ | ⟨q1, t, q2, q3⟩
    · rcases q3 with q3 | ⟨t, q3, q4, q5⟩
      · rw [q3]
        refine (keys_zero W).mono (fun e w' hr => ?_)
        obtain ⟨a3, c3, e1, hb⟩ := hr
        exact ⟨a3, 0, c3, e1, by omega, hb, .inl ⟨q1, q2⟩⟩
      · refine (keys_any 21 t _ W (NA.below q3 hW) q4 q5).mono (fun e w' hr => ?_)
        obtain ⟨a3, c3, e1, _, hb, _⟩ := hr
        exact ⟨a3, _, c3, e1, q5, hb, .inl ⟨q1, q2⟩⟩
    · obtain ⟨v1, v2, v3, ⟨hh, v4⟩, v5, v6⟩ := q2
      have hend := nestR_end v3
      have hfit := fit_len (bal_fit v4)
      refine (keys_any 21 t _ W (NA.below q3 hW) (by omega) (by omega)).mono (fun e w' hr => ?_)
      obtain ⟨a3, c3, e1, ho, hb, _⟩ := hr
      exact ⟨a3, _, c3, e1, by omega, hb, .inr ⟨q1, t, ⟨v1, v2, v3, ⟨hh, v4⟩, v5, v6⟩, rfl, ho.rd⟩⟩
  clear HRR
  go_upto_region 2 with fail
  have S1 : Hid (Bx (w1.alloc (.cells #[.bool lf, .slice ka kn kc, .slice ca cn cc] 67)) w1.heap.size 67 #[.bool lf, .slice ka kn kc, .slice ca cn cc] ∧ Below w1.heap.size w1 (w1.alloc (.cells #[.bool lf, .slice ka kn kc, .slice ca cn cc] 67)) ∧ Below w.heap.size w (w1.alloc (.cells #[.bool lf, .slice ka kn kc, .slice ca cn cc] 67))) := ⟨Bx.new _ _ _, below_alloc _ _, H1.out.trans ((below_alloc _ _).mono H1.out.size)⟩
  generalize (w1.alloc (.cells #[.bool lf, .slice ka kn kc, .slice ca cn cc] 67)) = W at S1 ⊢
  have x0 := S1.out.1.cell 0
  have x1 := S1.out.1.cell 1
  have x2 := S1.out.1.cell 2
  simp at x0 x1 x2
  go_wp2_with fail
  refine (HKeys.out W S1.out.2.1).mono ?_
  rintro e w3 ⟨a3, m, c3, rfl, hm40, hb3, hr3⟩
  have H3 : Hid (Below w.heap.size w w3) := S1.out.2.2.trans (hb3.mono S1.out.2.2.size)
  clear HKeys hb3 S1 x0 x1 x2
  cases ok with
  | false =>
    have HNo : Hid (¬ VT n N) := by
      rcases hr3 with ⟨_, q⟩ | ⟨q, _⟩
      · exact q
      · cases q
    clear hr3
    go_wp2
    go_loopw [7, 9] (fun q i wr => i = .int .i64 0 ∧ q = .int .i64 0 ∧ wr = w3) (fun _ i _ => 1 - (intOf i).toNat)
    case atStart => exact ⟨rfl, rfl, rfl⟩
    case round =>
      obtain ⟨rfl, rfl, rfl⟩ := hrel
      go_wp2
      go_ret
      exact ⟨0, rfl, H3.out, .inr ⟨HNo.out, rfl⟩⟩
  | true =>
    obtain ⟨t, q1, q2, q3⟩ : ∃ t, VTt n N t ∧ m = (keysR 21 t).length ∧ RdS w3 a3 m (gt (keysR 21 t)) := by
      rcases hr3 with ⟨q, _⟩ | ⟨_, q⟩
      · cases q
      · exact q
    have HV : Hid (VTt n N t) := q1
    obtain ⟨L, hL⟩ : ∃ L, keysR 21 t = L := ⟨_, rfl⟩
    rw [hL] at q2 q3
    have HL : Hid (keysR 21 t = L ∧ m = L.length ∧ RdS w3 a3 m (gt L)) := ⟨hL, q2, q3⟩
    clear hr3 q1 q2 q3 hL
    go_wp2
    go_loopw [7, 9] (fun q i wr => ∃ k r : Nat, k ≤ m ∧ i = .int .i64 k ∧ q = .int .i64 r ∧ r = cntL key (L.take k) ∧ r ≤ k ∧ wr = w3) (fun _ i _ => m - (intOf i).toNat)
    case atStart => exact ⟨0, 0, Nat.zero_le _, rfl, rfl, rfl, Nat.le_refl _, rfl⟩
    case round =>
      obtain ⟨k, r, hk, rfl, rfl, hr, hrk, rfl⟩ := hrel
      have HRr : Hid (r = cntL key (L.take k)) := hr
      clear hr
      by_cases hlt : k < m
      · have hlk : k < L.length := by rw [← HL.out.2.1]; exact hlt
        rcases HL.out.2.2 with q | ⟨b3, o3, rfl, hc3⟩
        · omega
        have s1 := hc3 k hlt
        have i0 : (0 : Int) ≤ (k : Int) := by omega
        have i1 : (k : Int) < (m : Int) := by omega
        have htk := cntL_take (key := key) hlk
        clear hc3
        cases hls : Op.bytesLess (gt L k).toList key.toList with
        | true =>
          have HN : Hid (r + 1 = cntL key (L.take (k + 1))) := by
            show r + 1 = cntL key (L.take (k + 1))
            rw [htk, hls, HRr.out]
            rfl
          clear htk
          go_wp2
          go_roundw
          case rel => exact ⟨k + 1, r + 1, by omega, by go_num, by go_num, HN.out, by omega, trivial⟩
          case measure => simp [intOf]; omega
        | false =>
          have HN : Hid (r = cntL key (L.take (k + 1))) := by
            show r = cntL key (L.take (k + 1))
            rw [htk, hls, HRr.out]
            rfl
          clear htk
          go_wp2
          go_roundw
          case rel => exact ⟨k + 1, r, by omega, by go_num, rfl, HN.out, by omega, trivial⟩
          case measure => simp [intOf]; omega
      · have e : k = m := by omega
        subst e
        have HE : Hid (r = cntL key (keysR 21 t)) := by
          show r = cntL key (keysR 21 t)
          rw [HRr.out, HL.out.1, HL.out.2.1, List.take_length]
        go_wp2
        go_ret
        exact ⟨r, rfl, H3.out, .inl ⟨t, HV.out, HE.out⟩⟩
end Go.Proofs.Ytakemeccigpbaaa
