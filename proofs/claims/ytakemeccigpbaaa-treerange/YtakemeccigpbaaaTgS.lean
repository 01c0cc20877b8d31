import Derived.Test.YtakemeccigpbaaaTgC
namespace Go.Proofs.Ytakemeccigpbaaa
open Go.RowKit Go.Deep
set_option linter.unusedVariables false
set_option maxRecDepth 100000

set_option maxHeartbeats 4000000 in
theorem specRg (a : Option Addr) (n c : Nat) (N : Nat → Tn) (lo hi : ByteArray) (w : World) (h : RdTn w a n N) (hn : n ≤ 1048576) (hN : ∀ i, i < n → TnFit (N i)) :
    Calls Try.prog 24 #[.agg #[.slice a n c], .string lo, .string hi] w (RetRg w n N lo hi) := by
  have HR : Hid (RdTn w a n N ∧ ∀ i, i < n → TnFit (N i)) := ⟨h, hN⟩
  clear h hN
  go_enter Try.func24, Try.ntmps24
  go_wp2_with fail
  refine (of_any a n c N _ (HR.out.1.below (below_alloc _ _)) hn HR.out.2).mono ?_
  rintro e w1 ⟨hb1, lf, ka, kn, kc, ca, cn, cc, ok, rfl, hr⟩
  have H1 : Hid (Below w.heap.size w w1) := (below_alloc _ _).trans (hb1.mono (by simp))
  have HRR : Hid ((ok = false ∧ ¬ VT n N ∧ XV w1 (.agg #[.bool lf, .slice ka kn kc, .slice ca cn cc])) ∨ (ok = true ∧ ∃ t, VTt n N t ∧ NA w1 21 t (.agg #[.bool lf, .slice ka kn kc, .slice ca cn cc]))) := hr
  clear hb1 hr
  have HKeys : Hid (∀ W, Below w1.heap.size w1 W → Calls Try.prog 43 #[.agg #[.bool lf, .slice ka kn kc, .slice ca cn cc]] W (fun e w' => ∃ a3 m c3, e = .returned (.slice a3 m c3) ∧ m ≤ 1099511627776 ∧ Below W.heap.size W w' ∧ ((ok = false ∧ ¬ VT n N) ∨ (ok = true ∧ ∃ t, VTt n N t ∧ m = (keysR 21 t).length ∧ OwnS w' W.heap.size a3 m (gt (keysR 21 t)))))) := by
    intro W hW
    rcases HRR.out with ⟨q1, q2, q3⟩ | ⟨q1, t, q2, q3⟩
    · rcases q3 with q3 | ⟨t, q3, q4, q5⟩
      · rw [q3]
        refine (keys_zero W).mono (fun e w' hr => ?_)
        obtain ⟨a3, c3, e1, hb⟩ := hr
        exact ⟨a3, 0, c3, e1, by omega, hb, .inl ⟨q1, q2⟩⟩
      · refine (keys_any 21 t _ W (NA.below q3 hW) q4 q5).mono (fun e w' hr => ?_)
        obtain ⟨a3, c3, e1, _, hb, _⟩ := hr
        exact ⟨a3, _, c3, e1, q5, hb, .inl ⟨q1, q2⟩⟩
    · obtain ⟨v1, v2, v3, ⟨hh, v4⟩, v5, v6⟩ := q2
      have hend := nestR_end v3
      have hfit := fit_len (bal_fit v4)
      refine (keys_any 21 t _ W (NA.below q3 hW) (by omega) (by omega)).mono (fun e w' hr => ?_)
      obtain ⟨a3, c3, e1, ho, hb, _⟩ := hr
      exact ⟨a3, _, c3, e1, by omega, hb, .inr ⟨q1, t, ⟨v1, v2, v3, ⟨hh, v4⟩, v5, v6⟩, rfl, ho⟩⟩
  clear HRR
  go_upto_region 2 with fail
  have S1 : Hid (Bx (w1.alloc (.cells #[.bool lf, .slice ka kn kc, .slice ca cn cc] 67)) w1.heap.size 67 #[.bool lf, .slice ka kn kc, .slice ca cn cc] ∧ Below w1.heap.size w1 (w1.alloc (.cells #[.bool lf, .slice ka kn kc, .slice ca cn cc] 67)) ∧ Below w.heap.size w (w1.alloc (.cells #[.bool lf, .slice ka kn kc, .slice ca cn cc] 67))) := ⟨Bx.new _ _ _, below_alloc _ _, H1.out.trans ((below_alloc _ _).mono H1.out.size)⟩
  generalize (w1.alloc (.cells #[.bool lf, .slice ka kn kc, .slice ca cn cc] 67)) = W0 at S1 ⊢
  have S2 : Hid (Bx (W0.alloc (.cells #[] 9)) w1.heap.size 67 #[.bool lf, .slice ka kn kc, .slice ca cn cc] ∧ Below w1.heap.size w1 (W0.alloc (.cells #[] 9)) ∧ Below w.heap.size w (W0.alloc (.cells #[] 9)) ∧ (W0.alloc (.cells #[] 9)).heap.size = W0.heap.size + 1 ∧ (W0.alloc (.cells #[] 9)).ownsRow w.heap.size 9 1 (.slice (some ⟨W0.heap.size, 0, none⟩) 0 0) 0 (strL [])) := by
    refine ⟨S1.out.1.below (below_alloc _ _), S1.out.2.1.alloc S1.out.2.1.size _, S1.out.2.2.alloc S1.out.2.2.size _, by simp, ?_⟩
    exact own_empty W0 9 w.heap.size 1 S1.out.2.2.size
  have x0 := S1.out.1.cell 0
  have x1 := S1.out.1.cell 1
  have x2 := S1.out.1.cell 2
  simp at x0 x1 x2
  have xl : w1.heap.size < W0.heap.size := World.block_lt_of_cell? _ _ x0
  go_wp2_with fail
  refine (HKeys.out _ S2.out.2.1).mono ?_
  rintro e w3 ⟨a3, m, c3, rfl, hm40, hb3, hr3⟩
  rw [S2.out.2.2.2.1] at hr3
  have H3 : Hid (Below w.heap.size w w3 ∧ w3.ownsRow w.heap.size 9 1 (.slice (some ⟨W0.heap.size, 0, none⟩) 0 0) 0 (strL [])) := ⟨S2.out.2.2.1.trans (hb3.mono S2.out.2.2.1.size), own_below S2.out.2.2.2.2 hb3⟩
  clear HKeys hb3 S1 S2 x0 x1 x2 xl
  cases ok with
  | false =>
    have HNo : Hid (¬ VT n N) := by
      rcases hr3 with ⟨_, q⟩ | ⟨q, _⟩
      · exact q
      · cases q
    clear hr3
    go_wp2
    go_loopw [9, 11] (fun q i wr => i = .int .i64 0 ∧ q = .slice (some ⟨W0.heap.size, 0, none⟩) 0 0 ∧ wr = w3) (fun _ i _ => 1 - (intOf i).toNat)
    case atStart => exact ⟨rfl, rfl, rfl⟩
    case round =>
      obtain ⟨rfl, rfl, rfl⟩ := hrel
      go_wp2
      go_ret
      exact ⟨[], _, 0, rfl, .inl rfl, H3.out.1, Nat.zero_le _, .inr ⟨HNo.out, rfl⟩⟩
  | true =>
    obtain ⟨t, q1, q2, q3⟩ : ∃ t, VTt n N t ∧ m = (keysR 21 t).length ∧ OwnS w3 (W0.heap.size + 1) a3 m (gt (keysR 21 t)) := by
      rcases hr3 with ⟨q, _⟩ | ⟨_, q⟩
      · cases q
      · exact q
    have HV : Hid (VTt n N t) := q1
    have hm20 : m ≤ 1048576 := by
      obtain ⟨v1, v2, v3, ⟨hh, v4⟩, v5, v6⟩ := q1
      have hfit := fit_len (bal_fit v4)
      have hend := nestR_end v3
      omega
    obtain ⟨L, hL⟩ : ∃ L, keysR 21 t = L := ⟨_, rfl⟩
    rw [hL] at q2 q3
    have HL : Hid (keysR 21 t = L ∧ m = L.length ∧ OwnS w3 (W0.heap.size + 1) a3 m (gt L)) := ⟨hL, q2, q3⟩
    have HG : Hid (m = 0 ∨ ∃ G, a3 = some ⟨G, 0, none⟩ ∧ W0.heap.size < G ∧ G < w3.heap.size ∧ rowIn w3 G 9 m (fun i => .string (gt L i))) := by
      rcases q3 with q | ⟨G, e1, e2, e3⟩
      · exact .inl q
      · exact .inr ⟨G, e1, e2, e3.lt, e3⟩
    have hz3 := H3.out.1.size
    clear hr3 q1 q2 q3 hL
    go_wp2
    go_loopw [9, 11] (fun q i wr => ∃ (k mm : Nat) (a : Option Addr) (c : Nat), k ≤ m ∧ i = .int .i64 k ∧ q = .slice a mm c ∧ mm = (fil lo hi (L.take k)).length ∧ wr.ownsRow w.heap.size 9 1 (.slice a mm c) mm (strL (fil lo hi (L.take k))) ∧ Below w.heap.size w wr ∧ w3.heap.size ≤ wr.heap.size ∧ (∀ g, (Value.slice a mm c).ownBlock = some g → g = W0.heap.size ∨ w3.heap.size ≤ g) ∧ (∀ G, W0.heap.size < G → G < w3.heap.size → wr.heap[G]? = w3.heap[G]?)) (fun _ i _ => m - (intOf i).toNat)
    case atStart => exact ⟨0, 0, _, 0, Nat.zero_le _, rfl, rfl, rfl, H3.out.2, H3.out.1, Nat.le_refl _, fun g e => .inl (by injection e with e; exact e.symm), fun _ _ _ => rfl⟩
    case round =>
      obtain ⟨k, mm, a, c, hk, rfl, rfl, hm, hown, hbel, hzz, hob, hkp⟩ := hrel
      have HS : Hid (mm = (fil lo hi (L.take k)).length ∧ wr.ownsRow w.heap.size 9 1 (.slice a mm c) mm (strL (fil lo hi (L.take k))) ∧ Below w.heap.size w wr ∧ w3.heap.size ≤ wr.heap.size ∧ (∀ g, (Value.slice a mm c).ownBlock = some g → g = W0.heap.size ∨ w3.heap.size ≤ g) ∧ (∀ G, W0.heap.size < G → G < w3.heap.size → wr.heap[G]? = w3.heap[G]?)) := ⟨hm, hown, hbel, hzz, hob, hkp⟩
      have hmb : mm ≤ 1048576 := by
        have h1 := fil_le lo hi (L.take k)
        have h2 : (L.take k).length ≤ L.length := List.length_take_le' _ _
        have := HL.out.2.1
        omega
      have hz := hbel.size
      clear hm hown hbel hob hkp
      by_cases hlt : k < m
      · have hlk : k < L.length := by rw [← HL.out.2.1]; exact hlt
        rcases HG.out with q | ⟨G, rfl, hG1, hG2, hrow⟩
        · omega
        have s1 := (hrow.of_block (HS.out.2.2.2.2.2 G hG1 hG2)).cell hlt
        have i0 : (0 : Int) ≤ (k : Int) := by omega
        have i1 : (k : Int) < (m : Int) := by omega
        have htk := fil_take (lo := lo) (hi := hi) hlk
        clear hrow
        have htot := less_total (gt L k).toList lo.toList
        have HYes : inR lo hi (gt L k) = true → Hid (∀ (v' : Value) (w5 : World), w5.ownsRow w.heap.size 9 1 v' (mm + 1) (strL (fil lo hi (L.take k)) ++ [.string (gt L k)]) → w5.ownsRow w.heap.size 9 1 v' (mm + 1) (strL (fil lo hi (L.take (k + 1)))) ∧ mm + 1 = (fil lo hi (L.take (k + 1))).length) := by
          intro hin v' w5 ho
          rw [htk, hin, if_pos rfl]
          constructor
          · rw [strL_app]; exact ho
          · rw [List.length_append, ← HS.out.1]; rfl
        have HNot : inR lo hi (gt L k) = false → Hid (mm = (fil lo hi (L.take (k + 1))).length ∧ wr.ownsRow w.heap.size 9 1 (.slice a mm c) mm (strL (fil lo hi (L.take (k + 1)))) ∧ Below w.heap.size w wr ∧ w3.heap.size ≤ wr.heap.size ∧ (∀ g, (Value.slice a mm c).ownBlock = some g → g = W0.heap.size ∨ w3.heap.size ≤ g) ∧ (∀ G, W0.heap.size < G → G < w3.heap.size → wr.heap[G]? = w3.heap[G]?)) := by
          intro hin
          rw [htk, hin, if_neg (by simp), List.append_nil]
          exact HS.out
        obtain ⟨i9, hi9, hz0, hz1, hz2⟩ := info_parts Try.info9
        have HI : Hid (Try.prog.info? 9 = some i9 ∧ i9.zero = some (.string { data := #[] }) ∧ i9.size = 1 ∧ i9.bytes = 16) := ⟨hi9, hz0, hz1, hz2⟩
        clear hi9 hz0 hz1 hz2 htk
        have HO : Hid ((wr.alloc (.cells #[.string (gt L k)] 9)).ownsRow w.heap.size 9 1 (.slice a mm c) mm (strL (fil lo hi (L.take k)))) := own_below HS.out.2.1 (below_alloc _ _)
        cases hl : Op.bytesLess (gt L k).toList lo.toList with
        | true =>
          rw [hl] at htot
          have ht2 : (Op.bytesLess lo.toList (gt L k).toList || lo.toList == (gt L k).toList) = false := htot
          have HN := HNot (by unfold inR; rw [hl]; rfl)
          clear htot HYes HNot
          go_wp2
          go_roundw
          case rel => exact ⟨k + 1, mm, a, c, by omega, by go_num, rfl, HN.out⟩
          case measure => simp [intOf]; omega
        | false =>
          rw [hl] at htot
          have ht2 : (Op.bytesLess lo.toList (gt L k).toList || lo.toList == (gt L k).toList) = true := htot
          by_cases hem : hi.toList = []
          · have HY := HYes (by unfold inR; rw [hl, hem]; rfl)
            clear htot HYes HNot
            go_wp2_with (at_builtin; refine wpList_append_own_at _ rfl _ _ 27 rfl w.heap.size 9 i9 _ 1 16 Try.underlying27 HI.out.1 HI.out.2.1 HI.out.2.2.1 HI.out.2.2.2 rfl (by decide) (.slice a mm c) mm _ rfl HO.out ⟨wr.heap.size, 0, none⟩ 1 1 [.string (gt L k)] rfl rfl (cell_one_new _ _ _) (by intro u hu; simp at hu; subst hu; rfl) (by unfold maxLen; omega) (by omega) (by simp; omega) ?_)
            intro v' w5 ho hg _ hat
            have HB5 : Hid (Below w.heap.size w w5) := (HS.out.2.2.1.trans ((below_alloc _ _).mono (by omega))).grown hg (by simp; omega) (fun g e => (own_lt HS.out.2.1 g e).1)
            obtain ⟨q1, q2⟩ := HY.out v' w5 ho
            have HK5 : Hid (w3.heap.size ≤ w5.heap.size ∧ (∀ g, v'.ownBlock = some g → g = W0.heap.size ∨ w3.heap.size ≤ g) ∧ (∀ G, W0.heap.size < G → G < w3.heap.size → w5.heap[G]? = w3.heap[G]?)) := by
              refine ⟨Nat.le_trans hzz (Nat.le_trans (by simp) hg.size), fun g e => ?_, fun G2 h1 h2 => ?_⟩
              · rcases hat with q | q
                · exact HS.out.2.2.2.2.1 g (by rw [← q]; exact e)
                · rw [q] at e; injection e with e; right; first | omega | (rw [← e]; omega) | (rw [← e]; simp; omega)
              · rw [hg.block G2 (by simp; omega) (fun e => by have := HS.out.2.2.2.2.1 G2 e.symm; omega), ← HS.out.2.2.2.2.2 G2 h1 h2]
                exact (below_alloc _ _).block G2 (by omega)
            obtain ⟨a5, c5, rfl, _⟩ := own_form ho
            have HX : Hid (mm + 1 = (fil lo hi (L.take (k + 1))).length ∧ w5.ownsRow w.heap.size 9 1 (.slice a5 (mm + 1) c5) (mm + 1) (strL (fil lo hi (L.take (k + 1)))) ∧ Below w.heap.size w w5 ∧ w3.heap.size ≤ w5.heap.size ∧ (∀ g, (Value.slice a5 (mm + 1) c5).ownBlock = some g → g = W0.heap.size ∨ w3.heap.size ≤ g) ∧ (∀ G, W0.heap.size < G → G < w3.heap.size → w5.heap[G]? = w3.heap[G]?)) := ⟨q2, q1, HB5.out, HK5.out⟩
            clear ho hg hat q1 q2 HO
            go_wp2
            go_roundw
            case rel => exact ⟨k + 1, mm + 1, a5, c5, by omega, by go_num, rfl, HX.out⟩
            case measure => simp [intOf]; omega
          · have hem' : hi.toList.isEmpty = false := by simpa using hem
            cases hh : Op.bytesLess (gt L k).toList hi.toList with
            | true =>
              have HY := HYes (by unfold inR; rw [hl, hh]; simp)
              clear htot HYes HNot
              go_wp2_with (at_builtin; refine wpList_append_own_at _ rfl _ _ 27 rfl w.heap.size 9 i9 _ 1 16 Try.underlying27 HI.out.1 HI.out.2.1 HI.out.2.2.1 HI.out.2.2.2 rfl (by decide) (.slice a mm c) mm _ rfl HO.out ⟨wr.heap.size, 0, none⟩ 1 1 [.string (gt L k)] rfl rfl (cell_one_new _ _ _) (by intro u hu; simp at hu; subst hu; rfl) (by unfold maxLen; omega) (by omega) (by simp; omega) ?_)
              intro v' w5 ho hg _ hat
              have HB5 : Hid (Below w.heap.size w w5) := (HS.out.2.2.1.trans ((below_alloc _ _).mono (by omega))).grown hg (by simp; omega) (fun g e => (own_lt HS.out.2.1 g e).1)
              obtain ⟨q1, q2⟩ := HY.out v' w5 ho
              have HK5 : Hid (w3.heap.size ≤ w5.heap.size ∧ (∀ g, v'.ownBlock = some g → g = W0.heap.size ∨ w3.heap.size ≤ g) ∧ (∀ G, W0.heap.size < G → G < w3.heap.size → w5.heap[G]? = w3.heap[G]?)) := by
                refine ⟨Nat.le_trans hzz (Nat.le_trans (by simp) hg.size), fun g e => ?_, fun G2 h1 h2 => ?_⟩
                · rcases hat with q | q
                  · exact HS.out.2.2.2.2.1 g (by rw [← q]; exact e)
                  · rw [q] at e; injection e with e; right; first | omega | (rw [← e]; omega) | (rw [← e]; simp; omega)
                · rw [hg.block G2 (by simp; omega) (fun e => by have := HS.out.2.2.2.2.1 G2 e.symm; omega), ← HS.out.2.2.2.2.2 G2 h1 h2]
                  exact (below_alloc _ _).block G2 (by omega)
              obtain ⟨a5, c5, rfl, _⟩ := own_form ho
              have HX : Hid (mm + 1 = (fil lo hi (L.take (k + 1))).length ∧ w5.ownsRow w.heap.size 9 1 (.slice a5 (mm + 1) c5) (mm + 1) (strL (fil lo hi (L.take (k + 1)))) ∧ Below w.heap.size w w5 ∧ w3.heap.size ≤ w5.heap.size ∧ (∀ g, (Value.slice a5 (mm + 1) c5).ownBlock = some g → g = W0.heap.size ∨ w3.heap.size ≤ g) ∧ (∀ G, W0.heap.size < G → G < w3.heap.size → w5.heap[G]? = w3.heap[G]?)) := ⟨q2, q1, HB5.out, HK5.out⟩
              clear ho hg hat q1 q2 HO
              go_wp2
              go_roundw
              case rel => exact ⟨k + 1, mm + 1, a5, c5, by omega, by go_num, rfl, HX.out⟩
              case measure => simp [intOf]; omega
            | false =>
              have HN := HNot (by unfold inR; rw [hl, hh]; simp [hem])
              clear htot HYes HNot
              go_wp2
              go_roundw
              case rel => exact ⟨k + 1, mm, a, c, by omega, by go_num, rfl, HN.out⟩
              case measure => simp [intOf]; omega
      · have e : k = m := by omega
        subst e
        have HE : Hid (L.take k = L) := by
          show L.take k = L
          rw [HL.out.2.1, List.take_length]
        have HF : Hid (RetRg w n N lo hi (.returned (.slice a mm c)) wr) := by
          have q := HS.out
          rw [HE.out] at q
          obtain ⟨a6, c6, e6, q6, _⟩ := ownS_strL (by rw [← q.1]; exact q.2.1 : wr.ownsRow w.heap.size 9 1 (.slice a mm c) (fil lo hi L).length (strL (fil lo hi L))) rfl
          injection e6 with e6 e7 _
          subst e6
          show RetRg w n N lo hi (.returned (.slice a mm c)) wr
          rw [q.1]
          exact ⟨fil lo hi L, a, c, rfl, q6, q.2.2.1, by rw [← q.1]; exact hmb, .inl ⟨t, HV.out, by rw [HL.out.1]⟩⟩
        go_wp2
        go_ret
        exact HF.out
end Go.Proofs.Ytakemeccigpbaaa
