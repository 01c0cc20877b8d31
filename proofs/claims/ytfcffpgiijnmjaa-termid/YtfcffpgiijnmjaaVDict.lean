import Derived.Test.YtfcffpgiijnmjaaVDefs
namespace Go.Proofs.Ytfcffpgiijnmjaa
open Go.RowKit Go.Deep
set_option linter.unusedVariables false
set_option maxRecDepth 100000

set_option maxHeartbeats 16000000 in
theorem specVD (next : Int) (a : Option Addr) (n c : Nat) (I : Nat → Int) (X : Nat → ByteArray) (R : Nat → Int) (w : World) (h : RdT w a n I X R) (hn : n ≤ 1048576) :
    Calls Try.prog 15 #[.agg #[.int .i64 next, .slice a n c]] w (AnsP w (VDt next n I X R)) := by
  cases hnu : nuB next with
  | false =>
    go_enter Try.func15, Try.ntmps15
    go_wp2_with fail
    refine (l2Nu_any next _).mono ?_
    rintro e w1 ⟨rfl, rfl⟩
    rw [hnu]
    go_wp2
    go_ret
    exact AnsP.no (fun q => by have := q.1; rw [hnu] at this; cases this) (below_alloc _ _)
  | true =>
  by_cases h12 : 1200 < (n : Int)
  · go_enter Try.func15, Try.ntmps15
    go_wp2_with fail
    refine (l2Nu_any next _).mono ?_
    rintro e w1 ⟨rfl, rfl⟩
    rw [hnu]
    go_wp2
    go_ret
    exact AnsP.no (fun q => by have := q.2.1; omega) (below_alloc _ _)
  · go_enter Try.func15, Try.ntmps15
    go_wp2_with fail
    refine (l2Nu_any next _).mono ?_
    rintro e w1 ⟨rfl, rfl⟩
    rw [hnu]
    go_wp2
    go_loopw [3] (fun i wr => ∃ k : Nat, k ≤ n ∧ i = .int .i64 k ∧ (∀ m, m < k → GoodT next I X R m ∧ FreshT I m) ∧ Below (w.heap.size + 1) (w.alloc (.cells #[.int .i64 next, .slice a n c] 24)) wr) (fun i _ => n - (intOf i).toNat)
    case atStart => exact ⟨0, Nat.zero_le _, rfl, fun m hm => absurd hm (Nat.not_lt_zero _), Below.refl _ _⟩
    case round =>
      obtain ⟨k, hk, rfl, hgood, hb0⟩ := hrel
      obtain ⟨d0, d1, dz, hbel⟩ := dbox hb0
      have HG : Hid (∀ m, m < k → GoodT next I X R m ∧ FreshT I m) := hgood
      have HB0 : Hid (Below (w.heap.size + 1) (w.alloc (.cells #[.int .i64 next, .slice a n c] 24)) wr) := hb0
      have HB : Hid (Below w.heap.size w wr) := hbel
      have HN : Hid (nuB next = true) := hnu
      clear hgood hb0 hnu
      by_cases hlt : k < n
      · have hne : ¬ n = 0 := by omega
        have h' := h.below hbel
        have HR : Hid (RdT wr a n I X R) := h'
        clear hbel
        rcases h' with h' | ⟨b, o, rfl, hc⟩
        · exact absurd h' hne
        obtain ⟨c1, c2, c3⟩ := hc k hlt
        clear hc h
        by_cases q1 : ((X k).size : Int) < 1
        · have HBAD : Hid (¬ VDt next n I X R) := fun q => by
            have g := (q.2.2 k hlt).1
            unfold GoodT at g
            omega
          have hd1 : decide (((X k).size : Int) < 1) = true := by simpa using q1
          go_wp2
          go_quiet (fail)
          go_wp2
          go_ret
          exact AnsP.no HBAD.out (below_drewN (HB.out.alloc HB.out.size _) _)
        by_cases q2 : 30 < ((X k).size : Int)
        · have HBAD : Hid (¬ VDt next n I X R) := fun q => by
            have g := (q.2.2 k hlt).1
            unfold GoodT at g
            omega
          have hd1 : decide (((X k).size : Int) < 1) = false := by simpa using q1
          have hd2 : decide (30 < ((X k).size : Int)) = true := by simpa using q2
          go_wp2
          go_quiet (fail)
          go_wp2
          go_ret
          exact AnsP.no HBAD.out (below_drewN (HB.out.alloc HB.out.size _) _)
        by_cases q3 : I k < 1
        · have HBAD : Hid (¬ VDt next n I X R) := fun q => by
            have g := (q.2.2 k hlt).1
            unfold GoodT at g
            omega
          have hd1 : decide (((X k).size : Int) < 1) = false := by simpa using q1
          have hd2 : decide (30 < ((X k).size : Int)) = false := by simpa using q2
          have hd3 : decide (I k < 1) = true := by simpa using q3
          go_wp2
          go_quiet (fail)
          go_wp2
          go_ret
          exact AnsP.no HBAD.out (below_drewN (HB.out.alloc HB.out.size _) _)
        by_cases q4 : next ≤ I k
        · have HBAD : Hid (¬ VDt next n I X R) := fun q => by
            have g := (q.2.2 k hlt).1
            unfold GoodT at g
            omega
          have hd1 : decide (((X k).size : Int) < 1) = false := by simpa using q1
          have hd2 : decide (30 < ((X k).size : Int)) = false := by simpa using q2
          have hd3 : decide (I k < 1) = false := by simpa using q3
          have hd4 : decide (next ≤ I k) = true := by simpa using q4
          go_wp2
          go_quiet (fail)
          go_wp2
          go_ret
          exact AnsP.no HBAD.out (below_drewN (HB.out.alloc HB.out.size _) _)
        by_cases q5 : R k < 1
        · have HBAD : Hid (¬ VDt next n I X R) := fun q => by
            have g := (q.2.2 k hlt).1
            unfold GoodT at g
            omega
          have hd1 : decide (((X k).size : Int) < 1) = false := by simpa using q1
          have hd2 : decide (30 < ((X k).size : Int)) = false := by simpa using q2
          have hd3 : decide (I k < 1) = false := by simpa using q3
          have hd4 : decide (next ≤ I k) = false := by simpa using q4
          have hd5 : decide (R k < 1) = true := by simpa using q5
          go_wp2
          go_quiet (fail)
          go_wp2
          go_ret
          exact AnsP.no HBAD.out (below_drewN (HB.out.alloc HB.out.size _) _)
        by_cases q6 : 2000000000 < R k
        · have HBAD : Hid (¬ VDt next n I X R) := fun q => by
            have g := (q.2.2 k hlt).1
            unfold GoodT at g
            omega
          have hd1 : decide (((X k).size : Int) < 1) = false := by simpa using q1
          have hd2 : decide (30 < ((X k).size : Int)) = false := by simpa using q2
          have hd3 : decide (I k < 1) = false := by simpa using q3
          have hd4 : decide (next ≤ I k) = false := by simpa using q4
          have hd5 : decide (R k < 1) = false := by simpa using q5
          have hd6 : decide (2000000000 < R k) = true := by simpa using q6
          go_wp2
          go_quiet (fail)
          go_wp2
          go_ret
          exact AnsP.no HBAD.out (below_drewN (HB.out.alloc HB.out.size _) _)
        have HGK : ∀ _ : (0 < k → Op.bytesLess (X (k - 1)).toList (X k).toList = true), Hid (GoodT next I X R k) := fun h => ⟨⟨by omega, by omega⟩, ⟨by omega, by omega⟩, ⟨by omega, by omega⟩, h⟩
        by_cases hk0 : k = 0
        · replace HGK := HGK (fun h => by omega)
          have hdk : decide ((0 : Int) < (k : Int)) = false := by simp; omega
          have hdn : decide (0 < k) = false := by simp; omega
          clear hk0
          have hd1 : decide (((X k).size : Int) < 1) = false := by simpa using q1
          have hd2 : decide (30 < ((X k).size : Int)) = false := by simpa using q2
          have hd3 : decide (I k < 1) = false := by simpa using q3
          have hd4 : decide (next ≤ I k) = false := by simpa using q4
          have hd5 : decide (R k < 1) = false := by simpa using q5
          have hd6 : decide (2000000000 < R k) = false := by simpa using q6
          go_wp2
          go_quiet (fail)
          have HB2 : Hid (Below (w.heap.size + 1) (w.alloc (.cells #[.int .i64 next, .slice (some ⟨b, o, none⟩) n c] 24)) ((wr.alloc (.cells #[.int .i64 (I k), .string (X k), .int .i64 (R k)] 57)).drewN nq)) := below_drewN (HB0.out.alloc (Nat.succ_le_of_lt dz) _) nq
          have HR2 : Hid (RdT ((wr.alloc (.cells #[.int .i64 (I k), .string (X k), .int .i64 (R k)] 57)).drewN nq) (some ⟨b, o, none⟩) n I X R) := HR.out.below (below_drewN (below_alloc _ _) nq)
          have HT : Hid (((wr.alloc (.cells #[.int .i64 (I k), .string (X k), .int .i64 (R k)] 57)).drewN nq).cell? ⟨wr.heap.size, 0, none⟩ = some (.int .i64 (I k)) ∧ wr.heap.size < ((wr.alloc (.cells #[.int .i64 (I k), .string (X k), .int .i64 (R k)] 57)).drewN nq).heap.size) := tbox _ _ _ _ _
          clear c1 c2 c3
          generalize (wr.alloc (.cells #[.int .i64 (I k), .string (X k), .int .i64 (R k)] 57)).drewN nq = wt at HB2 HR2 HT ⊢
          generalize wr.heap.size = tb at HT ⊢
          obtain ⟨e0, e1, ez, hbt⟩ := dbox HB2.out
          clear d0 d1
          have HBT : Hid (Below w.heap.size w wt) := hbt
          clear hbt
          go_wp2
          go_loopw [5] (fun j wr => ∃ m : Nat, m ≤ k ∧ j = .int .i64 m ∧ (∀ q, q < m → I q ≠ I k) ∧ Below wt.heap.size wt wr) (fun j _ => k - (intOf j).toNat)
          case atStart => exact ⟨0, Nat.zero_le _, rfl, fun q hq => absurd hq (Nat.not_lt_zero _), Below.refl _ _⟩
          case round =>
            obtain ⟨m, hm, rfl, hfr, hbq⟩ := hrel
            have HF : Hid (∀ q, q < m → I q ≠ I k) := hfr
            clear hfr
            have x0 : wr.cell? ⟨w.heap.size, 0, none⟩ = some (.int .i64 next) := (hbq.cell (p := ⟨w.heap.size, 0, none⟩) ez).trans e0
            have x1 : wr.cell? ⟨w.heap.size, 1, none⟩ = some (.slice (some ⟨b, o, none⟩) n c) := (hbq.cell (p := ⟨w.heap.size, 1, none⟩) ez).trans e1
            have x2 : wr.cell? ⟨tb, 0, none⟩ = some (.int .i64 (I k)) := (hbq.cell (p := ⟨tb, 0, none⟩) HT.out.2).trans HT.out.1
            have HBQ : Hid (Below w.heap.size w wr) := HBT.out.trans (hbq.mono (by omega))
            have HBD : Hid (Below (w.heap.size + 1) (w.alloc (.cells #[.int .i64 next, .slice (some ⟨b, o, none⟩) n c] 24)) wr) := HB2.out.trans (hbq.mono (by omega))
            have HBW : Hid (Below wt.heap.size wt wr) := hbq
            by_cases hmk : m < k
            · have hmn : m < n := by omega
              have hcm : wr.cell? ⟨b, o + m * 3, none⟩ = some (.int .i64 (I m)) := by
                rcases HR2.out.below hbq with h0 | ⟨b', o', he, hc'⟩
                · omega
                · simp at he
                  obtain ⟨rfl, rfl⟩ := he
                  exact (hc' m hmn).1
              clear hbq e0 e1
              by_cases heq : I m = I k
              · have HBAD : Hid (¬ VDt next n I X R) := fun q => (q.2.2 k hlt).2 m hmk heq
                have hbeq : (I m == I k) = true := by simp [heq]
                go_wp2
                go_quiet (fail)
                go_wp2
                go_ret
                exact AnsP.no HBAD.out (below_drewN HBQ.out _)
              · have hbeq : (I m == I k) = false := by simp [heq]
                go_wp2
                go_quiet (fail)
                go_wp2
                go_roundw
                case rel =>
                  refine ⟨m + 1, by omega, by go_num, fun q hq => ?_, below_drewN HBW.out _⟩
                  by_cases e : q = m
                  · subst e; exact heq
                  · exact HF.out q (by omega)
                case measure => simp [intOf]; omega
            · have e : k = m := by omega
              subst e
              clear hbq
              go_wp2
              go_roundw
              case rel =>
                refine ⟨k + 1, by omega, by go_num, fun q hq => ?_, HBD.out⟩
                by_cases e : q = k
                · subst e; exact ⟨HGK.out, HF.out⟩
                · exact HG.out q (by omega)
              case measure => simp [intOf]; omega
        · obtain ⟨p, hkp⟩ : ∃ p, k = p + 1 := ⟨k - 1, by omega⟩
          have hp1 : p < n := by omega
          have hdk : decide ((0 : Int) < (k : Int)) = true := by simp; omega
          have hdn : decide (0 < k) = true := by simp; omega
          have hwr : IntKind.i64.wrap ((k : Int) - 1) = (k : Int) - 1 := by rw [IntKind.wrap_i64]; omega
          have hsb0 : 0 ≤ (k : Int) - 1 := by omega
          have hsb1 : (k : Int) - 1 < (n : Int) := by omega
          have hix : ∀ wz, (Instr.indexAt 22 (.slice (some ⟨b, o, none⟩) n c) (.int .i64 ((k : Int) - 1))).run Try.prog wz = .ok (.pointer (some ⟨b, o + p * 3, none⟩)) wz := fun wz => by rw [show (k : Int) - 1 = (p : Int) by omega]; exact idxT b o n c p hp1 wz
          have HPK : Hid (k - 1 = p) := by show k - 1 = p; omega
          clear hkp hk0
          obtain ⟨cp0, cp, cp2⟩ : wr.cell? ⟨b, o + p * 3, none⟩ = some (.int .i64 (I p)) ∧ wr.cell? ⟨b, o + p * 3 + 1, none⟩ = some (.string (X p)) ∧ wr.cell? ⟨b, o + p * 3 + 2, none⟩ = some (.int .i64 (R p)) := by
            rcases HR.out with h0 | ⟨b', o', he, hc'⟩
            · omega
            · simp at he
              obtain ⟨rfl, rfl⟩ := he
              exact hc' p hp1
          have cpA : (wr.alloc (.cells #[.int .i64 (I k), .string (X k), .int .i64 (R k)] 57)).cell? ⟨b, o + p * 3 + 1, none⟩ = some (.string (X p)) := ((below_alloc _ _).cell (p := ⟨b, o + p * 3 + 1, none⟩) (World.block_lt_of_cell? _ _ cp)).trans cp
          have hblt : b < wr.heap.size := World.block_lt_of_cell? _ _ cp
          have hbne : ¬ (b = wr.heap.size) := by omega
          have hbne' : ¬ (wr.heap.size = b) := by omega
          cases hls : Op.bytesLess (X p).toList (X k).toList with
          | false =>
            have HBAD : Hid (¬ VDt next n I X R) := fun q => by
              have g := (q.2.2 k hlt).1
              unfold GoodT at g
              have := g.2.2.2 (by omega)
              rw [HPK.out, hls] at this
              cases this
            have hd1 : decide (((X k).size : Int) < 1) = false := by simpa using q1
            have hd2 : decide (30 < ((X k).size : Int)) = false := by simpa using q2
            have hd3 : decide (I k < 1) = false := by simpa using q3
            have hd4 : decide (next ≤ I k) = false := by simpa using q4
            have hd5 : decide (R k < 1) = false := by simpa using q5
            have hd6 : decide (2000000000 < R k) = false := by simpa using q6
            go_wp2
            go_quiet (fail)
            go_wp2
            go_ret
            exact AnsP.no HBAD.out (below_drewN (HB.out.alloc HB.out.size _) _)
          | true =>
            replace HGK := HGK (fun _ => by rw [HPK.out]; exact hls)
            have hd1 : decide (((X k).size : Int) < 1) = false := by simpa using q1
            have hd2 : decide (30 < ((X k).size : Int)) = false := by simpa using q2
            have hd3 : decide (I k < 1) = false := by simpa using q3
            have hd4 : decide (next ≤ I k) = false := by simpa using q4
            have hd5 : decide (R k < 1) = false := by simpa using q5
            have hd6 : decide (2000000000 < R k) = false := by simpa using q6
            go_wp2
            go_quiet (fail)
            have HB2 : Hid (Below (w.heap.size + 1) (w.alloc (.cells #[.int .i64 next, .slice (some ⟨b, o, none⟩) n c] 24)) ((wr.alloc (.cells #[.int .i64 (I k), .string (X k), .int .i64 (R k)] 57)).drewN nq)) := below_drewN (HB0.out.alloc (Nat.succ_le_of_lt dz) _) nq
            have HR2 : Hid (RdT ((wr.alloc (.cells #[.int .i64 (I k), .string (X k), .int .i64 (R k)] 57)).drewN nq) (some ⟨b, o, none⟩) n I X R) := HR.out.below (below_drewN (below_alloc _ _) nq)
            have HT : Hid (((wr.alloc (.cells #[.int .i64 (I k), .string (X k), .int .i64 (R k)] 57)).drewN nq).cell? ⟨wr.heap.size, 0, none⟩ = some (.int .i64 (I k)) ∧ wr.heap.size < ((wr.alloc (.cells #[.int .i64 (I k), .string (X k), .int .i64 (R k)] 57)).drewN nq).heap.size) := tbox _ _ _ _ _
            clear c1 c2 c3 cp cp0 cp2 cpA hblt hbne hbne'
            generalize (wr.alloc (.cells #[.int .i64 (I k), .string (X k), .int .i64 (R k)] 57)).drewN nq = wt at HB2 HR2 HT ⊢
            generalize wr.heap.size = tb at HT ⊢
            obtain ⟨e0, e1, ez, hbt⟩ := dbox HB2.out
            clear d0 d1
            have HBT : Hid (Below w.heap.size w wt) := hbt
            clear hbt
            go_wp2
            go_loopw [5] (fun j wr => ∃ m : Nat, m ≤ k ∧ j = .int .i64 m ∧ (∀ q, q < m → I q ≠ I k) ∧ Below wt.heap.size wt wr) (fun j _ => k - (intOf j).toNat)
            case atStart => exact ⟨0, Nat.zero_le _, rfl, fun q hq => absurd hq (Nat.not_lt_zero _), Below.refl _ _⟩
            case round =>
              obtain ⟨m, hm, rfl, hfr, hbq⟩ := hrel
              have HF : Hid (∀ q, q < m → I q ≠ I k) := hfr
              clear hfr
              have x0 : wr.cell? ⟨w.heap.size, 0, none⟩ = some (.int .i64 next) := (hbq.cell (p := ⟨w.heap.size, 0, none⟩) ez).trans e0
              have x1 : wr.cell? ⟨w.heap.size, 1, none⟩ = some (.slice (some ⟨b, o, none⟩) n c) := (hbq.cell (p := ⟨w.heap.size, 1, none⟩) ez).trans e1
              have x2 : wr.cell? ⟨tb, 0, none⟩ = some (.int .i64 (I k)) := (hbq.cell (p := ⟨tb, 0, none⟩) HT.out.2).trans HT.out.1
              have HBQ : Hid (Below w.heap.size w wr) := HBT.out.trans (hbq.mono (by omega))
              have HBD : Hid (Below (w.heap.size + 1) (w.alloc (.cells #[.int .i64 next, .slice (some ⟨b, o, none⟩) n c] 24)) wr) := HB2.out.trans (hbq.mono (by omega))
              have HBW : Hid (Below wt.heap.size wt wr) := hbq
              by_cases hmk : m < k
              · have hmn : m < n := by omega
                have hcm : wr.cell? ⟨b, o + m * 3, none⟩ = some (.int .i64 (I m)) := by
                  rcases HR2.out.below hbq with h0 | ⟨b', o', he, hc'⟩
                  · omega
                  · simp at he
                    obtain ⟨rfl, rfl⟩ := he
                    exact (hc' m hmn).1
                clear hbq e0 e1
                by_cases heq : I m = I k
                · have HBAD : Hid (¬ VDt next n I X R) := fun q => (q.2.2 k hlt).2 m hmk heq
                  have hbeq : (I m == I k) = true := by simp [heq]
                  go_wp2
                  go_quiet (fail)
                  go_wp2
                  go_ret
                  exact AnsP.no HBAD.out (below_drewN HBQ.out _)
                · have hbeq : (I m == I k) = false := by simp [heq]
                  go_wp2
                  go_quiet (fail)
                  go_wp2
                  go_roundw
                  case rel =>
                    refine ⟨m + 1, by omega, by go_num, fun q hq => ?_, below_drewN HBW.out _⟩
                    by_cases e : q = m
                    · subst e; exact heq
                    · exact HF.out q (by omega)
                  case measure => simp [intOf]; omega
              · have e : k = m := by omega
                subst e
                clear hbq
                go_wp2
                go_roundw
                case rel =>
                  refine ⟨k + 1, by omega, by go_num, fun q hq => ?_, HBD.out⟩
                  by_cases e : q = k
                  · subst e; exact ⟨HGK.out, HF.out⟩
                  · exact HG.out q (by omega)
                case measure => simp [intOf]; omega
      · have e : k = n := by omega
        subst e
        go_wp2
        go_ret
        exact AnsP.yes ⟨HN.out, by omega, HG.out⟩ HB.out
end Go.Proofs.Ytfcffpgiijnmjaa
