import Derived.Test.YtocmbnocdjnfpaaQbF
namespace Go.Proofs.Ytocmbnocdjnfpaa
open Go.RowKit Go.Deep
set_option linter.unusedVariables false
set_option linter.unusedSimpArgs false
set_option maxRecDepth 100000

theorem ls_start (w : World) (g m c : Nat) (R : Array Value) (v0 v1 v2 v3 v4 v5 : Value) (hR : R = #[v0, v1, v2, v3, v4, v5]) : LS w g m c ⟨0, 0, 0, 0, []⟩ [] [] (.slice (some ⟨w.heap.size + 1 + 1, 0, none⟩) 0 0) (.slice (some ⟨w.heap.size + 1 + 1 + 1, 0, none⟩) 0 0) ((((w.alloc (.cells #[.slice (some ⟨g, 0, none⟩) m c, .int .i64 0, .int .i64 0, .int .i64 0, .int .i64 0, .string { data := #[] }] 90)).alloc (.cells R 90)).alloc (.cells #[] 61)).alloc (.cells #[] 149)) := by
  subst hR
  have hb : Below w.heap.size w ((((w.alloc (.cells #[.slice (some ⟨g, 0, none⟩) m c, .int .i64 0, .int .i64 0, .int .i64 0, .int .i64 0, .string { data := #[] }] 90)).alloc (.cells #[v0, v1, v2, v3, v4, v5] 90)).alloc (.cells #[] 61)).alloc (.cells #[] 149)) := (((below_alloc _ _).alloc (by simp) _).alloc (by simp; omega) _).alloc (by simp; omega) _
  refine ⟨Cs.six ?_ ?_ ?_ ?_ ?_ ?_ ?_, ⟨v0, v1, v2, v3, v4, v5, Cs.six ?_ ?_ ?_ ?_ ?_ ?_ ?_⟩, ?_, ?_, hb, by simp⟩
  · simp [go_sem]
  · simp [go_sem]
  · simp [go_sem]
  · simp [go_sem]
  · simp [go_sem]
  · simp [go_sem]; rfl
  · intro o; simp [go_sem]
  · simp [go_sem]
  · simp [go_sem]
  · simp [go_sem]
  · simp [go_sem]
  · simp [go_sem]
  · simp [go_sem]
  · intro o; simp [go_sem]
  · have h := World.ownsRow_lit (base := w.heap.size + 2) (e := 61) (size := 3) ((w.alloc (.cells #[.slice (some ⟨g, 0, none⟩) m c, .int .i64 0, .int .i64 0, .int .i64 0, .int .i64 0, .string { data := #[] }] 90)).alloc (.cells #[v0, v1, v2, v3, v4, v5] 90)) #[] 0 (by simp) (Nat.zero_le _) rfl
    have h2 := plS_below h (below_alloc _ (.cells #[] 149))
    simpa [NdA, ndR] using h2
  · have h := World.ownsRow_lit (base := w.heap.size + 2) (e := 149) (size := 2) (((w.alloc (.cells #[.slice (some ⟨g, 0, none⟩) m c, .int .i64 0, .int .i64 0, .int .i64 0, .int .i64 0, .string { data := #[] }] 90)).alloc (.cells #[v0, v1, v2, v3, v4, v5] 90)).alloc (.cells #[] 61)) #[] 0 (by simp) (Nat.zero_le _) rfl
    simpa [EnA, enR] using h

theorem new_cells2 (w : World) (b : Nat) (hb : w.heap.size = b) (cs : List Value) (t : TypeId) : ∀ j u, cs[j]? = some u → (w.alloc (.cells cs.toArray t)).cell? (Addr.add ⟨b, 0, none⟩ j) = some u := by
  subst hb
  exact new_cells w cs t

theorem l6Step_any {T : Nat → Tok} {A : Nat → Nat} (hT : ∀ i, (T i).c ≤ 15) (g m c : Nat) (p : Pr) (w : World) (hR : RdK w g m T A) (hl : LastK T m) (h0 : p.er = 0) (hi : p.i + 1 < m) (hm : m ≤ 3000) (hnd : p.nd ≤ 100) :
    Calls Try.prog 106 #[prV g m c p] w fun r w' => r = .returned (.tuple #[prV g m c (stepP T A p).1, ndV (stepP T A p).2]) ∧ Below w.heap.size w w' := by
  by_cases h3 : (T (p.i + 1)).c = 3
  · exact l6Step_out hT g m c p w hR hl h0 hi hm hnd h3
  · by_cases h4 : (T (p.i + 1)).c = 4
    · exact l6Step_in hT g m c p w hR hl h0 hi hm hnd h4
    · by_cases h5 : (T (p.i + 1)).c = 5
      · exact l6Step_has hT g m c p w hR hl h0 hi hm hnd h5
      · exact l6Step_none hT g m c p w hR hl h0 hi hm hnd ⟨h3, h4, h5⟩
/-- A cell of a block that is none of the parse's own. -/
theorem LS.setB {w W : World} {g m c : Nat} {p : Pr} {o : List Nd} {st : List Ent} {vo vs : Value} (h : LS w g m c p o st vo vs W) {b : Nat} (hb : w.heap.size + 1 < b) (hn : vo.ownBlock ≠ some b) (he : vs.ownBlock ≠ some b) (k : Nat) (u : Value) : LS w g m c p o st vo vs (W.setCell ⟨b, k, none⟩ u) := by
  have hs := h.sz
  obtain ⟨v0, v1, v2, v3, v4, v5, hr⟩ := h.r
  refine ⟨h.z.other (by show b ≠ _; omega) _, ⟨v0, v1, v2, v3, v4, v5, hr.other (by show b ≠ _; omega) _⟩, ?_, ?_, h.bel.setCell (by show w.heap.size ≤ b; omega) _, by simpa using hs⟩
  · refine plS_keep h.nd (fun g' e => ?_)
    simp only [World.setCell, Array.getElem?_modify]
    rw [if_neg (fun e2 => hn (by rw [e, ← e2]))]
  · refine plS_keep h.en (fun g' e => ?_)
    simp only [World.setCell, Array.getElem?_modify]
    rw [if_neg (fun e2 => he (by rw [e, ← e2]))]
theorem EnA.pop {w : World} {B g n cap : Nat} {x : Ent} {l : List Ent} (h : EnA w B (.slice (some ⟨g, 0, none⟩) n cap) (x :: l)) (hn : n = l.length + 1) : EnA w B (.slice (some ⟨g, 0, none⟩) l.length cap) l := by
  obtain ⟨g', cap', e, _, _, _, _, h2, _⟩ := h.top
  injection e with e1 e2 e3
  injection e1 with e1
  injection e1 with e1
  subst e1 e3
  exact h2
theorem kdT_four (c : Nat) (hc : c ≤ 15) : kdT c = 4 ↔ c = 15 := by
  unfold kdT
  constructor
  · intro h
    split at h
    · omega
    · split at h
      · omega
      · split at h
        · assumption
        · split at h <;> omega
  · intro h; rw [if_neg (by omega), if_neg (by omega), if_pos h]
theorem cs_new (w : World) (v0 v1 v2 : Value) (t : TypeId) : Cs (w.alloc (.cells #[v0, v1, v2] t)) w.heap.size [v0, v1, v2] := by
  refine Cs.three ?_ ?_ ?_ ?_
  · simp [go_sem]
  · simp [go_sem]
  · simp [go_sem]
  · intro o; simp [go_sem]

set_option maxHeartbeats 8000000 in
theorem l6Parse_any {T : Nat → Tok} {A : Nat → Nat} (hT : ∀ i, (T i).c ≤ 15) (g m c : Nat) (w : World) (hR : RdK w g m T A) (hl : LastK T m) (hm : m ≤ 3000) :
    Calls Try.prog 57 #[.agg #[.slice (some ⟨g, 0, none⟩) m c, .int .i64 0, .int .i64 0, .int .i64 0, .int .i64 0, .string { data := #[] }]] w (PRet T A w g m c ⟨⟨0, 0, 0, 0, []⟩, [], [], true, false⟩) := by
  obtain ⟨s0, hs0⟩ : ∃ s0 : Mc, s0 = ⟨⟨0, 0, 0, 0, []⟩, [], [], true, false⟩ := ⟨_, rfl⟩
  have HS0 : Hid (s0 = ⟨⟨0, 0, 0, 0, []⟩, [], [], true, false⟩) := hs0
  rw [← hs0]
  clear hs0
  have HR : Hid (RdK w g m T A) := hR
  have HT : Hid (∀ i, (T i).c ≤ 15) := hT
  have HLK : Hid (LastK T m) := hl
  clear hR hT hl
  go_enter Try.func57, Try.ntmps57
  go_wp2
  go_loopw [4, 5, 6] (fun vo vs vw wr => PI T A w g m c s0 vo vs vw wr) (fun _ _ _ wr => Mw w.heap.size m wr)
  case atStart =>
    refine ⟨s0, Rch.refl _ _ _, by rw [HS0.out], by rw [HS0.out], ?_, ?_⟩
    · rw [HS0.out]
      exact ls_start w g m c _ _ _ _ _ _ _ rfl
    · rw [HS0.out]
      have := HLK.out.1
      exact ⟨this, by show 0 ≤ 100; omega, fun x hx => absurd hx List.not_mem_nil, by show 0 + 0 ≤ _; omega⟩
  case round =>
    obtain ⟨⟨⟨er, at_, i, nd, got⟩, o, st, wt, fin⟩, hrch, hfin, hw, hLS, hbd⟩ := hrel
    obtain rfl : fin = false := hfin
    obtain rfl : u6 = .bool wt := hw
    have HLr : Hid (LS w g m c ⟨er, at_, i, nd, got⟩ o st u4 u5 wr) := hLS
    have HRC : Hid (Rch T A s0 ⟨⟨er, at_, i, nd, got⟩, o, st, wt, false⟩) := hrch
    have HBD : Hid (Bd T m ⟨⟨er, at_, i, nd, got⟩, o, st, wt, false⟩) := hbd
    have hi : i < m := hbd.1
    have hnd : nd ≤ 100 := hbd.2.1
    have hlen : o.length + st.length ≤ 3001 := by have := hbd.2.2.2; simp only at this; split at this <;> omega
    obtain ⟨S, hS⟩ : ∃ S, S = strT got := ⟨_, rfl⟩
    have HS : Hid (S = strT got) := hS
    have a0 := hLS.z.1 0 _ rfl
    have a1 := hLS.z.1 1 _ rfl
    have a2 := hLS.z.1 2 _ rfl
    have a3 := hLS.z.1 3 _ rfl
    have a4 := hLS.z.1 4 _ rfl
    have a5 := hLS.z.1 5 _ rfl
    have af := hLS.z.2
    simp only at a0 a1 a2 a3 a4 a5
    rw [← hS] at a5
    have zsz : w.heap.size + 2 ≤ wr.heap.size := hLS.sz
    have zlt : w.heap.size < wr.heap.size := by omega
    obtain ⟨c1, c2, c3⟩ := (HR.out.below hLS.bel) i hi
    have gsz : g < w.heap.size := World.block_lt_of_cell? _ _ (HR.out i hi).1
    clear hLS hrch hbd hS
    by_cases h0 : er = 0
    · subst h0
      have ii : (i : Int) < (m : Int) := by omega
      have i0 : ¬ (i : Int) < 0 := by omega
      have i1 : (0 : Int) ≤ (i : Int) := by omega
      obtain ⟨i9, hi9⟩ : ∃ i9, i9 = i + 1 := ⟨_, rfl⟩
      have HI9 : Hid (i9 = i + 1) := hi9
      have e2 : IntKind.i64.wrap ((i : Int) + 1) = (i9 : Int) := by rw [hi9, IntKind.wrap_i64]; omega
      clear hi9
      have hcT : (T i).c ≤ 15 := HT.out i
      obtain ⟨K, hK⟩ : ∃ K, K = kdT (T i).c := ⟨_, rfl⟩
      obtain ⟨X, hX⟩ : ∃ X, X = txT (T i) := ⟨_, rfl⟩
      rw [← hK] at c1
      rw [← hX] at c2
      have HKX : Hid (K = kdT (T i).c ∧ X = txT (T i)) := ⟨hK, hX⟩
      clear hK hX
      have PV : prV g m c ⟨0, at_, i, nd, got⟩ = .agg #[.slice (some ⟨g, 0, none⟩) m c, .int .i64 (i : Int), .int .i64 (nd : Int), .int .i64 0, .int .i64 at_, .string S] := by rw [HS.out]; rfl
      have HIs : Hid (∀ (k : Nat) (kind : Int) (text : ByteArray), kind = kdT k → text = wdS k → 1 ≤ k → k < 14 → ∀ W, RdK W g m T A → Calls Try.prog 101 #[.agg #[.slice (some ⟨g, 0, none⟩) m c, .int .i64 (i : Int), .int .i64 (nd : Int), .int .i64 0, .int .i64 at_, .string S], .int .i64 kind, .string text] W fun r w' => r = .returned (.bool (decide ((T i).c = k))) ∧ Below W.heap.size W w') := fun k kind text e1 e2 e3 e4 W hW => by
        rw [← PV]
        refine (l6Is_c HT.out k kind text e1 e2 e3 e4 g m c _ W hW hi hm).mono ?_
        rintro e w' ⟨rfl, hb⟩
        refine ⟨?_, hb⟩
        congr 2
        rw [decide_eq_decide]
        exact ⟨fun h => h.2, fun h => ⟨rfl, h⟩⟩
      have HF : Hid (∀ W, RdK W g m T A → Calls Try.prog 105 #[.agg #[.slice (some ⟨g, 0, none⟩) m c, .int .i64 (i : Int), .int .i64 (nd : Int), .int .i64 0, .int .i64 at_, .string S], .int .i64 3] W fun r w' => r = .returned (prV g m c (failP T A ⟨0, at_, i, nd, got⟩ 3)) ∧ Below W.heap.size W w') := fun W hW => by
        rw [← PV]
        exact l6Fail_any HT.out g m c _ 3 W hW hi hm
      have HM : Hid (∀ W, RdK W g m T A → Calls Try.prog 102 #[.agg #[.slice (some ⟨g, 0, none⟩) m c, .int .i64 (i : Int), .int .i64 (nd : Int), .int .i64 0, .int .i64 at_, .string S]] W fun r w' => r = .returned (prV g m c (mkP T A ⟨0, at_, i, nd, got⟩)) ∧ Below W.heap.size W w') := fun W hW => by
        rw [← PV]
        exact l6Makes_any HT.out g m c _ W hW hi hm hnd
      clear PV
      cases wt with
      | true =>
        by_cases hc : (T i).c = 1
        · have HC : Hid ((T i).c = 1) := hc
          clear hc
          go_wp2_with fail
          refine (HIs.out 1 1 { data := #[97, 108, 108] } (by rfl) (by rfl) (by omega) (by omega) _ (HR.out.below ((HLr.out).below (below_alloc _ _)).bel)).mono ?_
          rintro e w1 ⟨rfl, hb⟩
          have HL1 : Hid (LS w g m c ⟨0, at_, i, nd, got⟩ o st u4 u5 w1) := ((HLr.out).below (below_alloc _ _)).below hb
          clear hb
          have zz1 : w.heap.size + 2 ≤ w1.heap.size := HL1.out.sz
          have zl1 : w.heap.size < w1.heap.size := by omega
          have b0_1 : w1.cell? ⟨w.heap.size, 0, none⟩ = some (.slice (some ⟨g, 0, none⟩) m c) := HL1.out.z.1 0 _ rfl
          have b1_1 : w1.cell? ⟨w.heap.size, 1, none⟩ = some (.int .i64 (i : Int)) := HL1.out.z.1 1 _ rfl
          have b2_1 : w1.cell? ⟨w.heap.size, 2, none⟩ = some (.int .i64 (nd : Int)) := HL1.out.z.1 2 _ rfl
          have b3_1 : w1.cell? ⟨w.heap.size, 3, none⟩ = some (.int .i64 0) := HL1.out.z.1 3 _ rfl
          have b4_1 : w1.cell? ⟨w.heap.size, 4, none⟩ = some (.int .i64 at_) := HL1.out.z.1 4 _ rfl
          have b5_1 : w1.cell? ⟨w.heap.size, 5, none⟩ = some (.string S) := (HL1.out.z.1 5 _ rfl).trans (by simp only [HS.out])
          have bf_1 := HL1.out.z.2
          clear a0 a1 a2 a3 a4 a5 af
          rw [show decide ((T i).c = 1) = true from decide_eq_true HC.out]
          go_wp2_with fail
          refine (HM.out _ (HR.out.below (HL1.out).bel)).mono ?_
          rintro e w2 ⟨rfl, hb⟩
          have HL2 : Hid (LS w g m c ⟨0, at_, i, nd, got⟩ o st u4 u5 w2) := (HL1.out).below hb
          clear hb
          have zz2 : w.heap.size + 2 ≤ w2.heap.size := HL2.out.sz
          have zl2 : w.heap.size < w2.heap.size := by omega
          have b0_2 : w2.cell? ⟨w.heap.size, 0, none⟩ = some (.slice (some ⟨g, 0, none⟩) m c) := HL2.out.z.1 0 _ rfl
          have b1_2 : w2.cell? ⟨w.heap.size, 1, none⟩ = some (.int .i64 (i : Int)) := HL2.out.z.1 1 _ rfl
          have b2_2 : w2.cell? ⟨w.heap.size, 2, none⟩ = some (.int .i64 (nd : Int)) := HL2.out.z.1 2 _ rfl
          have b3_2 : w2.cell? ⟨w.heap.size, 3, none⟩ = some (.int .i64 0) := HL2.out.z.1 3 _ rfl
          have b4_2 : w2.cell? ⟨w.heap.size, 4, none⟩ = some (.int .i64 at_) := HL2.out.z.1 4 _ rfl
          have b5_2 : w2.cell? ⟨w.heap.size, 5, none⟩ = some (.string S) := (HL2.out.z.1 5 _ rfl).trans (by simp only [HS.out])
          have bf_2 := HL2.out.z.2
          clear b0_1 b1_1 b2_1 b3_1 b4_1 b5_1 bf_1
          obtain ⟨q, hq⟩ : ∃ q, q = mkP T A ⟨0, at_, i, nd, got⟩ := ⟨_, rfl⟩
          have HBODY : Hid (bodyM T A ⟨⟨0, at_, i, nd, got⟩, o, st, true, false⟩ = ⟨q, o ++ [⟨1, [], []⟩], st, false, false⟩) := by
            show _ = _
            unfold bodyM
            simp only [HC.out, hq]
            rfl
          have HGO : Hid (Go1 m ⟨0, at_, i, nd, got⟩ q) := by rw [hq]; exact go_mk HLK.out _ rfl HC.out (by omega) (by omega)
          rw [← hq]
          clear hq
          have HQ := HL2.out.setP q
          obtain ⟨er2, at2, i2, nd2, got2⟩ := q
          dsimp only at HQ
          unfold prV
          go_wp2_with (at_builtin; refine app_nd rfl _ _ rfl (w.heap.size + 2) u4 o rfl (HQ.nd.below (below_alloc _ _)) w2.heap.size ⟨1, [], []⟩ rfl (new_cells2 _ _ (by simp) [.int .i64 1, .string { data := #[] }, .string { data := #[] }] _) (by omega) (by simp; omega) ?_)
          intro v' w9 hown hgrow hsm
          have HL9 := (HQ.below (below_alloc _ _)).grewN hgrow hown
          clear hown hgrow hsm
          go_wp2
          have NX := PI.next HRC.out rfl rfl HBODY.out rfl HBD.out (HGO.out) (fun x hx => HBD.out.2.2.1 x hx) (by show _ ≤ o.length + st.length + 1; simp <;> omega) (HL9) HLr.out
          go_roundw
          case rel => exact NX.1
          case measure => exact NX.2
        · by_cases hc2 : (T i).c = 2
          · have HC : Hid ((T i).c = 2) := hc2
            clear hc hc2
            go_wp2_with fail
            refine (HIs.out 1 1 { data := #[97, 108, 108] } (by rfl) (by rfl) (by omega) (by omega) _ (HR.out.below ((HLr.out).below (below_alloc _ _)).bel)).mono ?_
            rintro e w1 ⟨rfl, hb⟩
            have HL1 : Hid (LS w g m c ⟨0, at_, i, nd, got⟩ o st u4 u5 w1) := ((HLr.out).below (below_alloc _ _)).below hb
            clear hb
            have zz1 : w.heap.size + 2 ≤ w1.heap.size := HL1.out.sz
            have zl1 : w.heap.size < w1.heap.size := by omega
            have b0_1 : w1.cell? ⟨w.heap.size, 0, none⟩ = some (.slice (some ⟨g, 0, none⟩) m c) := HL1.out.z.1 0 _ rfl
            have b1_1 : w1.cell? ⟨w.heap.size, 1, none⟩ = some (.int .i64 (i : Int)) := HL1.out.z.1 1 _ rfl
            have b2_1 : w1.cell? ⟨w.heap.size, 2, none⟩ = some (.int .i64 (nd : Int)) := HL1.out.z.1 2 _ rfl
            have b3_1 : w1.cell? ⟨w.heap.size, 3, none⟩ = some (.int .i64 0) := HL1.out.z.1 3 _ rfl
            have b4_1 : w1.cell? ⟨w.heap.size, 4, none⟩ = some (.int .i64 at_) := HL1.out.z.1 4 _ rfl
            have b5_1 : w1.cell? ⟨w.heap.size, 5, none⟩ = some (.string S) := (HL1.out.z.1 5 _ rfl).trans (by simp only [HS.out])
            have bf_1 := HL1.out.z.2
            clear a0 a1 a2 a3 a4 a5 af
            rw [show decide ((T i).c = 1) = false from decide_eq_false (by have := HC.out; omega)]
            go_wp2_with fail
            refine (HIs.out 2 1 { data := #[118] } (by rfl) (by rfl) (by omega) (by omega) _ (HR.out.below (HL1.out).bel)).mono ?_
            rintro e w2 ⟨rfl, hb⟩
            have HL2 : Hid (LS w g m c ⟨0, at_, i, nd, got⟩ o st u4 u5 w2) := (HL1.out).below hb
            clear hb
            have zz2 : w.heap.size + 2 ≤ w2.heap.size := HL2.out.sz
            have zl2 : w.heap.size < w2.heap.size := by omega
            have b0_2 : w2.cell? ⟨w.heap.size, 0, none⟩ = some (.slice (some ⟨g, 0, none⟩) m c) := HL2.out.z.1 0 _ rfl
            have b1_2 : w2.cell? ⟨w.heap.size, 1, none⟩ = some (.int .i64 (i : Int)) := HL2.out.z.1 1 _ rfl
            have b2_2 : w2.cell? ⟨w.heap.size, 2, none⟩ = some (.int .i64 (nd : Int)) := HL2.out.z.1 2 _ rfl
            have b3_2 : w2.cell? ⟨w.heap.size, 3, none⟩ = some (.int .i64 0) := HL2.out.z.1 3 _ rfl
            have b4_2 : w2.cell? ⟨w.heap.size, 4, none⟩ = some (.int .i64 at_) := HL2.out.z.1 4 _ rfl
            have b5_2 : w2.cell? ⟨w.heap.size, 5, none⟩ = some (.string S) := (HL2.out.z.1 5 _ rfl).trans (by simp only [HS.out])
            have bf_2 := HL2.out.z.2
            clear b0_1 b1_1 b2_1 b3_1 b4_1 b5_1 bf_1
            rw [show decide ((T i).c = 2) = true from decide_eq_true HC.out]
            obtain ⟨p2, hp2⟩ : ∃ q, q = mkP T A ⟨0, at_, i, nd, got⟩ := ⟨_, rfl⟩
            rw [← hp2] at HM
            have G2 : Go1 m ⟨0, at_, i, nd, got⟩ p2 := by rw [hp2]; exact go_mk HLK.out _ rfl HC.out (by omega) (by omega)
            have l2 : p2.i < m := G2.2.2.1 hi
            obtain ⟨p3, hp3⟩ : ∃ q, q = symP T A p2 11 := ⟨_, rfl⟩
            have G3 : Go1 m ⟨0, at_, i, nd, got⟩ p3 := by rw [hp3]; exact G2.trans (go_sym HLK.out _ (by omega) (by omega))
            have l3 : p3.i < m := G3.2.2.1 hi
            have HC3 : Hid (∀ W, RdK W g m T A → Calls Try.prog 103 #[prV g m c p2, .string { data := #[40] }] W fun r w' => r = .returned (prV g m c p3) ∧ Below W.heap.size W w') := fun W hW => by
              rw [hp3]
              exact l6Sym_any HT.out 11 _ rfl rfl (by omega) (by omega) g m c _ W hW l2 hm
            obtain ⟨p4, hp4⟩ : ∃ q, q = strP T A p3 := ⟨_, rfl⟩
            have G4 : Go1 m ⟨0, at_, i, nd, got⟩ p4 := by rw [hp4]; exact G3.trans (go_str HLK.out _)
            have l4 : p4.i < m := G4.2.2.1 hi
            have HC4 : Hid (∀ W, RdK W g m T A → Calls Try.prog 104 #[prV g m c p3] W fun r w' => r = .returned (prV g m c p4) ∧ Below W.heap.size W w') := fun W hW => by
              rw [hp4]
              exact l6Str_any HT.out g m c _ W hW l3 hm
            obtain ⟨p5, hp5⟩ : ∃ q, q = symP T A p4 12 := ⟨_, rfl⟩
            have G5 : Go1 m ⟨0, at_, i, nd, got⟩ p5 := by rw [hp5]; exact G4.trans (go_sym HLK.out _ (by omega) (by omega))
            have l5 : p5.i < m := G5.2.2.1 hi
            have HC5 : Hid (∀ W, RdK W g m T A → Calls Try.prog 103 #[prV g m c p4, .string { data := #[41] }] W fun r w' => r = .returned (prV g m c p5) ∧ Below W.heap.size W w') := fun W hW => by
              rw [hp5]
              exact l6Sym_any HT.out 12 _ rfl rfl (by omega) (by omega) g m c _ W hW l4 hm
            have HBODY : Hid (bodyM T A ⟨⟨0, at_, i, nd, got⟩, o, st, true, false⟩ = ⟨p5, o ++ [⟨2, p5.got, []⟩], st, false, false⟩) := by
              show _ = _
              unfold bodyM
              simp only [HC.out, hp5, hp4, hp3, hp2]
              rfl
            have HGO : Hid (Go1 m ⟨0, at_, i, nd, got⟩ p5) := G5
            clear hp2 l2 G2 hp3 l3 G3 hp4 l4 G4 hp5 l5 G5
            go_wp2_with fail
            refine (HM.out _ (HR.out.below (HL2.out).bel)).mono ?_
            rintro e w3 ⟨rfl, hb⟩
            have HL3 : Hid (LS w g m c ⟨0, at_, i, nd, got⟩ o st u4 u5 w3) := (HL2.out).below hb
            clear hb
            have zz3 : w.heap.size + 2 ≤ w3.heap.size := HL3.out.sz
            have zl3 : w.heap.size < w3.heap.size := by omega
            have b0_3 : w3.cell? ⟨w.heap.size, 0, none⟩ = some (.slice (some ⟨g, 0, none⟩) m c) := HL3.out.z.1 0 _ rfl
            have b1_3 : w3.cell? ⟨w.heap.size, 1, none⟩ = some (.int .i64 (i : Int)) := HL3.out.z.1 1 _ rfl
            have b2_3 : w3.cell? ⟨w.heap.size, 2, none⟩ = some (.int .i64 (nd : Int)) := HL3.out.z.1 2 _ rfl
            have b3_3 : w3.cell? ⟨w.heap.size, 3, none⟩ = some (.int .i64 0) := HL3.out.z.1 3 _ rfl
            have b4_3 : w3.cell? ⟨w.heap.size, 4, none⟩ = some (.int .i64 at_) := HL3.out.z.1 4 _ rfl
            have b5_3 : w3.cell? ⟨w.heap.size, 5, none⟩ = some (.string S) := (HL3.out.z.1 5 _ rfl).trans (by simp only [HS.out])
            have bf_3 := HL3.out.z.2
            clear b0_2 b1_2 b2_2 b3_2 b4_2 b5_2 bf_2
            go_wp2_with fail
            refine (HC3.out _ (HR.out.below (HL3.out).bel)).mono ?_
            rintro e w4 ⟨rfl, hb⟩
            have HL4 : Hid (LS w g m c ⟨0, at_, i, nd, got⟩ o st u4 u5 w4) := (HL3.out).below hb
            clear hb
            have zz4 : w.heap.size + 2 ≤ w4.heap.size := HL4.out.sz
            have zl4 : w.heap.size < w4.heap.size := by omega
            have b0_4 : w4.cell? ⟨w.heap.size, 0, none⟩ = some (.slice (some ⟨g, 0, none⟩) m c) := HL4.out.z.1 0 _ rfl
            have b1_4 : w4.cell? ⟨w.heap.size, 1, none⟩ = some (.int .i64 (i : Int)) := HL4.out.z.1 1 _ rfl
            have b2_4 : w4.cell? ⟨w.heap.size, 2, none⟩ = some (.int .i64 (nd : Int)) := HL4.out.z.1 2 _ rfl
            have b3_4 : w4.cell? ⟨w.heap.size, 3, none⟩ = some (.int .i64 0) := HL4.out.z.1 3 _ rfl
            have b4_4 : w4.cell? ⟨w.heap.size, 4, none⟩ = some (.int .i64 at_) := HL4.out.z.1 4 _ rfl
            have b5_4 : w4.cell? ⟨w.heap.size, 5, none⟩ = some (.string S) := (HL4.out.z.1 5 _ rfl).trans (by simp only [HS.out])
            have bf_4 := HL4.out.z.2
            clear b0_3 b1_3 b2_3 b3_3 b4_3 b5_3 bf_3
            go_wp2_with fail
            refine (HC4.out _ (HR.out.below (HL4.out).bel)).mono ?_
            rintro e w5 ⟨rfl, hb⟩
            have HL5 : Hid (LS w g m c ⟨0, at_, i, nd, got⟩ o st u4 u5 w5) := (HL4.out).below hb
            clear hb
            have zz5 : w.heap.size + 2 ≤ w5.heap.size := HL5.out.sz
            have zl5 : w.heap.size < w5.heap.size := by omega
            have b0_5 : w5.cell? ⟨w.heap.size, 0, none⟩ = some (.slice (some ⟨g, 0, none⟩) m c) := HL5.out.z.1 0 _ rfl
            have b1_5 : w5.cell? ⟨w.heap.size, 1, none⟩ = some (.int .i64 (i : Int)) := HL5.out.z.1 1 _ rfl
            have b2_5 : w5.cell? ⟨w.heap.size, 2, none⟩ = some (.int .i64 (nd : Int)) := HL5.out.z.1 2 _ rfl
            have b3_5 : w5.cell? ⟨w.heap.size, 3, none⟩ = some (.int .i64 0) := HL5.out.z.1 3 _ rfl
            have b4_5 : w5.cell? ⟨w.heap.size, 4, none⟩ = some (.int .i64 at_) := HL5.out.z.1 4 _ rfl
            have b5_5 : w5.cell? ⟨w.heap.size, 5, none⟩ = some (.string S) := (HL5.out.z.1 5 _ rfl).trans (by simp only [HS.out])
            have bf_5 := HL5.out.z.2
            clear b0_4 b1_4 b2_4 b3_4 b4_4 b5_4 bf_4
            go_wp2_with fail
            refine (HC5.out _ (HR.out.below (HL5.out).bel)).mono ?_
            rintro e w6 ⟨rfl, hb⟩
            have HL6 : Hid (LS w g m c ⟨0, at_, i, nd, got⟩ o st u4 u5 w6) := (HL5.out).below hb
            clear hb
            have zz6 : w.heap.size + 2 ≤ w6.heap.size := HL6.out.sz
            have zl6 : w.heap.size < w6.heap.size := by omega
            have b0_6 : w6.cell? ⟨w.heap.size, 0, none⟩ = some (.slice (some ⟨g, 0, none⟩) m c) := HL6.out.z.1 0 _ rfl
            have b1_6 : w6.cell? ⟨w.heap.size, 1, none⟩ = some (.int .i64 (i : Int)) := HL6.out.z.1 1 _ rfl
            have b2_6 : w6.cell? ⟨w.heap.size, 2, none⟩ = some (.int .i64 (nd : Int)) := HL6.out.z.1 2 _ rfl
            have b3_6 : w6.cell? ⟨w.heap.size, 3, none⟩ = some (.int .i64 0) := HL6.out.z.1 3 _ rfl
            have b4_6 : w6.cell? ⟨w.heap.size, 4, none⟩ = some (.int .i64 at_) := HL6.out.z.1 4 _ rfl
            have b5_6 : w6.cell? ⟨w.heap.size, 5, none⟩ = some (.string S) := (HL6.out.z.1 5 _ rfl).trans (by simp only [HS.out])
            have bf_6 := HL6.out.z.2
            clear b0_5 b1_5 b2_5 b3_5 b4_5 b5_5 bf_5
            have HQ := HL6.out.setP p5
            obtain ⟨er2, at2, i2, nd2, got2⟩ := p5
            dsimp only at HQ
            unfold prV
            go_wp2_with (at_builtin; refine app_nd rfl _ _ rfl (w.heap.size + 2) u4 o rfl (HQ.nd.below (below_alloc _ _)) w6.heap.size ⟨2, got2, []⟩ rfl (new_cells2 _ _ (by simp) [.int .i64 2, .string (strT got2), .string { data := #[] }] _) (by omega) (by simp; omega) ?_)
            intro v' w9 hown hgrow hsm
            have HL9 := (HQ.below (below_alloc _ _)).grewN hgrow hown
            clear hown hgrow hsm
            go_wp2
            have NX := PI.next HRC.out rfl rfl HBODY.out rfl HBD.out (HGO.out) (fun x hx => HBD.out.2.2.1 x hx) (by show _ ≤ o.length + st.length + 1; simp <;> omega) (HL9) HLr.out
            go_roundw
            case rel => exact NX.1
            case measure => exact NX.2
          · by_cases hc9 : (T i).c = 9
            · have HC : Hid ((T i).c = 9) := hc9
              clear hc hc2 hc9
              go_wp2_with fail
              refine (HIs.out 1 1 { data := #[97, 108, 108] } (by rfl) (by rfl) (by omega) (by omega) _ (HR.out.below ((HLr.out).below (below_alloc _ _)).bel)).mono ?_
              rintro e w1 ⟨rfl, hb⟩
              have HL1 : Hid (LS w g m c ⟨0, at_, i, nd, got⟩ o st u4 u5 w1) := ((HLr.out).below (below_alloc _ _)).below hb
              clear hb
              have zz1 : w.heap.size + 2 ≤ w1.heap.size := HL1.out.sz
              have zl1 : w.heap.size < w1.heap.size := by omega
              have b0_1 : w1.cell? ⟨w.heap.size, 0, none⟩ = some (.slice (some ⟨g, 0, none⟩) m c) := HL1.out.z.1 0 _ rfl
              have b1_1 : w1.cell? ⟨w.heap.size, 1, none⟩ = some (.int .i64 (i : Int)) := HL1.out.z.1 1 _ rfl
              have b2_1 : w1.cell? ⟨w.heap.size, 2, none⟩ = some (.int .i64 (nd : Int)) := HL1.out.z.1 2 _ rfl
              have b3_1 : w1.cell? ⟨w.heap.size, 3, none⟩ = some (.int .i64 0) := HL1.out.z.1 3 _ rfl
              have b4_1 : w1.cell? ⟨w.heap.size, 4, none⟩ = some (.int .i64 at_) := HL1.out.z.1 4 _ rfl
              have b5_1 : w1.cell? ⟨w.heap.size, 5, none⟩ = some (.string S) := (HL1.out.z.1 5 _ rfl).trans (by simp only [HS.out])
              have bf_1 := HL1.out.z.2
              clear a0 a1 a2 a3 a4 a5 af
              rw [show decide ((T i).c = 1) = false from decide_eq_false (by have := HC.out; omega)]
              go_wp2_with fail
              refine (HIs.out 2 1 { data := #[118] } (by rfl) (by rfl) (by omega) (by omega) _ (HR.out.below (HL1.out).bel)).mono ?_
              rintro e w2 ⟨rfl, hb⟩
              have HL2 : Hid (LS w g m c ⟨0, at_, i, nd, got⟩ o st u4 u5 w2) := (HL1.out).below hb
              clear hb
              have zz2 : w.heap.size + 2 ≤ w2.heap.size := HL2.out.sz
              have zl2 : w.heap.size < w2.heap.size := by omega
              have b0_2 : w2.cell? ⟨w.heap.size, 0, none⟩ = some (.slice (some ⟨g, 0, none⟩) m c) := HL2.out.z.1 0 _ rfl
              have b1_2 : w2.cell? ⟨w.heap.size, 1, none⟩ = some (.int .i64 (i : Int)) := HL2.out.z.1 1 _ rfl
              have b2_2 : w2.cell? ⟨w.heap.size, 2, none⟩ = some (.int .i64 (nd : Int)) := HL2.out.z.1 2 _ rfl
              have b3_2 : w2.cell? ⟨w.heap.size, 3, none⟩ = some (.int .i64 0) := HL2.out.z.1 3 _ rfl
              have b4_2 : w2.cell? ⟨w.heap.size, 4, none⟩ = some (.int .i64 at_) := HL2.out.z.1 4 _ rfl
              have b5_2 : w2.cell? ⟨w.heap.size, 5, none⟩ = some (.string S) := (HL2.out.z.1 5 _ rfl).trans (by simp only [HS.out])
              have bf_2 := HL2.out.z.2
              clear b0_1 b1_1 b2_1 b3_1 b4_1 b5_1 bf_1
              rw [show decide ((T i).c = 2) = false from decide_eq_false (by have := HC.out; omega)]
              go_wp2_with fail
              refine (HIs.out 9 1 { data := #[103, 114, 97, 112, 104] } (by rfl) (by rfl) (by omega) (by omega) _ (HR.out.below (HL2.out).bel)).mono ?_
              rintro e w3 ⟨rfl, hb⟩
              have HL3 : Hid (LS w g m c ⟨0, at_, i, nd, got⟩ o st u4 u5 w3) := (HL2.out).below hb
              clear hb
              have zz3 : w.heap.size + 2 ≤ w3.heap.size := HL3.out.sz
              have zl3 : w.heap.size < w3.heap.size := by omega
              have b0_3 : w3.cell? ⟨w.heap.size, 0, none⟩ = some (.slice (some ⟨g, 0, none⟩) m c) := HL3.out.z.1 0 _ rfl
              have b1_3 : w3.cell? ⟨w.heap.size, 1, none⟩ = some (.int .i64 (i : Int)) := HL3.out.z.1 1 _ rfl
              have b2_3 : w3.cell? ⟨w.heap.size, 2, none⟩ = some (.int .i64 (nd : Int)) := HL3.out.z.1 2 _ rfl
              have b3_3 : w3.cell? ⟨w.heap.size, 3, none⟩ = some (.int .i64 0) := HL3.out.z.1 3 _ rfl
              have b4_3 : w3.cell? ⟨w.heap.size, 4, none⟩ = some (.int .i64 at_) := HL3.out.z.1 4 _ rfl
              have b5_3 : w3.cell? ⟨w.heap.size, 5, none⟩ = some (.string S) := (HL3.out.z.1 5 _ rfl).trans (by simp only [HS.out])
              have bf_3 := HL3.out.z.2
              clear b0_2 b1_2 b2_2 b3_2 b4_2 b5_2 bf_2
              rw [show decide ((T i).c = 9) = true from decide_eq_true HC.out]
              obtain ⟨p2, hp2⟩ : ∃ q, q = mkP T A ⟨0, at_, i, nd, got⟩ := ⟨_, rfl⟩
              rw [← hp2] at HM
              have G2 : Go1 m ⟨0, at_, i, nd, got⟩ p2 := by rw [hp2]; exact go_mk HLK.out _ rfl HC.out (by omega) (by omega)
              have l2 : p2.i < m := G2.2.2.1 hi
              obtain ⟨p3, hp3⟩ : ∃ q, q = strP T A p2 := ⟨_, rfl⟩
              have G3 : Go1 m ⟨0, at_, i, nd, got⟩ p3 := by rw [hp3]; exact G2.trans (go_str HLK.out _)
              have l3 : p3.i < m := G3.2.2.1 hi
              have HC3 : Hid (∀ W, RdK W g m T A → Calls Try.prog 104 #[prV g m c p2] W fun r w' => r = .returned (prV g m c p3) ∧ Below W.heap.size W w') := fun W hW => by
                rw [hp3]
                exact l6Str_any HT.out g m c _ W hW l2 hm
              obtain ⟨p4, hp4⟩ : ∃ q, q = symP T A p3 11 := ⟨_, rfl⟩
              have G4 : Go1 m ⟨0, at_, i, nd, got⟩ p4 := by rw [hp4]; exact G3.trans (go_sym HLK.out _ (by omega) (by omega))
              have l4 : p4.i < m := G4.2.2.1 hi
              have HC4 : Hid (∀ W, RdK W g m T A → Calls Try.prog 103 #[prV g m c p3, .string { data := #[40] }] W fun r w' => r = .returned (prV g m c p4) ∧ Below W.heap.size W w') := fun W hW => by
                rw [hp4]
                exact l6Sym_any HT.out 11 _ rfl rfl (by omega) (by omega) g m c _ W hW l3 hm
              have HBODY : Hid (bodyM T A ⟨⟨0, at_, i, nd, got⟩, o, st, true, false⟩ = ⟨p4, o, ⟨9, p4.got⟩ :: st, true, false⟩) := by
                show _ = _
                unfold bodyM
                simp only [HC.out, hp4, hp3, hp2]
                rfl
              have HGO : Hid (Go1 m ⟨0, at_, i, nd, got⟩ p4) := G4
              clear hp2 l2 G2 hp3 l3 G3 hp4 l4 G4
              go_wp2_with fail
              refine (HM.out _ (HR.out.below (HL3.out).bel)).mono ?_
              rintro e w4 ⟨rfl, hb⟩
              have HL4 : Hid (LS w g m c ⟨0, at_, i, nd, got⟩ o st u4 u5 w4) := (HL3.out).below hb
              clear hb
              have zz4 : w.heap.size + 2 ≤ w4.heap.size := HL4.out.sz
              have zl4 : w.heap.size < w4.heap.size := by omega
              have b0_4 : w4.cell? ⟨w.heap.size, 0, none⟩ = some (.slice (some ⟨g, 0, none⟩) m c) := HL4.out.z.1 0 _ rfl
              have b1_4 : w4.cell? ⟨w.heap.size, 1, none⟩ = some (.int .i64 (i : Int)) := HL4.out.z.1 1 _ rfl
              have b2_4 : w4.cell? ⟨w.heap.size, 2, none⟩ = some (.int .i64 (nd : Int)) := HL4.out.z.1 2 _ rfl
              have b3_4 : w4.cell? ⟨w.heap.size, 3, none⟩ = some (.int .i64 0) := HL4.out.z.1 3 _ rfl
              have b4_4 : w4.cell? ⟨w.heap.size, 4, none⟩ = some (.int .i64 at_) := HL4.out.z.1 4 _ rfl
              have b5_4 : w4.cell? ⟨w.heap.size, 5, none⟩ = some (.string S) := (HL4.out.z.1 5 _ rfl).trans (by simp only [HS.out])
              have bf_4 := HL4.out.z.2
              clear b0_3 b1_3 b2_3 b3_3 b4_3 b5_3 bf_3
              go_wp2_with fail
              refine (HC3.out _ (HR.out.below (HL4.out).bel)).mono ?_
              rintro e w5 ⟨rfl, hb⟩
              have HL5 : Hid (LS w g m c ⟨0, at_, i, nd, got⟩ o st u4 u5 w5) := (HL4.out).below hb
              clear hb
              have zz5 : w.heap.size + 2 ≤ w5.heap.size := HL5.out.sz
              have zl5 : w.heap.size < w5.heap.size := by omega
              have b0_5 : w5.cell? ⟨w.heap.size, 0, none⟩ = some (.slice (some ⟨g, 0, none⟩) m c) := HL5.out.z.1 0 _ rfl
              have b1_5 : w5.cell? ⟨w.heap.size, 1, none⟩ = some (.int .i64 (i : Int)) := HL5.out.z.1 1 _ rfl
              have b2_5 : w5.cell? ⟨w.heap.size, 2, none⟩ = some (.int .i64 (nd : Int)) := HL5.out.z.1 2 _ rfl
              have b3_5 : w5.cell? ⟨w.heap.size, 3, none⟩ = some (.int .i64 0) := HL5.out.z.1 3 _ rfl
              have b4_5 : w5.cell? ⟨w.heap.size, 4, none⟩ = some (.int .i64 at_) := HL5.out.z.1 4 _ rfl
              have b5_5 : w5.cell? ⟨w.heap.size, 5, none⟩ = some (.string S) := (HL5.out.z.1 5 _ rfl).trans (by simp only [HS.out])
              have bf_5 := HL5.out.z.2
              clear b0_4 b1_4 b2_4 b3_4 b4_4 b5_4 bf_4
              go_wp2_with fail
              refine (HC4.out _ (HR.out.below (HL5.out).bel)).mono ?_
              rintro e w6 ⟨rfl, hb⟩
              have HL6 : Hid (LS w g m c ⟨0, at_, i, nd, got⟩ o st u4 u5 w6) := (HL5.out).below hb
              clear hb
              have zz6 : w.heap.size + 2 ≤ w6.heap.size := HL6.out.sz
              have zl6 : w.heap.size < w6.heap.size := by omega
              have b0_6 : w6.cell? ⟨w.heap.size, 0, none⟩ = some (.slice (some ⟨g, 0, none⟩) m c) := HL6.out.z.1 0 _ rfl
              have b1_6 : w6.cell? ⟨w.heap.size, 1, none⟩ = some (.int .i64 (i : Int)) := HL6.out.z.1 1 _ rfl
              have b2_6 : w6.cell? ⟨w.heap.size, 2, none⟩ = some (.int .i64 (nd : Int)) := HL6.out.z.1 2 _ rfl
              have b3_6 : w6.cell? ⟨w.heap.size, 3, none⟩ = some (.int .i64 0) := HL6.out.z.1 3 _ rfl
              have b4_6 : w6.cell? ⟨w.heap.size, 4, none⟩ = some (.int .i64 at_) := HL6.out.z.1 4 _ rfl
              have b5_6 : w6.cell? ⟨w.heap.size, 5, none⟩ = some (.string S) := (HL6.out.z.1 5 _ rfl).trans (by simp only [HS.out])
              have bf_6 := HL6.out.z.2
              clear b0_5 b1_5 b2_5 b3_5 b4_5 b5_5 bf_5
              have HQ := HL6.out.setP p4
              obtain ⟨er2, at2, i2, nd2, got2⟩ := p4
              dsimp only at HQ
              unfold prV
              go_wp2_with (at_builtin; refine app_en rfl _ _ rfl (w.heap.size + 2) u5 st rfl (HQ.en.below (below_alloc _ _)) w6.heap.size ⟨9, got2⟩ rfl (new_cells2 _ _ (by simp) [.int .i64 9, .string (strT got2)] _) (by omega) (by simp; omega) ?_)
              intro v' w9 hown hgrow hsm
              have HL9 := (HQ.below (below_alloc _ _)).grewE hgrow hown
              clear hown hgrow hsm
              go_wp2
              have NX := PI.next HRC.out rfl rfl HBODY.out rfl HBD.out (HGO.out) (fun x hx => by rcases List.mem_cons.1 hx with e | e; (rw [e]; show _ ≤ 15; dsimp only; omega); exact HBD.out.2.2.1 x e) (by show _ ≤ o.length + st.length + 1; simp <;> omega) (HL9) HLr.out
              go_roundw
              case rel => exact NX.1
              case measure => exact NX.2
            · by_cases hc11 : (T i).c = 11
              · have HC : Hid ((T i).c = 11) := hc11
                clear hc hc2 hc9 hc11
                go_wp2_with fail
                refine (HIs.out 1 1 { data := #[97, 108, 108] } (by rfl) (by rfl) (by omega) (by omega) _ (HR.out.below ((HLr.out).below (below_alloc _ _)).bel)).mono ?_
                rintro e w1 ⟨rfl, hb⟩
                have HL1 : Hid (LS w g m c ⟨0, at_, i, nd, got⟩ o st u4 u5 w1) := ((HLr.out).below (below_alloc _ _)).below hb
                clear hb
                have zz1 : w.heap.size + 2 ≤ w1.heap.size := HL1.out.sz
                have zl1 : w.heap.size < w1.heap.size := by omega
                have b0_1 : w1.cell? ⟨w.heap.size, 0, none⟩ = some (.slice (some ⟨g, 0, none⟩) m c) := HL1.out.z.1 0 _ rfl
                have b1_1 : w1.cell? ⟨w.heap.size, 1, none⟩ = some (.int .i64 (i : Int)) := HL1.out.z.1 1 _ rfl
                have b2_1 : w1.cell? ⟨w.heap.size, 2, none⟩ = some (.int .i64 (nd : Int)) := HL1.out.z.1 2 _ rfl
                have b3_1 : w1.cell? ⟨w.heap.size, 3, none⟩ = some (.int .i64 0) := HL1.out.z.1 3 _ rfl
                have b4_1 : w1.cell? ⟨w.heap.size, 4, none⟩ = some (.int .i64 at_) := HL1.out.z.1 4 _ rfl
                have b5_1 : w1.cell? ⟨w.heap.size, 5, none⟩ = some (.string S) := (HL1.out.z.1 5 _ rfl).trans (by simp only [HS.out])
                have bf_1 := HL1.out.z.2
                clear a0 a1 a2 a3 a4 a5 af
                rw [show decide ((T i).c = 1) = false from decide_eq_false (by have := HC.out; omega)]
                go_wp2_with fail
                refine (HIs.out 2 1 { data := #[118] } (by rfl) (by rfl) (by omega) (by omega) _ (HR.out.below (HL1.out).bel)).mono ?_
                rintro e w2 ⟨rfl, hb⟩
                have HL2 : Hid (LS w g m c ⟨0, at_, i, nd, got⟩ o st u4 u5 w2) := (HL1.out).below hb
                clear hb
                have zz2 : w.heap.size + 2 ≤ w2.heap.size := HL2.out.sz
                have zl2 : w.heap.size < w2.heap.size := by omega
                have b0_2 : w2.cell? ⟨w.heap.size, 0, none⟩ = some (.slice (some ⟨g, 0, none⟩) m c) := HL2.out.z.1 0 _ rfl
                have b1_2 : w2.cell? ⟨w.heap.size, 1, none⟩ = some (.int .i64 (i : Int)) := HL2.out.z.1 1 _ rfl
                have b2_2 : w2.cell? ⟨w.heap.size, 2, none⟩ = some (.int .i64 (nd : Int)) := HL2.out.z.1 2 _ rfl
                have b3_2 : w2.cell? ⟨w.heap.size, 3, none⟩ = some (.int .i64 0) := HL2.out.z.1 3 _ rfl
                have b4_2 : w2.cell? ⟨w.heap.size, 4, none⟩ = some (.int .i64 at_) := HL2.out.z.1 4 _ rfl
                have b5_2 : w2.cell? ⟨w.heap.size, 5, none⟩ = some (.string S) := (HL2.out.z.1 5 _ rfl).trans (by simp only [HS.out])
                have bf_2 := HL2.out.z.2
                clear b0_1 b1_1 b2_1 b3_1 b4_1 b5_1 bf_1
                rw [show decide ((T i).c = 2) = false from decide_eq_false (by have := HC.out; omega)]
                go_wp2_with fail
                refine (HIs.out 9 1 { data := #[103, 114, 97, 112, 104] } (by rfl) (by rfl) (by omega) (by omega) _ (HR.out.below (HL2.out).bel)).mono ?_
                rintro e w3 ⟨rfl, hb⟩
                have HL3 : Hid (LS w g m c ⟨0, at_, i, nd, got⟩ o st u4 u5 w3) := (HL2.out).below hb
                clear hb
                have zz3 : w.heap.size + 2 ≤ w3.heap.size := HL3.out.sz
                have zl3 : w.heap.size < w3.heap.size := by omega
                have b0_3 : w3.cell? ⟨w.heap.size, 0, none⟩ = some (.slice (some ⟨g, 0, none⟩) m c) := HL3.out.z.1 0 _ rfl
                have b1_3 : w3.cell? ⟨w.heap.size, 1, none⟩ = some (.int .i64 (i : Int)) := HL3.out.z.1 1 _ rfl
                have b2_3 : w3.cell? ⟨w.heap.size, 2, none⟩ = some (.int .i64 (nd : Int)) := HL3.out.z.1 2 _ rfl
                have b3_3 : w3.cell? ⟨w.heap.size, 3, none⟩ = some (.int .i64 0) := HL3.out.z.1 3 _ rfl
                have b4_3 : w3.cell? ⟨w.heap.size, 4, none⟩ = some (.int .i64 at_) := HL3.out.z.1 4 _ rfl
                have b5_3 : w3.cell? ⟨w.heap.size, 5, none⟩ = some (.string S) := (HL3.out.z.1 5 _ rfl).trans (by simp only [HS.out])
                have bf_3 := HL3.out.z.2
                clear b0_2 b1_2 b2_2 b3_2 b4_2 b5_2 bf_2
                rw [show decide ((T i).c = 9) = false from decide_eq_false (by have := HC.out; omega)]
                go_wp2_with fail
                refine (HIs.out 11 3 { data := #[40] } (by rfl) (by rfl) (by omega) (by omega) _ (HR.out.below (HL3.out).bel)).mono ?_
                rintro e w4 ⟨rfl, hb⟩
                have HL4 : Hid (LS w g m c ⟨0, at_, i, nd, got⟩ o st u4 u5 w4) := (HL3.out).below hb
                clear hb
                have zz4 : w.heap.size + 2 ≤ w4.heap.size := HL4.out.sz
                have zl4 : w.heap.size < w4.heap.size := by omega
                have b0_4 : w4.cell? ⟨w.heap.size, 0, none⟩ = some (.slice (some ⟨g, 0, none⟩) m c) := HL4.out.z.1 0 _ rfl
                have b1_4 : w4.cell? ⟨w.heap.size, 1, none⟩ = some (.int .i64 (i : Int)) := HL4.out.z.1 1 _ rfl
                have b2_4 : w4.cell? ⟨w.heap.size, 2, none⟩ = some (.int .i64 (nd : Int)) := HL4.out.z.1 2 _ rfl
                have b3_4 : w4.cell? ⟨w.heap.size, 3, none⟩ = some (.int .i64 0) := HL4.out.z.1 3 _ rfl
                have b4_4 : w4.cell? ⟨w.heap.size, 4, none⟩ = some (.int .i64 at_) := HL4.out.z.1 4 _ rfl
                have b5_4 : w4.cell? ⟨w.heap.size, 5, none⟩ = some (.string S) := (HL4.out.z.1 5 _ rfl).trans (by simp only [HS.out])
                have bf_4 := HL4.out.z.2
                clear b0_3 b1_3 b2_3 b3_3 b4_3 b5_3 bf_3
                rw [show decide ((T i).c = 11) = true from decide_eq_true HC.out]
                have HBODY : Hid (bodyM T A ⟨⟨0, at_, i, nd, got⟩, o, st, true, false⟩ = ⟨⟨0, at_, i9, nd, got⟩, o, ⟨0, []⟩ :: st, true, false⟩) := by
                  show _ = _
                  unfold bodyM
                  simp only [HC.out, HI9.out]
                  rfl
                have HGO : Hid (Go1 m ⟨0, at_, i, nd, got⟩ ⟨0, at_, i9, nd, got⟩) := by rw [HI9.out]; exact go_next HLK.out _ rfl HC.out (by omega) (by omega)
                have HQ := HL4.out.setI i9
                dsimp only at HQ
                go_wp2_with (at_builtin; refine app_en rfl _ _ rfl (w.heap.size + 2) u5 st rfl (HQ.en.below (below_alloc _ _)) w4.heap.size ⟨0, []⟩ rfl (new_cells2 _ _ (by simp) [.int .i64 0, .string { data := #[] }] _) (by omega) (by simp; omega) ?_)
                intro v' w9 hown hgrow hsm
                have HL9 := (HQ.below (below_alloc _ _)).grewE hgrow hown
                clear hown hgrow hsm
                go_wp2
                have NX := PI.next HRC.out rfl rfl HBODY.out rfl HBD.out (HGO.out) (fun x hx => by rcases List.mem_cons.1 hx with e | e; (rw [e]; show _ ≤ 15; dsimp only; omega); exact HBD.out.2.2.1 x e) (by show _ ≤ o.length + st.length + 1; simp <;> omega) (HL9) HLr.out
                go_roundw
                case rel => exact NX.1
                case measure => exact NX.2
              · have HC : Hid ((T i).c ≠ 1 ∧ (T i).c ≠ 2 ∧ (T i).c ≠ 9 ∧ (T i).c ≠ 11) := ⟨hc, hc2, hc9, hc11⟩
                clear hc hc2 hc9 hc11
                go_wp2_with fail
                refine (HIs.out 1 1 { data := #[97, 108, 108] } (by rfl) (by rfl) (by omega) (by omega) _ (HR.out.below ((HLr.out).below (below_alloc _ _)).bel)).mono ?_
                rintro e w1 ⟨rfl, hb⟩
                have HL1 : Hid (LS w g m c ⟨0, at_, i, nd, got⟩ o st u4 u5 w1) := ((HLr.out).below (below_alloc _ _)).below hb
                clear hb
                have zz1 : w.heap.size + 2 ≤ w1.heap.size := HL1.out.sz
                have zl1 : w.heap.size < w1.heap.size := by omega
                have b0_1 : w1.cell? ⟨w.heap.size, 0, none⟩ = some (.slice (some ⟨g, 0, none⟩) m c) := HL1.out.z.1 0 _ rfl
                have b1_1 : w1.cell? ⟨w.heap.size, 1, none⟩ = some (.int .i64 (i : Int)) := HL1.out.z.1 1 _ rfl
                have b2_1 : w1.cell? ⟨w.heap.size, 2, none⟩ = some (.int .i64 (nd : Int)) := HL1.out.z.1 2 _ rfl
                have b3_1 : w1.cell? ⟨w.heap.size, 3, none⟩ = some (.int .i64 0) := HL1.out.z.1 3 _ rfl
                have b4_1 : w1.cell? ⟨w.heap.size, 4, none⟩ = some (.int .i64 at_) := HL1.out.z.1 4 _ rfl
                have b5_1 : w1.cell? ⟨w.heap.size, 5, none⟩ = some (.string S) := (HL1.out.z.1 5 _ rfl).trans (by simp only [HS.out])
                have bf_1 := HL1.out.z.2
                clear a0 a1 a2 a3 a4 a5 af
                rw [show decide ((T i).c = 1) = false from decide_eq_false (by have := HC.out; omega)]
                go_wp2_with fail
                refine (HIs.out 2 1 { data := #[118] } (by rfl) (by rfl) (by omega) (by omega) _ (HR.out.below (HL1.out).bel)).mono ?_
                rintro e w2 ⟨rfl, hb⟩
                have HL2 : Hid (LS w g m c ⟨0, at_, i, nd, got⟩ o st u4 u5 w2) := (HL1.out).below hb
                clear hb
                have zz2 : w.heap.size + 2 ≤ w2.heap.size := HL2.out.sz
                have zl2 : w.heap.size < w2.heap.size := by omega
                have b0_2 : w2.cell? ⟨w.heap.size, 0, none⟩ = some (.slice (some ⟨g, 0, none⟩) m c) := HL2.out.z.1 0 _ rfl
                have b1_2 : w2.cell? ⟨w.heap.size, 1, none⟩ = some (.int .i64 (i : Int)) := HL2.out.z.1 1 _ rfl
                have b2_2 : w2.cell? ⟨w.heap.size, 2, none⟩ = some (.int .i64 (nd : Int)) := HL2.out.z.1 2 _ rfl
                have b3_2 : w2.cell? ⟨w.heap.size, 3, none⟩ = some (.int .i64 0) := HL2.out.z.1 3 _ rfl
                have b4_2 : w2.cell? ⟨w.heap.size, 4, none⟩ = some (.int .i64 at_) := HL2.out.z.1 4 _ rfl
                have b5_2 : w2.cell? ⟨w.heap.size, 5, none⟩ = some (.string S) := (HL2.out.z.1 5 _ rfl).trans (by simp only [HS.out])
                have bf_2 := HL2.out.z.2
                clear b0_1 b1_1 b2_1 b3_1 b4_1 b5_1 bf_1
                rw [show decide ((T i).c = 2) = false from decide_eq_false (by have := HC.out; omega)]
                go_wp2_with fail
                refine (HIs.out 9 1 { data := #[103, 114, 97, 112, 104] } (by rfl) (by rfl) (by omega) (by omega) _ (HR.out.below (HL2.out).bel)).mono ?_
                rintro e w3 ⟨rfl, hb⟩
                have HL3 : Hid (LS w g m c ⟨0, at_, i, nd, got⟩ o st u4 u5 w3) := (HL2.out).below hb
                clear hb
                have zz3 : w.heap.size + 2 ≤ w3.heap.size := HL3.out.sz
                have zl3 : w.heap.size < w3.heap.size := by omega
                have b0_3 : w3.cell? ⟨w.heap.size, 0, none⟩ = some (.slice (some ⟨g, 0, none⟩) m c) := HL3.out.z.1 0 _ rfl
                have b1_3 : w3.cell? ⟨w.heap.size, 1, none⟩ = some (.int .i64 (i : Int)) := HL3.out.z.1 1 _ rfl
                have b2_3 : w3.cell? ⟨w.heap.size, 2, none⟩ = some (.int .i64 (nd : Int)) := HL3.out.z.1 2 _ rfl
                have b3_3 : w3.cell? ⟨w.heap.size, 3, none⟩ = some (.int .i64 0) := HL3.out.z.1 3 _ rfl
                have b4_3 : w3.cell? ⟨w.heap.size, 4, none⟩ = some (.int .i64 at_) := HL3.out.z.1 4 _ rfl
                have b5_3 : w3.cell? ⟨w.heap.size, 5, none⟩ = some (.string S) := (HL3.out.z.1 5 _ rfl).trans (by simp only [HS.out])
                have bf_3 := HL3.out.z.2
                clear b0_2 b1_2 b2_2 b3_2 b4_2 b5_2 bf_2
                rw [show decide ((T i).c = 9) = false from decide_eq_false (by have := HC.out; omega)]
                go_wp2_with fail
                refine (HIs.out 11 3 { data := #[40] } (by rfl) (by rfl) (by omega) (by omega) _ (HR.out.below (HL3.out).bel)).mono ?_
                rintro e w4 ⟨rfl, hb⟩
                have HL4 : Hid (LS w g m c ⟨0, at_, i, nd, got⟩ o st u4 u5 w4) := (HL3.out).below hb
                clear hb
                have zz4 : w.heap.size + 2 ≤ w4.heap.size := HL4.out.sz
                have zl4 : w.heap.size < w4.heap.size := by omega
                have b0_4 : w4.cell? ⟨w.heap.size, 0, none⟩ = some (.slice (some ⟨g, 0, none⟩) m c) := HL4.out.z.1 0 _ rfl
                have b1_4 : w4.cell? ⟨w.heap.size, 1, none⟩ = some (.int .i64 (i : Int)) := HL4.out.z.1 1 _ rfl
                have b2_4 : w4.cell? ⟨w.heap.size, 2, none⟩ = some (.int .i64 (nd : Int)) := HL4.out.z.1 2 _ rfl
                have b3_4 : w4.cell? ⟨w.heap.size, 3, none⟩ = some (.int .i64 0) := HL4.out.z.1 3 _ rfl
                have b4_4 : w4.cell? ⟨w.heap.size, 4, none⟩ = some (.int .i64 at_) := HL4.out.z.1 4 _ rfl
                have b5_4 : w4.cell? ⟨w.heap.size, 5, none⟩ = some (.string S) := (HL4.out.z.1 5 _ rfl).trans (by simp only [HS.out])
                have bf_4 := HL4.out.z.2
                clear b0_3 b1_3 b2_3 b3_3 b4_3 b5_3 bf_3
                rw [show decide ((T i).c = 11) = false from decide_eq_false (by have := HC.out; omega)]
                go_wp2_with fail
                refine (HF.out _ (HR.out.below (HL4.out).bel)).mono ?_
                rintro e w5 ⟨rfl, hb⟩
                have HL5 : Hid (LS w g m c ⟨0, at_, i, nd, got⟩ o st u4 u5 w5) := (HL4.out).below hb
                clear hb
                have zz5 : w.heap.size + 2 ≤ w5.heap.size := HL5.out.sz
                have zl5 : w.heap.size < w5.heap.size := by omega
                have b0_5 : w5.cell? ⟨w.heap.size, 0, none⟩ = some (.slice (some ⟨g, 0, none⟩) m c) := HL5.out.z.1 0 _ rfl
                have b1_5 : w5.cell? ⟨w.heap.size, 1, none⟩ = some (.int .i64 (i : Int)) := HL5.out.z.1 1 _ rfl
                have b2_5 : w5.cell? ⟨w.heap.size, 2, none⟩ = some (.int .i64 (nd : Int)) := HL5.out.z.1 2 _ rfl
                have b3_5 : w5.cell? ⟨w.heap.size, 3, none⟩ = some (.int .i64 0) := HL5.out.z.1 3 _ rfl
                have b4_5 : w5.cell? ⟨w.heap.size, 4, none⟩ = some (.int .i64 at_) := HL5.out.z.1 4 _ rfl
                have b5_5 : w5.cell? ⟨w.heap.size, 5, none⟩ = some (.string S) := (HL5.out.z.1 5 _ rfl).trans (by simp only [HS.out])
                have bf_5 := HL5.out.z.2
                clear b0_4 b1_4 b2_4 b3_4 b4_4 b5_4 bf_4
                obtain ⟨p2, hp2⟩ : ∃ q, q = failP T A ⟨0, at_, i, nd, got⟩ 3 := ⟨_, rfl⟩
                have HBODY : Hid (bodyM T A ⟨⟨0, at_, i, nd, got⟩, o, st, true, false⟩ = ⟨p2, o, st, true, false⟩) := by
                  show _ = _
                  unfold bodyM
                  simp only [if_neg HC.out.1, if_neg HC.out.2.1, if_neg HC.out.2.2.1, if_neg HC.out.2.2.2, hp2]
                  rfl
                have HGO : Hid (Go1 m ⟨0, at_, i, nd, got⟩ p2) := by rw [hp2]; exact go_fail _ (by omega)
                rw [← hp2]
                clear hp2
                have HQ := HL5.out.setP p2
                obtain ⟨er2, at2, i2, nd2, got2⟩ := p2
                dsimp only at HQ
                unfold prV
                go_wp2
                have NX := PI.next HRC.out rfl rfl HBODY.out rfl HBD.out (HGO.out) (fun x hx => HBD.out.2.2.1 x hx) (by show _ ≤ o.length + st.length + 1; simp <;> omega) (HQ) HLr.out
                go_roundw
                case rel => exact NX.1
                case measure => exact NX.2
      | false =>
        by_cases hc : (T i).c = 10
        · skip
          have HC : Hid ((T i).c = 10) := hc
          clear hc
          obtain ⟨q, hq⟩ : ∃ q, q = (stepP T A ⟨0, at_, i, nd, got⟩).1 := ⟨_, rfl⟩
          obtain ⟨x, hx⟩ : ∃ x, x = (stepP T A ⟨0, at_, i, nd, got⟩).2 := ⟨_, rfl⟩
          have hi2 : i + 1 < m := last_lt HLK.out hi HC.out (by omega) (by omega)
          have HST : Hid (∀ W, RdK W g m T A → Calls Try.prog 106 #[.agg #[.slice (some ⟨g, 0, none⟩) m c, .int .i64 (i : Int), .int .i64 (nd : Int), .int .i64 0, .int .i64 at_, .string S]] W fun r w' => r = .returned (.tuple #[prV g m c q, ndV x]) ∧ Below W.heap.size W w') := fun W hW => by
            rw [hq, hx, HS.out]
            exact l6Step_any HT.out g m c ⟨0, at_, i, nd, got⟩ W hW HLK.out rfl hi2 hm hnd
          have HBODY : Hid (bodyM T A ⟨⟨0, at_, i, nd, got⟩, o, st, false, false⟩ = ⟨q, o ++ [x], st, false, false⟩) := by
            show _ = _
            unfold bodyM
            simp only [HC.out, hq, hx]
            rfl
          have HGO : Hid (Go1 m ⟨0, at_, i, nd, got⟩ q) := by
            rw [hq]
            exact (go_next HLK.out _ rfl HC.out (by omega) (by omega)).trans (go_stepQ HLK.out _)
          clear hq hx hi2
          go_wp2_with fail
          refine (HIs.out 10 3 { data := #[46] } (by rfl) (by rfl) (by omega) (by omega) _ (HR.out.below (HLr.out.below (below_alloc _ _)).bel)).mono ?_
          rintro e w1 ⟨rfl, hb⟩
          have HL1 : Hid (LS w g m c ⟨0, at_, i, nd, got⟩ o st u4 u5 w1) := (HLr.out.below (below_alloc _ _)).below hb
          clear hb
          have zz1 : w.heap.size + 2 ≤ w1.heap.size := HL1.out.sz
          have zl1 : w.heap.size < w1.heap.size := by omega
          have b0_1 : w1.cell? ⟨w.heap.size, 0, none⟩ = some (.slice (some ⟨g, 0, none⟩) m c) := HL1.out.z.1 0 _ rfl
          have b1_1 : w1.cell? ⟨w.heap.size, 1, none⟩ = some (.int .i64 (i : Int)) := HL1.out.z.1 1 _ rfl
          have b2_1 : w1.cell? ⟨w.heap.size, 2, none⟩ = some (.int .i64 (nd : Int)) := HL1.out.z.1 2 _ rfl
          have b3_1 : w1.cell? ⟨w.heap.size, 3, none⟩ = some (.int .i64 0) := HL1.out.z.1 3 _ rfl
          have b4_1 : w1.cell? ⟨w.heap.size, 4, none⟩ = some (.int .i64 at_) := HL1.out.z.1 4 _ rfl
          have b5_1 : w1.cell? ⟨w.heap.size, 5, none⟩ = some (.string S) := (HL1.out.z.1 5 _ rfl).trans (by simp only [HS.out])
          have bf_1 := HL1.out.z.2
          clear a0 a1 a2 a3 a4 a5 af
          rw [show decide ((T i).c = 10) = true from decide_eq_true HC.out]
          go_wp2_with fail
          refine (HST.out _ (HR.out.below (HL1.out.below (below_alloc _ _)).bel)).mono ?_
          rintro e w2 ⟨rfl, hb⟩
          have HL2 : Hid (LS w g m c ⟨0, at_, i, nd, got⟩ o st u4 u5 w2) := (HL1.out.below (below_alloc _ _)).below hb
          have HN := (cs_new w1 _ _ _ _).below hb (by simp)
          clear hb
          have zz2 : w.heap.size + 2 ≤ w2.heap.size := HL2.out.sz
          have zl2 : w.heap.size < w2.heap.size := by omega
          have b0_2 : w2.cell? ⟨w.heap.size, 0, none⟩ = some (.slice (some ⟨g, 0, none⟩) m c) := HL2.out.z.1 0 _ rfl
          have b1_2 : w2.cell? ⟨w.heap.size, 1, none⟩ = some (.int .i64 (i : Int)) := HL2.out.z.1 1 _ rfl
          have b2_2 : w2.cell? ⟨w.heap.size, 2, none⟩ = some (.int .i64 (nd : Int)) := HL2.out.z.1 2 _ rfl
          have b3_2 : w2.cell? ⟨w.heap.size, 3, none⟩ = some (.int .i64 0) := HL2.out.z.1 3 _ rfl
          have b4_2 : w2.cell? ⟨w.heap.size, 4, none⟩ = some (.int .i64 at_) := HL2.out.z.1 4 _ rfl
          have b5_2 : w2.cell? ⟨w.heap.size, 5, none⟩ = some (.string S) := (HL2.out.z.1 5 _ rfl).trans (by simp only [HS.out])
          have bf_2 := HL2.out.z.2
          clear b0_1 b1_1 b2_1 b3_1 b4_1 b5_1 bf_1
          have n0 := HN.1 0 _ rfl
          have n1 := HN.1 1 _ rfl
          have n2 := HN.1 2 _ rfl
          have nf := HN.2
          clear HN
          have nl : w1.heap.size < w2.heap.size := World.block_lt_of_cell? _ _ n0
          have ne1 : ¬ w.heap.size = w1.heap.size := by omega
          have ne2 : ¬ w1.heap.size = w.heap.size := by omega
          obtain ⟨xk, xs, xt⟩ := x
          have HQ := (((HL2.out.setP q).setB (b := w1.heap.size) (by omega) (fun e => by have := (HL1.out.nd.lt _ e).2; omega) (fun e => by have := (HL1.out.en.lt _ e).2; omega) 0 (.int .i64 (xk : Int))).setB (b := w1.heap.size) (by omega) (fun e => by have := (HL1.out.nd.lt _ e).2; omega) (fun e => by have := (HL1.out.en.lt _ e).2; omega) 1 (.string (strT xs))).setB (b := w1.heap.size) (by omega) (fun e => by have := (HL1.out.nd.lt _ e).2; omega) (fun e => by have := (HL1.out.en.lt _ e).2; omega) 2 (.string (strT xt))
          obtain ⟨er2, at2, i2, nd2, got2⟩ := q
          dsimp only at HQ
          unfold prV ndV
          go_wp2_with (at_builtin; refine app_nd rfl _ _ rfl (w.heap.size + 2) u4 o rfl (HQ.nd.below (below_alloc _ _)) w2.heap.size ⟨xk, xs, xt⟩ rfl (new_cells2 _ _ (by simp) [.int .i64 (xk : Int), .string (strT xs), .string (strT xt)] _) (by omega) (by simp; omega) ?_)
          intro v' w9 hown hgrow hsm
          have HL9 := (HQ.below (below_alloc _ _)).grewN hgrow hown
          clear hown hgrow hsm
          go_wp2
          have NX := PI.next HRC.out rfl rfl HBODY.out rfl HBD.out (HGO.out) (fun x hx => HBD.out.2.2.1 x hx) (by show _ ≤ o.length + st.length + 1; simp <;> omega) (HL9) HLr.out
          go_roundw
          case rel => exact NX.1
          case measure => exact NX.2
        · by_cases hc6 : 6 ≤ (T i).c ∧ (T i).c ≤ 8
          · skip
            have HC : Hid (6 ≤ (T i).c ∧ (T i).c ≤ 8) := hc6
            clear hc hc6
            obtain ⟨cc, hcc⟩ : ∃ cc, cc = (T i).c := ⟨_, rfl⟩
            have hc6 : 6 ≤ cc := by rw [hcc]; exact HC.out.1
            have hc8 : cc ≤ 8 := by rw [hcc]; exact HC.out.2
            have hcp : (0 : Int) < (cc : Int) := by omega
            have HIX : Hid (∀ W, Calls Try.prog 107 #[.agg #[.int .i64 K, .string X, .int .i64 (A i : Int)]] W fun r w' => r = .returned (.int .i64 (cc : Int)) ∧ Below W.heap.size W w') := fun W => by
              rw [HKX.out.1, HKX.out.2]
              refine (l6Infix_any (T i) (HT.out i) _ W).mono ?_
              rintro e w' ⟨rfl, hb⟩
              refine ⟨?_, hb⟩
              rw [show ixT (T i).c = cc by unfold ixT; rw [if_pos HC.out, hcc]]
            obtain ⟨q, hq⟩ : ∃ q, q = mkP T A ⟨0, at_, i, nd, got⟩ := ⟨_, rfl⟩
            rw [← hq] at HM
            obtain ⟨st', hst'⟩ : ∃ st', st' = (drn (stg cc) st o).1 := ⟨_, rfl⟩
            obtain ⟨o', ho'⟩ : ∃ o', o' = (drn (stg cc) st o).2 := ⟨_, rfl⟩
            have HBODY : Hid (bodyM T A ⟨⟨0, at_, i, nd, got⟩, o, st, false, false⟩ = ⟨q, o', ⟨cc, []⟩ :: st', true, false⟩) := by
              show _ = _
              unfold bodyM
              simp only [← hcc, hq]
              rw [if_neg (by simp), if_neg (by omega), if_pos ⟨hc6, hc8⟩, ← hst', ← ho']
            have HGO : Hid (Go1 m ⟨0, at_, i, nd, got⟩ q) := by rw [hq]; exact go_mk HLK.out _ rfl hcc.symm (by omega) (by omega)
            have HLEN : Hid (o'.length + st'.length = o.length + st.length) := by rw [hst', ho']; exact drn_len _ _ _
            have HMEM : Hid (∀ x, x ∈ st' → x ∈ st) := fun x hx => by rw [hst'] at hx; exact drn_mem _ _ _ x hx
            have HDR : Hid (st' = (drn (stg cc) st o).1 ∧ o' = (drn (stg cc) st o).2) := ⟨hst', ho'⟩
            clear hq hcc hst' ho'
            go_wp2_with fail
            refine (HIs.out 10 3 { data := #[46] } (by rfl) (by rfl) (by omega) (by omega) _ (HR.out.below (HLr.out.below (below_alloc _ _)).bel)).mono ?_
            rintro e w1 ⟨rfl, hb⟩
            have HL1 : Hid (LS w g m c ⟨0, at_, i, nd, got⟩ o st u4 u5 w1) := (HLr.out.below (below_alloc _ _)).below hb
            have HTB1 : Hid (Cs w1 wr.heap.size [.int .i64 K, .string X, .int .i64 (A i : Int)]) := (cs_new wr _ _ _ _).below hb (by first | omega | (simp <;> omega))
            have tl1 : wr.heap.size < w1.heap.size := Nat.lt_of_lt_of_le (by first | omega | (simp <;> omega)) hb.size
            clear hb
            have zz1 : w.heap.size + 2 ≤ w1.heap.size := HL1.out.sz
            have zl1 : w.heap.size < w1.heap.size := by omega
            have b0_1 : w1.cell? ⟨w.heap.size, 0, none⟩ = some (.slice (some ⟨g, 0, none⟩) m c) := HL1.out.z.1 0 _ rfl
            have b1_1 : w1.cell? ⟨w.heap.size, 1, none⟩ = some (.int .i64 (i : Int)) := HL1.out.z.1 1 _ rfl
            have b2_1 : w1.cell? ⟨w.heap.size, 2, none⟩ = some (.int .i64 (nd : Int)) := HL1.out.z.1 2 _ rfl
            have b3_1 : w1.cell? ⟨w.heap.size, 3, none⟩ = some (.int .i64 0) := HL1.out.z.1 3 _ rfl
            have b4_1 : w1.cell? ⟨w.heap.size, 4, none⟩ = some (.int .i64 at_) := HL1.out.z.1 4 _ rfl
            have b5_1 : w1.cell? ⟨w.heap.size, 5, none⟩ = some (.string S) := (HL1.out.z.1 5 _ rfl).trans (by simp only [HS.out])
            have bf_1 := HL1.out.z.2
            clear a0 a1 a2 a3 a4 a5 af
            have t0_1 := HTB1.out.1 0 _ rfl
            have t1_1 := HTB1.out.1 1 _ rfl
            have t2_1 := HTB1.out.1 2 _ rfl
            rw [show decide ((T i).c = 10) = false from decide_eq_false (by have := HC.out.1; have := HC.out.2; omega)]
            go_wp2_with fail
            refine (HIX.out _).mono ?_
            rintro e w2 ⟨rfl, hb⟩
            have HL2 : Hid (LS w g m c ⟨0, at_, i, nd, got⟩ o st u4 u5 w2) := (HL1.out).below hb
            have HTB2 : Hid (Cs w2 wr.heap.size [.int .i64 K, .string X, .int .i64 (A i : Int)]) := (HTB1.out).below hb (by first | omega | (simp <;> omega))
            have tl2 : wr.heap.size < w2.heap.size := Nat.lt_of_lt_of_le (by first | omega | (simp <;> omega)) hb.size
            clear hb
            have zz2 : w.heap.size + 2 ≤ w2.heap.size := HL2.out.sz
            have zl2 : w.heap.size < w2.heap.size := by omega
            have b0_2 : w2.cell? ⟨w.heap.size, 0, none⟩ = some (.slice (some ⟨g, 0, none⟩) m c) := HL2.out.z.1 0 _ rfl
            have b1_2 : w2.cell? ⟨w.heap.size, 1, none⟩ = some (.int .i64 (i : Int)) := HL2.out.z.1 1 _ rfl
            have b2_2 : w2.cell? ⟨w.heap.size, 2, none⟩ = some (.int .i64 (nd : Int)) := HL2.out.z.1 2 _ rfl
            have b3_2 : w2.cell? ⟨w.heap.size, 3, none⟩ = some (.int .i64 0) := HL2.out.z.1 3 _ rfl
            have b4_2 : w2.cell? ⟨w.heap.size, 4, none⟩ = some (.int .i64 at_) := HL2.out.z.1 4 _ rfl
            have b5_2 : w2.cell? ⟨w.heap.size, 5, none⟩ = some (.string S) := (HL2.out.z.1 5 _ rfl).trans (by simp only [HS.out])
            have bf_2 := HL2.out.z.2
            clear b0_1 b1_1 b2_1 b3_1 b4_1 b5_1 bf_1
            have t0_2 := HTB2.out.1 0 _ rfl
            have t1_2 := HTB2.out.1 1 _ rfl
            have t2_2 := HTB2.out.1 2 _ rfl
            clear t0_1 t1_1 t2_1
            go_wp2_with fail
            refine (HM.out _ (HR.out.below (HL2.out).bel)).mono ?_
            rintro e w3 ⟨rfl, hb⟩
            have HL3 : Hid (LS w g m c ⟨0, at_, i, nd, got⟩ o st u4 u5 w3) := (HL2.out).below hb
            have HTB3 : Hid (Cs w3 wr.heap.size [.int .i64 K, .string X, .int .i64 (A i : Int)]) := (HTB2.out).below hb (by first | omega | (simp <;> omega))
            have tl3 : wr.heap.size < w3.heap.size := Nat.lt_of_lt_of_le (by first | omega | (simp <;> omega)) hb.size
            clear hb
            have zz3 : w.heap.size + 2 ≤ w3.heap.size := HL3.out.sz
            have zl3 : w.heap.size < w3.heap.size := by omega
            have b0_3 : w3.cell? ⟨w.heap.size, 0, none⟩ = some (.slice (some ⟨g, 0, none⟩) m c) := HL3.out.z.1 0 _ rfl
            have b1_3 : w3.cell? ⟨w.heap.size, 1, none⟩ = some (.int .i64 (i : Int)) := HL3.out.z.1 1 _ rfl
            have b2_3 : w3.cell? ⟨w.heap.size, 2, none⟩ = some (.int .i64 (nd : Int)) := HL3.out.z.1 2 _ rfl
            have b3_3 : w3.cell? ⟨w.heap.size, 3, none⟩ = some (.int .i64 0) := HL3.out.z.1 3 _ rfl
            have b4_3 : w3.cell? ⟨w.heap.size, 4, none⟩ = some (.int .i64 at_) := HL3.out.z.1 4 _ rfl
            have b5_3 : w3.cell? ⟨w.heap.size, 5, none⟩ = some (.string S) := (HL3.out.z.1 5 _ rfl).trans (by simp only [HS.out])
            have bf_3 := HL3.out.z.2
            clear b0_2 b1_2 b2_2 b3_2 b4_2 b5_2 bf_2
            have t0_3 := HTB3.out.1 0 _ rfl
            have t1_3 := HTB3.out.1 1 _ rfl
            have t2_3 := HTB3.out.1 2 _ rfl
            clear t0_2 t1_2 t2_2
            have HQ := HL3.out.setP q
            obtain ⟨er2, at2, i2, nd2, got2⟩ := q
            dsimp only at HQ
            unfold prV
            have ne3 : ¬ w.heap.size = wr.heap.size := by omega
            have HTQ := (((((HTB3.out.other (a := ⟨w.heap.size, 0, none⟩) ne3 (.slice (some ⟨g, 0, none⟩) m c)).other (a := ⟨w.heap.size, 1, none⟩) ne3 (.int .i64 (i2 : Int))).other (a := ⟨w.heap.size, 2, none⟩) ne3 (.int .i64 (nd2 : Int))).other (a := ⟨w.heap.size, 3, none⟩) ne3 (.int .i64 er2)).other (a := ⟨w.heap.size, 4, none⟩) ne3 (.int .i64 at2)).other (a := ⟨w.heap.size, 5, none⟩) ne3 (.string (strT got2))
            have HHQ : Hid (LS w g m c ⟨er2, at2, i2, nd2, got2⟩ o st u4 u5 _) := HQ
            have HHT : Hid (Cs _ wr.heap.size [.int .i64 K, .string X, .int .i64 (A i : Int)]) := HTQ
            clear HQ HTQ
            go_wp2_with fail
            refine (HIX.out _).mono ?_
            rintro e w4 ⟨rfl, hb⟩
            have HL4 : Hid (LS w g m c ⟨er2, at2, i2, nd2, got2⟩ o st u4 u5 w4) := (HHQ.out).below hb
            have HTB4 : Hid (Cs w4 wr.heap.size [.int .i64 K, .string X, .int .i64 (A i : Int)]) := (HHT.out).below hb (by first | omega | (simp <;> omega))
            have tl4 : wr.heap.size < w4.heap.size := Nat.lt_of_lt_of_le (by first | omega | (simp <;> omega)) hb.size
            clear hb
            have zz4 : w.heap.size + 2 ≤ w4.heap.size := HL4.out.sz
            have zl4 : w.heap.size < w4.heap.size := by omega
            clear b0_3 b1_3 b2_3 b3_3 b4_3 b5_3 bf_3
            have t0_4 := HTB4.out.1 0 _ rfl
            have t1_4 := HTB4.out.1 1 _ rfl
            have t2_4 := HTB4.out.1 2 _ rfl
            clear t0_3 t1_3 t2_3
            go_wp2_with fail
            refine (l6Stg_any cc _ (by omega)).mono ?_
            rintro e w5 ⟨rfl, hw5⟩
            rw [hw5]
            clear hw5 w5
            go_wp2_with fail
            refine (l6Drain_any (w.heap.size + 2) u5 u4 (stg cc) st o _ HL4.out.en HL4.out.nd zz4 (by omega) HBD.out.2.2.1).mono ?_
            rintro e w5 ⟨vs', vo', rfl, hE, hN, hg, hsm, hob⟩
            rw [← HDR.out.1] at hE
            rw [← HDR.out.2] at hN
            have HL5 : Hid (LS w g m c ⟨er2, at2, i2, nd2, got2⟩ o' st' vo' vs' w5) := { (HL4.out.grewN hg hN) with en := hE }
            have HTB5 : Hid (Cs w5 wr.heap.size [.int .i64 K, .string X, .int .i64 (A i : Int)]) := HTB4.out.grown hg tl4 (fun e => by have := (HLr.out.nd.lt _ e.symm).2; omega)
            have tl5 : wr.heap.size < w5.heap.size := Nat.lt_of_lt_of_le tl4 hg.size
            clear hE hN hg hsm hob HDR
            have zz5 : w.heap.size + 2 ≤ w5.heap.size := HL5.out.sz
            have zl5 : w.heap.size < w5.heap.size := by omega
            have t0_5 := HTB5.out.1 0 _ rfl
            have t1_5 := HTB5.out.1 1 _ rfl
            have t2_5 := HTB5.out.1 2 _ rfl
            clear t0_4 t1_4 t2_4
            go_wp2_with fail
            refine (HIX.out _).mono ?_
            rintro e w6 ⟨rfl, hb⟩
            have HL6 : Hid (LS w g m c ⟨er2, at2, i2, nd2, got2⟩ o' st' vo' vs' w6) := (HL5.out).below hb
            have HTB6 : Hid (Cs w6 wr.heap.size [.int .i64 K, .string X, .int .i64 (A i : Int)]) := (HTB5.out).below hb (by first | omega | (simp <;> omega))
            have tl6 : wr.heap.size < w6.heap.size := Nat.lt_of_lt_of_le (by first | omega | (simp <;> omega)) hb.size
            clear hb
            have zz6 : w.heap.size + 2 ≤ w6.heap.size := HL6.out.sz
            have zl6 : w.heap.size < w6.heap.size := by omega
            have t0_6 := HTB6.out.1 0 _ rfl
            have t1_6 := HTB6.out.1 1 _ rfl
            have t2_6 := HTB6.out.1 2 _ rfl
            clear t0_5 t1_5 t2_5
            go_wp2_with (at_builtin; refine app_en rfl _ _ rfl (w.heap.size + 2) vs' st' rfl (HL6.out.en.below (below_alloc _ _)) w6.heap.size ⟨cc, []⟩ rfl (new_cells2 _ _ (by simp) [.int .i64 (cc : Int), .string { data := #[] }] _) (by have := HLEN.out; omega) (by simp; omega) ?_)
            intro v' w9 hown hgrow hsm
            have HL9 := (HL6.out.below (below_alloc _ _)).grewE hgrow hown
            clear hown hgrow hsm
            go_wp2
            have NX := PI.next HRC.out rfl rfl HBODY.out rfl HBD.out (HGO.out) (fun x hx => by rcases List.mem_cons.1 hx with e | e; (rw [e]; show cc ≤ 15; omega); exact HBD.out.2.2.1 x (HMEM.out x e)) (by have := HLEN.out; show o'.length + (st'.length + 1) ≤ o.length + st.length + 1; omega) (HL9) HLr.out
            go_roundw
            case rel => exact NX.1
            case measure => exact NX.2
          · skip
            have HC : Hid ((T i).c ≠ 10 ∧ ¬ (6 ≤ (T i).c ∧ (T i).c ≤ 8)) := ⟨hc, hc6⟩
            clear hc hc6
            have HIX : Hid (∀ W, Calls Try.prog 107 #[.agg #[.int .i64 K, .string X, .int .i64 (A i : Int)]] W fun r w' => r = .returned (.int .i64 0) ∧ Below W.heap.size W w') := fun W => by
              rw [HKX.out.1, HKX.out.2]
              refine (l6Infix_any (T i) (HT.out i) _ W).mono ?_
              rintro e w' ⟨rfl, hb⟩
              refine ⟨?_, hb⟩
              rw [show ixT (T i).c = 0 by unfold ixT; rw [if_neg HC.out.2]]
              rfl
            have HDN : Hid (∀ W, EnA W (w.heap.size + 2) u5 st → NdA W (w.heap.size + 2) u4 o → w.heap.size + 2 ≤ W.heap.size → Calls Try.prog 108 #[u5, u4, .int .i64 1] W (DrnRet (w.heap.size + 2) u5 u4 1 st o W)) := fun W h1 h2 h3 => l6Drain_any (w.heap.size + 2) u5 u4 1 st o W h1 h2 h3 (by omega) HBD.out.2.2.1
            have HK4 : Hid (K = 4 ↔ (T i).c = 15) := by rw [HKX.out.1]; exact kdT_four _ (HT.out i)
            obtain ⟨st', hst'⟩ : ∃ st', st' = (drn 1 st o).1 := ⟨_, rfl⟩
            obtain ⟨o', ho'⟩ : ∃ o', o' = (drn 1 st o).2 := ⟨_, rfl⟩
            have HLEN : Hid (o'.length + st'.length = o.length + st.length) := by rw [hst', ho']; exact drn_len _ _ _
            have HMEM : Hid (∀ x, x ∈ st' → x ∈ st) := fun x hx => by rw [hst'] at hx; exact drn_mem _ _ _ x hx
            have HDR : Hid (st' = (drn 1 st o).1 ∧ o' = (drn 1 st o).2) := ⟨hst', ho'⟩
            have HBODY : Hid (∀ Z, (match (st', o') with | ([], o) => if (T i).c = 15 then (⟨⟨0, at_, i, nd, got⟩, o, [], false, true⟩ : Mc) else ⟨failP T A ⟨0, at_, i, nd, got⟩ 3, o, [], false, false⟩ | (x :: st, o) => if (T i).c = 12 then ⟨⟨0, at_, i + 1, nd, got⟩, if x.k = 9 then o ++ [⟨9, x.l, []⟩] else o, st, false, false⟩ else ⟨failP T A ⟨0, at_, i, nd, got⟩ 3, o, x :: st, false, false⟩) = Z → bodyM T A ⟨⟨0, at_, i, nd, got⟩, o, st, false, false⟩ = Z) := by
              intro Z hZ
              rw [← hZ]
              unfold bodyM
              dsimp only
              rw [if_neg (by simp), if_neg HC.out.1, if_neg HC.out.2, hst', ho']
              generalize drn 1 st o = d
              obtain ⟨da, db⟩ := d
              rfl
            clear hst' ho'
            go_wp2_with fail
            refine (HIs.out 10 3 { data := #[46] } (by rfl) (by rfl) (by omega) (by omega) _ (HR.out.below (HLr.out.below (below_alloc _ _)).bel)).mono ?_
            rintro e w1 ⟨rfl, hb⟩
            have HL1 : Hid (LS w g m c ⟨0, at_, i, nd, got⟩ o st u4 u5 w1) := (HLr.out.below (below_alloc _ _)).below hb
            have HTB1 : Hid (Cs w1 wr.heap.size [.int .i64 K, .string X, .int .i64 (A i : Int)]) := (cs_new wr _ _ _ _).below hb (by first | omega | (simp <;> omega))
            have tl1 : wr.heap.size < w1.heap.size := Nat.lt_of_lt_of_le (by first | omega | (simp <;> omega)) hb.size
            clear hb
            have zz1 : w.heap.size + 2 ≤ w1.heap.size := HL1.out.sz
            have zl1 : w.heap.size < w1.heap.size := by omega
            have b0_1 : w1.cell? ⟨w.heap.size, 0, none⟩ = some (.slice (some ⟨g, 0, none⟩) m c) := HL1.out.z.1 0 _ rfl
            have b1_1 : w1.cell? ⟨w.heap.size, 1, none⟩ = some (.int .i64 (i : Int)) := HL1.out.z.1 1 _ rfl
            have b2_1 : w1.cell? ⟨w.heap.size, 2, none⟩ = some (.int .i64 (nd : Int)) := HL1.out.z.1 2 _ rfl
            have b3_1 : w1.cell? ⟨w.heap.size, 3, none⟩ = some (.int .i64 0) := HL1.out.z.1 3 _ rfl
            have b4_1 : w1.cell? ⟨w.heap.size, 4, none⟩ = some (.int .i64 at_) := HL1.out.z.1 4 _ rfl
            have b5_1 : w1.cell? ⟨w.heap.size, 5, none⟩ = some (.string S) := (HL1.out.z.1 5 _ rfl).trans (by simp only [HS.out])
            have bf_1 := HL1.out.z.2
            clear a0 a1 a2 a3 a4 a5 af
            have t0_1 := HTB1.out.1 0 _ rfl
            have t1_1 := HTB1.out.1 1 _ rfl
            have t2_1 := HTB1.out.1 2 _ rfl
            rw [show decide ((T i).c = 10) = false from decide_eq_false HC.out.1]
            go_wp2_with fail
            refine (HIX.out _).mono ?_
            rintro e w2 ⟨rfl, hb⟩
            have HL2 : Hid (LS w g m c ⟨0, at_, i, nd, got⟩ o st u4 u5 w2) := (HL1.out).below hb
            have HTB2 : Hid (Cs w2 wr.heap.size [.int .i64 K, .string X, .int .i64 (A i : Int)]) := (HTB1.out).below hb (by first | omega | (simp <;> omega))
            have tl2 : wr.heap.size < w2.heap.size := Nat.lt_of_lt_of_le (by first | omega | (simp <;> omega)) hb.size
            clear hb
            have zz2 : w.heap.size + 2 ≤ w2.heap.size := HL2.out.sz
            have zl2 : w.heap.size < w2.heap.size := by omega
            have b0_2 : w2.cell? ⟨w.heap.size, 0, none⟩ = some (.slice (some ⟨g, 0, none⟩) m c) := HL2.out.z.1 0 _ rfl
            have b1_2 : w2.cell? ⟨w.heap.size, 1, none⟩ = some (.int .i64 (i : Int)) := HL2.out.z.1 1 _ rfl
            have b2_2 : w2.cell? ⟨w.heap.size, 2, none⟩ = some (.int .i64 (nd : Int)) := HL2.out.z.1 2 _ rfl
            have b3_2 : w2.cell? ⟨w.heap.size, 3, none⟩ = some (.int .i64 0) := HL2.out.z.1 3 _ rfl
            have b4_2 : w2.cell? ⟨w.heap.size, 4, none⟩ = some (.int .i64 at_) := HL2.out.z.1 4 _ rfl
            have b5_2 : w2.cell? ⟨w.heap.size, 5, none⟩ = some (.string S) := (HL2.out.z.1 5 _ rfl).trans (by simp only [HS.out])
            have bf_2 := HL2.out.z.2
            clear b0_1 b1_1 b2_1 b3_1 b4_1 b5_1 bf_1
            have t0_2 := HTB2.out.1 0 _ rfl
            have t1_2 := HTB2.out.1 1 _ rfl
            have t2_2 := HTB2.out.1 2 _ rfl
            clear t0_1 t1_1 t2_1
            go_wp2_with fail
            refine (HDN.out _ HL2.out.en HL2.out.nd zz2).mono ?_
            rintro e w3 ⟨vs', vo', rfl, hE, hN, hg, hsm, hob⟩
            rw [← HDR.out.1] at hE
            rw [← HDR.out.2] at hN
            have HL3 : Hid (LS w g m c ⟨0, at_, i, nd, got⟩ o' st' vo' vs' w3) := { (HL2.out.grewN hg hN) with en := hE }
            have HTB3 : Hid (Cs w3 wr.heap.size [.int .i64 K, .string X, .int .i64 (A i : Int)]) := HTB2.out.grown hg tl2 (fun e => by have := (HLr.out.nd.lt _ e.symm).2; omega)
            clear hE hN hg hsm hob HDR
            have t0_3 := HTB3.out.1 0 _ rfl
            clear t0_2 t1_2 t2_2
            have zz3 : w.heap.size + 2 ≤ w3.heap.size := HL3.out.sz
            have zl3 : w.heap.size < w3.heap.size := by omega
            have b0_3 : w3.cell? ⟨w.heap.size, 0, none⟩ = some (.slice (some ⟨g, 0, none⟩) m c) := HL3.out.z.1 0 _ rfl
            have b1_3 : w3.cell? ⟨w.heap.size, 1, none⟩ = some (.int .i64 (i : Int)) := HL3.out.z.1 1 _ rfl
            have b2_3 : w3.cell? ⟨w.heap.size, 2, none⟩ = some (.int .i64 (nd : Int)) := HL3.out.z.1 2 _ rfl
            have b3_3 : w3.cell? ⟨w.heap.size, 3, none⟩ = some (.int .i64 0) := HL3.out.z.1 3 _ rfl
            have b4_3 : w3.cell? ⟨w.heap.size, 4, none⟩ = some (.int .i64 at_) := HL3.out.z.1 4 _ rfl
            have b5_3 : w3.cell? ⟨w.heap.size, 5, none⟩ = some (.string S) := (HL3.out.z.1 5 _ rfl).trans (by simp only [HS.out])
            have bf_3 := HL3.out.z.2
            clear b0_2 b1_2 b2_2 b3_2 b4_2 b5_2 bf_2
            cases st' with
            | nil =>
              obtain ⟨a, cp, hvs, _, _⟩ := HL3.out.en.len
              obtain rfl : vs' = .slice a 0 cp := hvs
              by_cases h15 : (T i).c = 15
              · have hK : K = 4 := HK4.out.2 h15
                subst hK
                have HF15 : Hid (bodyM T A ⟨⟨0, at_, i, nd, got⟩, o, st, false, false⟩ = ⟨⟨0, at_, i, nd, got⟩, o', [], false, true⟩) := HBODY.out _ (by dsimp only; rw [if_pos h15])
                obtain ⟨v0, v1, v2, v3, v4, v5, hr⟩ := HL3.out.r
                have r0 := hr.1 0 _ rfl
                have r1 := hr.1 1 _ rfl
                have r2 := hr.1 2 _ rfl
                have r3 := hr.1 3 _ rfl
                have r4 := hr.1 4 _ rfl
                have r5 := hr.1 5 _ rfl
                have rf := hr.2
                clear hr h15 HK4 HBODY
                go_wp2
                refine bodyPost_ret (v := .tuple #[.agg #[.slice (some ⟨g, 0, none⟩) m c, .int .i64 (i : Int), .int .i64 (nd : Int), .int .i64 0, .int .i64 at_, .string S], vo']) (by simp [results, Try.results57, go_sem, r0, r1, r2, r3, r4, r5]) rfl ⟨⟨⟨0, at_, i, nd, got⟩, o', [], false, true⟩, vo', ?_, HRC.out.trans (Rch.one rfl rfl HF15.out), Or.inr rfl, ?_, ?_⟩
                · rw [HS.out]
                  rfl
                · exact own_set (own_set (own_set (own_set (own_set (own_set HL3.out.nd (by simp) _) (by simp) _) (by simp) _) (by simp) _) (by simp) _) (by simp) _
                · exact (((((HL3.out.bel.setCell (by simp) _).setCell (by simp) _).setCell (by simp) _).setCell (by simp) _).setCell (by simp) _).setCell (by simp) _
              · skip
                have hK : ¬ K = 4 := fun e => h15 (HK4.out.1 e)
                have dK : (K == 4) = false := by simp [hK]
                obtain ⟨p2, hp2⟩ : ∃ q, q = failP T A ⟨0, at_, i, nd, got⟩ 3 := ⟨_, rfl⟩
                have HB2 : Hid (bodyM T A ⟨⟨0, at_, i, nd, got⟩, o, st, false, false⟩ = ⟨p2, o', [], false, false⟩) := HBODY.out _ (by dsimp only; rw [if_neg h15, hp2])
                have HGO : Hid (Go1 m ⟨0, at_, i, nd, got⟩ p2) := by rw [hp2]; exact go_fail _ (by omega)
                rw [← hp2] at HF
                clear hp2 HBODY
                clear HK4 h15
                go_wp2_with fail
                refine (HF.out _ (HR.out.below (HL3.out).bel)).mono ?_
                rintro e w4 ⟨rfl, hb⟩
                have HL4 : Hid (LS w g m c ⟨0, at_, i, nd, got⟩ o' [] vo' (.slice a 0 cp) w4) := (HL3.out).below hb
                clear hb
                have zz4 : w.heap.size + 2 ≤ w4.heap.size := HL4.out.sz
                have zl4 : w.heap.size < w4.heap.size := by omega
                have b0_4 : w4.cell? ⟨w.heap.size, 0, none⟩ = some (.slice (some ⟨g, 0, none⟩) m c) := HL4.out.z.1 0 _ rfl
                have b1_4 : w4.cell? ⟨w.heap.size, 1, none⟩ = some (.int .i64 (i : Int)) := HL4.out.z.1 1 _ rfl
                have b2_4 : w4.cell? ⟨w.heap.size, 2, none⟩ = some (.int .i64 (nd : Int)) := HL4.out.z.1 2 _ rfl
                have b3_4 : w4.cell? ⟨w.heap.size, 3, none⟩ = some (.int .i64 0) := HL4.out.z.1 3 _ rfl
                have b4_4 : w4.cell? ⟨w.heap.size, 4, none⟩ = some (.int .i64 at_) := HL4.out.z.1 4 _ rfl
                have b5_4 : w4.cell? ⟨w.heap.size, 5, none⟩ = some (.string S) := (HL4.out.z.1 5 _ rfl).trans (by simp only [HS.out])
                have bf_4 := HL4.out.z.2
                clear b0_3 b1_3 b2_3 b3_3 b4_3 b5_3 bf_3
                have HQ := HL4.out.setP p2
                obtain ⟨er2, at2, i2, nd2, got2⟩ := p2
                dsimp only at HQ
                unfold prV
                go_wp2
                have NX := PI.next HRC.out rfl rfl HB2.out rfl HBD.out HGO.out (fun x hx => absurd hx List.not_mem_nil) (by have := HLEN.out; simp at this; show o'.length + 0 ≤ o.length + st.length + 1; omega) (HQ) HLr.out
                go_roundw
                case rel => exact NX.1
                case measure => exact NX.2
            | cons x l =>
              obtain ⟨g', cap, hvs, hc1, hc2, s1, s2, ht, hgl⟩ := HL3.out.en.top
              obtain rfl : vs' = .slice (some ⟨g', 0, none⟩) (l.length + 1) cap := hvs
              obtain ⟨n, hn⟩ : ∃ n, n = l.length := ⟨_, rfl⟩
              have HNN : Hid (n = l.length) := hn
              rw [← hn] at HL3 hc1 s1 s2 ⊢
              clear ht hn
              obtain ⟨xk, hxk⟩ : ∃ k, k = x.k := ⟨_, rfl⟩
              obtain ⟨XL, hXL⟩ : ∃ s, s = strT x.l := ⟨_, rfl⟩
              rw [← hxk] at s1
              rw [← hXL] at s2
              have HXX : Hid (xk = x.k ∧ XL = strT x.l) := ⟨hxk, hXL⟩
              have hn3 : o'.length + (n + 1) ≤ 3001 := by have := HLEN.out; rw [List.length_cons, ← HNN.out] at this; omega
              have n1 : ¬ ((n : Int) + 1) = 0 := by omega
              have n2 : (((n : Int) + 1) == 0) = false := by simp [n1]
              have x1 : IntKind.i64.wrap ((n : Int) + 1 - 1) = (n : Int) := by rw [IntKind.wrap_i64]; omega
              have x2 : (n : Int) < (n : Int) + 1 := by omega
              have x3 : ¬ (n : Int) < 0 := by omega
              have x4 : (0 : Int) ≤ (n : Int) := by omega
              have rt := runToE g' (n + 1) cap n (by omega) hc2
              clear hxk hXL
              by_cases h12 : (T i).c = 12
              · skip
                have HGO : Hid (Go1 m ⟨0, at_, i, nd, got⟩ ⟨0, at_, i9, nd, got⟩) := by rw [HI9.out]; exact go_next HLK.out _ rfl h12 (by omega) (by omega)
                have HB3 : Hid (bodyM T A ⟨⟨0, at_, i, nd, got⟩, o, st, false, false⟩ = ⟨⟨0, at_, i9, nd, got⟩, if x.k = 9 then o' ++ [⟨9, x.l, []⟩] else o', l, false, false⟩) := HBODY.out _ (by dsimp only; rw [if_pos h12, HI9.out])
                have HC12 : Hid ((T i).c = 12) := h12
                clear h12 HBODY
                go_wp2_with fail
                refine (HIs.out 12 3 { data := #[41] } (by rfl) (by rfl) (by omega) (by omega) _ (HR.out.below (HL3.out).bel)).mono ?_
                rintro e w4 ⟨rfl, hb⟩
                have HL4 : Hid (LS w g m c ⟨0, at_, i, nd, got⟩ o' (x :: l) vo' (.slice (some ⟨g', 0, none⟩) (n + 1) cap) w4) := (HL3.out).below hb
                have s1' := (hb.cell (p := ⟨g', n * 2, none⟩) hgl).trans s1
                have s2' := (hb.cell (p := ⟨g', n * 2 + 1, none⟩) hgl).trans s2
                have hgl' : g' < w4.heap.size := Nat.lt_of_lt_of_le hgl hb.size
                clear hb
                have zz4 : w.heap.size + 2 ≤ w4.heap.size := HL4.out.sz
                have zl4 : w.heap.size < w4.heap.size := by omega
                have b0_4 : w4.cell? ⟨w.heap.size, 0, none⟩ = some (.slice (some ⟨g, 0, none⟩) m c) := HL4.out.z.1 0 _ rfl
                have b1_4 : w4.cell? ⟨w.heap.size, 1, none⟩ = some (.int .i64 (i : Int)) := HL4.out.z.1 1 _ rfl
                have b2_4 : w4.cell? ⟨w.heap.size, 2, none⟩ = some (.int .i64 (nd : Int)) := HL4.out.z.1 2 _ rfl
                have b3_4 : w4.cell? ⟨w.heap.size, 3, none⟩ = some (.int .i64 0) := HL4.out.z.1 3 _ rfl
                have b4_4 : w4.cell? ⟨w.heap.size, 4, none⟩ = some (.int .i64 at_) := HL4.out.z.1 4 _ rfl
                have b5_4 : w4.cell? ⟨w.heap.size, 5, none⟩ = some (.string S) := (HL4.out.z.1 5 _ rfl).trans (by simp only [HS.out])
                have bf_4 := HL4.out.z.2
                clear b0_3 b1_3 b2_3 b3_3 b4_3 b5_3 bf_3
                rw [show decide ((T i).c = 12) = true from decide_eq_true HC12.out]
                clear s1 s2
                by_cases h9 : xk = 9
                · skip
                  have HB4 : Hid (bodyM T A ⟨⟨0, at_, i, nd, got⟩, o, st, false, false⟩ = ⟨⟨0, at_, i9, nd, got⟩, o' ++ [⟨9, x.l, []⟩], l, false, false⟩) := by
                    show _ = _
                    rw [HB3.out, if_pos (by rw [← HXX.out.1]; exact h9)]
                  subst h9
                  go_wp2_with (at_builtin; refine app_nd rfl _ _ rfl (w.heap.size + 2) vo' o' rfl (HL4.out.nd.below (below_alloc _ _)) w4.heap.size ⟨9, x.l, []⟩ rfl (by rw [show ndC ⟨9, x.l, []⟩ = [.int .i64 9, .string XL, .string { data := #[] }] by rw [HXX.out.2]; rfl]; exact new_cells2 _ _ (by simp) [.int .i64 9, .string XL, .string { data := #[] }] _) (by omega) (by simp; omega) ?_)
                  intro v' w5 hown hgrow hsm
                  have HL5 : Hid (LS w g m c ⟨0, at_, i, nd, got⟩ (o' ++ [⟨9, x.l, []⟩]) (x :: l) v' (.slice (some ⟨g', 0, none⟩) (n + 1) cap) w5) := (HL4.out.below (below_alloc _ _)).grewN hgrow hown
                  clear hown hgrow hsm
                  have zz5 : w.heap.size + 2 ≤ w5.heap.size := HL5.out.sz
                  have zl5 : w.heap.size < w5.heap.size := by omega
                  have b0_5 : w5.cell? ⟨w.heap.size, 0, none⟩ = some (.slice (some ⟨g, 0, none⟩) m c) := HL5.out.z.1 0 _ rfl
                  have b1_5 : w5.cell? ⟨w.heap.size, 1, none⟩ = some (.int .i64 (i : Int)) := HL5.out.z.1 1 _ rfl
                  have b2_5 : w5.cell? ⟨w.heap.size, 2, none⟩ = some (.int .i64 (nd : Int)) := HL5.out.z.1 2 _ rfl
                  have b3_5 : w5.cell? ⟨w.heap.size, 3, none⟩ = some (.int .i64 0) := HL5.out.z.1 3 _ rfl
                  have b4_5 : w5.cell? ⟨w.heap.size, 4, none⟩ = some (.int .i64 at_) := HL5.out.z.1 4 _ rfl
                  have b5_5 : w5.cell? ⟨w.heap.size, 5, none⟩ = some (.string S) := (HL5.out.z.1 5 _ rfl).trans (by simp only [HS.out])
                  have bf_5 := HL5.out.z.2
                  clear b0_4 b1_4 b2_4 b3_4 b4_4 b5_4 bf_4
                  have HP : Hid (LS w g m c ⟨0, at_, i, nd, got⟩ (o' ++ [⟨9, x.l, []⟩]) l v' (.slice (some ⟨g', 0, none⟩) n cap) w5) := { HL5.out with en := by rw [HNN.out]; exact HL5.out.en.pop (by rw [HNN.out]) }
                  have HQ := HP.out.setI i9
                  dsimp only at HQ
                  go_wp2
                  have NX := PI.next HRC.out rfl rfl HB4.out rfl HBD.out HGO.out (fun y hy => HBD.out.2.2.1 y (HMEM.out y (List.mem_cons_of_mem _ hy))) (by have := HLEN.out; rw [List.length_cons] at this; show (o' ++ [_]).length + l.length ≤ o.length + st.length + 1; rw [List.length_append, List.length_singleton]; omega) (HQ) HLr.out
                  go_roundw
                  case rel => exact NX.1
                  case measure => exact NX.2
                · skip
                  have h9' : ¬ (xk : Int) = 9 := by omega
                  have d9 : ((xk : Int) == 9) = false := by simp [h9']
                  have HB4 : Hid (bodyM T A ⟨⟨0, at_, i, nd, got⟩, o, st, false, false⟩ = ⟨⟨0, at_, i9, nd, got⟩, o', l, false, false⟩) := by
                    show _ = _
                    rw [HB3.out, if_neg (by rw [← HXX.out.1]; exact h9)]
                  have HP : Hid (LS w g m c ⟨0, at_, i, nd, got⟩ o' l vo' (.slice (some ⟨g', 0, none⟩) n cap) w4) := { HL4.out with en := by rw [HNN.out]; exact HL4.out.en.pop (by rw [HNN.out]) }
                  have HQ := HP.out.setI i9
                  dsimp only at HQ
                  go_wp2
                  have NX := PI.next HRC.out rfl rfl HB4.out rfl HBD.out HGO.out (fun y hy => HBD.out.2.2.1 y (HMEM.out y (List.mem_cons_of_mem _ hy))) (by have := HLEN.out; rw [List.length_cons] at this; show o'.length + l.length ≤ o.length + st.length + 1; omega) (HQ) HLr.out
                  go_roundw
                  case rel => exact NX.1
                  case measure => exact NX.2
              · skip
                obtain ⟨p2, hp2⟩ : ∃ q, q = failP T A ⟨0, at_, i, nd, got⟩ 3 := ⟨_, rfl⟩
                have HB2 : Hid (bodyM T A ⟨⟨0, at_, i, nd, got⟩, o, st, false, false⟩ = ⟨p2, o', x :: l, false, false⟩) := HBODY.out _ (by dsimp only; rw [if_neg h12, hp2])
                have HGO : Hid (Go1 m ⟨0, at_, i, nd, got⟩ p2) := by rw [hp2]; exact go_fail _ (by omega)
                rw [← hp2] at HF
                clear hp2 HBODY
                go_wp2_with fail
                refine (HIs.out 12 3 { data := #[41] } (by rfl) (by rfl) (by omega) (by omega) _ (HR.out.below (HL3.out).bel)).mono ?_
                rintro e w4 ⟨rfl, hb⟩
                have HL4 : Hid (LS w g m c ⟨0, at_, i, nd, got⟩ o' (x :: l) vo' (.slice (some ⟨g', 0, none⟩) (n + 1) cap) w4) := (HL3.out).below hb
                clear hb
                have zz4 : w.heap.size + 2 ≤ w4.heap.size := HL4.out.sz
                have zl4 : w.heap.size < w4.heap.size := by omega
                have b0_4 : w4.cell? ⟨w.heap.size, 0, none⟩ = some (.slice (some ⟨g, 0, none⟩) m c) := HL4.out.z.1 0 _ rfl
                have b1_4 : w4.cell? ⟨w.heap.size, 1, none⟩ = some (.int .i64 (i : Int)) := HL4.out.z.1 1 _ rfl
                have b2_4 : w4.cell? ⟨w.heap.size, 2, none⟩ = some (.int .i64 (nd : Int)) := HL4.out.z.1 2 _ rfl
                have b3_4 : w4.cell? ⟨w.heap.size, 3, none⟩ = some (.int .i64 0) := HL4.out.z.1 3 _ rfl
                have b4_4 : w4.cell? ⟨w.heap.size, 4, none⟩ = some (.int .i64 at_) := HL4.out.z.1 4 _ rfl
                have b5_4 : w4.cell? ⟨w.heap.size, 5, none⟩ = some (.string S) := (HL4.out.z.1 5 _ rfl).trans (by simp only [HS.out])
                have bf_4 := HL4.out.z.2
                clear b0_3 b1_3 b2_3 b3_3 b4_3 b5_3 bf_3
                rw [show decide ((T i).c = 12) = false from decide_eq_false h12]
                go_wp2_with fail
                refine (HF.out _ (HR.out.below (HL4.out).bel)).mono ?_
                rintro e w5 ⟨rfl, hb⟩
                have HL5 : Hid (LS w g m c ⟨0, at_, i, nd, got⟩ o' (x :: l) vo' (.slice (some ⟨g', 0, none⟩) (n + 1) cap) w5) := (HL4.out).below hb
                clear hb
                have zz5 : w.heap.size + 2 ≤ w5.heap.size := HL5.out.sz
                have zl5 : w.heap.size < w5.heap.size := by omega
                have b0_5 : w5.cell? ⟨w.heap.size, 0, none⟩ = some (.slice (some ⟨g, 0, none⟩) m c) := HL5.out.z.1 0 _ rfl
                have b1_5 : w5.cell? ⟨w.heap.size, 1, none⟩ = some (.int .i64 (i : Int)) := HL5.out.z.1 1 _ rfl
                have b2_5 : w5.cell? ⟨w.heap.size, 2, none⟩ = some (.int .i64 (nd : Int)) := HL5.out.z.1 2 _ rfl
                have b3_5 : w5.cell? ⟨w.heap.size, 3, none⟩ = some (.int .i64 0) := HL5.out.z.1 3 _ rfl
                have b4_5 : w5.cell? ⟨w.heap.size, 4, none⟩ = some (.int .i64 at_) := HL5.out.z.1 4 _ rfl
                have b5_5 : w5.cell? ⟨w.heap.size, 5, none⟩ = some (.string S) := (HL5.out.z.1 5 _ rfl).trans (by simp only [HS.out])
                have bf_5 := HL5.out.z.2
                clear b0_4 b1_4 b2_4 b3_4 b4_4 b5_4 bf_4
                have HQ := HL5.out.setP p2
                obtain ⟨er2, at2, i2, nd2, got2⟩ := p2
                dsimp only at HQ
                unfold prV
                go_wp2
                have NX := PI.next HRC.out rfl rfl HB2.out rfl HBD.out HGO.out (fun y hy => HBD.out.2.2.1 y (HMEM.out y hy)) (by have := HLEN.out; show o'.length + (x :: l).length ≤ o.length + st.length + 1; omega) (HQ) HLr.out
                go_roundw
                case rel => exact NX.1
                case measure => exact NX.2
    · have h9 : (er == 0) = false := by simp [h0]
      obtain ⟨v0, v1, v2, v3, v4, v5, hr⟩ := HLr.out.r
      have r0 := hr.1 0 _ rfl
      have r1 := hr.1 1 _ rfl
      have r2 := hr.1 2 _ rfl
      have r3 := hr.1 3 _ rfl
      have r4 := hr.1 4 _ rfl
      have r5 := hr.1 5 _ rfl
      have rf := hr.2
      clear hr c1 c2 c3
      have HNE : Hid (er ≠ 0) := h0
      clear h0
      go_wp2
      refine bodyPost_ret (v := .tuple #[.agg #[.slice (some ⟨g, 0, none⟩) m c, .int .i64 (i : Int), .int .i64 (nd : Int), .int .i64 er, .int .i64 at_, .string S], u4]) (by simp [results, Try.results57, go_sem, r0, r1, r2, r3, r4, r5]) rfl ⟨⟨⟨er, at_, i, nd, got⟩, o, st, wt, false⟩, u4, ?_, HRC.out, Or.inl HNE.out, ?_, ?_⟩
      · rw [HS.out]
        rfl
      · exact own_set (own_set (own_set (own_set (own_set (own_set HLr.out.nd (by simp) _) (by simp) _) (by simp) _) (by simp) _) (by simp) _) (by simp) _
      · exact (((((HLr.out.bel.setCell (by simp) _).setCell (by simp) _).setCell (by simp) _).setCell (by simp) _).setCell (by simp) _).setCell (by simp) _
end Go.Proofs.Ytocmbnocdjnfpaa
