import Derived.Test.YtfecgececffdoaaTmAns
namespace Go.Proofs.Ytfecgececffdoaa
open Go.RowKit Go.Deep Go.MapKept
set_option linter.unusedVariables false
set_option maxRecDepth 100000

/-- A box of a dictionary and one of an answer that have been laid, later on. -/
theorem rbox {W w' : World} {u0 u1 v0 v1 v2 v3 : Value} {t s : TypeId} (hb : Below (W.heap.size + 2) ((W.alloc (.cells #[u0, u1] t)).alloc (.cells #[v0, v1, v2, v3] s)) w') :
    (w'.cell? ⟨W.heap.size, 0, none⟩ = some u0 ∧ w'.cell? ⟨W.heap.size, 1, none⟩ = some u1) ∧ (w'.cell? ⟨W.heap.size + 1, 0, none⟩ = some v0 ∧ w'.cell? ⟨W.heap.size + 1, 1, none⟩ = some v1 ∧ w'.cell? ⟨W.heap.size + 1, 2, none⟩ = some v2 ∧ w'.cell? ⟨W.heap.size + 1, 3, none⟩ = some v3 ∧ ∀ o, w'.frozen? ⟨W.heap.size + 1, o, none⟩ = false) ∧ W.heap.size + 1 < w'.heap.size ∧ Below W.heap.size W w' := by
  have hs := hb.size
  simp only [World.size_alloc] at hs
  have g0 : w'.heap[W.heap.size]? = some (.cells #[u0, u1] t) := (hb.block W.heap.size (by omega)).trans (((below_alloc _ _).block _ (by simp)).trans (blk_alloc_new W _))
  have g1 : w'.heap[W.heap.size + 1]? = some (.cells #[v0, v1, v2, v3] s) := by
    have := blk_alloc_new (W.alloc (.cells #[u0, u1] t)) (.cells #[v0, v1, v2, v3] s)
    rw [World.size_alloc] at this
    exact (hb.block _ (by omega)).trans this
  refine ⟨⟨by simp [World.cell?, g0], by simp [World.cell?, g0]⟩, ⟨by simp [World.cell?, g1], by simp [World.cell?, g1], by simp [World.cell?, g1], by simp [World.cell?, g1], fun o => by simp [World.frozen?, g1]⟩, by omega, ?_⟩
  exact ((below_alloc _ _).trans ((below_alloc _ _).mono (by simp))).trans (hb.mono (by omega))

theorem ret_set {w w2 : World} {a : Option Addr} {n : Nat} {I : Nat → Int} {X : Nat → ByteArray} {R : Nat → Int} (h1 : OwnT w2 (w.heap.size + 2) a n I X R) (h2 : Below w.heap.size w w2) {c : Nat} (hc : n ≤ c) (v0 v1 v2 v3 : Value) :
    OwnT ((((w2.setCell ⟨w.heap.size + 1, 0, none⟩ v0).setCell ⟨w.heap.size + 1, 1, none⟩ v1).setCell ⟨w.heap.size + 1, 2, none⟩ v2).setCell ⟨w.heap.size + 1, 3, none⟩ v3) w.heap.size a n I X R ∧ Below w.heap.size w ((((w2.setCell ⟨w.heap.size + 1, 0, none⟩ v0).setCell ⟨w.heap.size + 1, 1, none⟩ v1).setCell ⟨w.heap.size + 1, 2, none⟩ v2).setCell ⟨w.heap.size + 1, 3, none⟩ v3) ∧ n ≤ c :=
  ⟨((((h1.setOther (by simp) _).setOther (by simp) _).setOther (by simp) _).setOther (by simp) _).mono (by omega), (((h2.setCell (by simp) _).setCell (by simp) _).setCell (by simp) _).setCell (by simp) _, hc⟩

theorem nuB_bd {x : Int} (h : nuB x = true) : 1 ≤ x ∧ x ≤ 2000000000 := by unfold nuB at h; simpa using h

set_option maxHeartbeats 4000000 in
theorem implIntern (next : Int) (a : Option Addr) (n c : Nat) (I : Nat → Int) (X : Nat → ByteArray) (R : Nat → Int) (x : ByteArray) (w : World) (h : RdT w a n I X R) (hn : n ≤ 1048576) :
    Calls Try.prog 9 #[.agg #[.int .i64 next, .slice a n c], .string x] w (RetAns w (InAns next n I X R x)) := by
  have hrd := readDict_any next a n c I X R ((w.alloc (.cells #[.int .i64 next, .slice a n c] 28)).alloc (.cells #[.bool false, .int .i64 0, .int .i64 0, .slice none 0 0] 30)) (h.below ((below_alloc _ _).trans ((below_alloc _ _).mono (by simp)))) hn
  have HR : Hid (RdT w a n I X R) := h
  have HSZ : Hid (((w.alloc (.cells #[.int .i64 next, .slice a n c] 28)).alloc (.cells #[.bool false, .int .i64 0, .int .i64 0, .slice none 0 0] 30)).heap.size = w.heap.size + 2) := by show _ = _; simp
  clear h
  go_enter Try.func9, Try.ntmps9
  go_wp2_with fail
  refine hrd.mono ?_
  clear hrd
  rintro e w1 hr
  rcases hr with ⟨hv, rfl, hb⟩ | ⟨hv, V, dt, rfl, hst⟩
  · rw [HSZ.out] at hb
    obtain ⟨⟨y0, y1⟩, ⟨z0, z1, z2, z3, zf⟩, zz, hbel⟩ := rbox hb
    have HV : Hid (¬ VDt next n I X R) := hv
    have HB : Hid (Below (w.heap.size + 2) ((w.alloc (.cells #[.int .i64 next, .slice a n c] 28)).alloc (.cells #[.bool false, .int .i64 0, .int .i64 0, .slice none 0 0] 30)) w1 ∧ Below w.heap.size w w1) := ⟨hb, hbel⟩
    clear hv hb hbel
    go_wp2_with fail
    refine (copyDict_any next a n c I X R w1 (HR.out.below HB.out.2) hn).mono ?_
    rintro e w2 ⟨a2, c2, rfl, ho2, hb2, hccc2⟩
    clear y0 y1 z0 z1 z2 z3 zf zz
    have HB2 : Hid (Below (w.heap.size + 2) ((w.alloc (.cells #[.int .i64 next, .slice a n c] 28)).alloc (.cells #[.bool false, .int .i64 0, .int .i64 0, .slice none 0 0] 30)) w2 ∧ OwnT w2 (w.heap.size + 2) a2 n I X R) := by
      have := HB.out.1.size
      rw [HSZ.out] at this
      exact ⟨HB.out.1.trans (hb2.mono this), ho2.mono this⟩
    obtain ⟨⟨y0, y1⟩, ⟨z0, z1, z2, z3, zf⟩, zz, hbel⟩ := rbox HB2.out.1
    have HX : Hid (Below w.heap.size w w2) := hbel
    clear hbel ho2 hb2
    go_wp2
    refine bodyPost_ret (v := .agg #[.bool false, .int .i64 0, .int .i64 next, .slice a2 n c2]) (by simp [results, Try.results9, go_sem, z0, z1, z2, z3]) rfl ⟨false, 0, next, n, I, X, R, .inl ⟨.inl HV.out, rfl, rfl, rfl, rfl, rfl, rfl, rfl⟩, a2, c2, rfl, ?_⟩
    exact ret_set HB2.out.2 HX.out (by assumption) _ _ _ _
  · have hbw := hst.below
    have hts := hst.tabSt
    rw [HSZ.out] at hbw hts
    rw [HSZ.out]
    obtain ⟨⟨y0, y1⟩, ⟨z0, z1, z2, z3, zf⟩, zz, hbel⟩ := rbox hbw
    have HV : Hid (VDt next n I X R) := hv
    have HB : Hid (Below (w.heap.size + 2) ((w.alloc (.cells #[.int .i64 next, .slice a n c] 28)).alloc (.cells #[.bool false, .int .i64 0, .int .i64 0, .slice none 0 0] 30)) w1 ∧ Below w.heap.size w w1) := ⟨hbw, hbel⟩
    have HT : Hid (TabSt w1 (w.heap.size + 2 + 1 + 1 + 1) next (w.heap.size + 2 + 1) (w.heap.size + 2 + 1 + 1) n I X R V ∧ TabOwn (w.heap.size + 2) (w.heap.size + 2 + 1 + 1 + 1) (w.heap.size + 2 + 1) (w.heap.size + 2 + 1 + 1) n V) := hts
    have hn12 := hv.2.1
    clear hv hst hbw hts hbel
    have HW : Hid (w.heap.size + 2 ≤ w1.heap.size) := by have := HB.out.1.size; rw [HSZ.out] at this; exact this
    go_wp2_with fail
    refine (intern_any (w.heap.size + 2) _ _ _ n next I X R V x w1 HT.out.1 HT.out.2 (fun i j hi hj e => HV.out.text_inj hi hj e) (fun j hj => (HV.out.2.2 j hj).1.2.1.2) (by have := nuB_bd HV.out.1; omega) (fun j hj => (HV.out.2.2 j hj).1.2.2.1)).mono ?_
    intro e w2 hin
    clear y0 y1 z0 z1 z2 z3 zf zz
    rcases hin with ⟨hno, rfl, rfl⟩ | ⟨i, hi, hx, hr, rfl, hst2, hb2⟩ | ⟨hno, hroom, rfl, hst2, hb2⟩
    · obtain ⟨⟨y0, y1⟩, ⟨z0, z1, z2, z3, zf⟩, zz, hbel⟩ := rbox HB.out.1
      have HNO : Hid ((∃ i, i < n ∧ X i = x ∧ R i = 2000000000) ∨ ((∀ i, i < n → X i ≠ x) ∧ roomB x n next = false)) := hno
      clear hno hbel
      go_wp2_with fail
      refine (copyDict_any next a n c I X R w2 (HR.out.below HB.out.2) hn).mono ?_
      rintro e w3 ⟨a2, c2, rfl, ho2, hb3, hccc2⟩
      clear y0 y1 z0 z1 z2 z3 zf zz
      have HB2 : Hid (Below (w.heap.size + 2) ((w.alloc (.cells #[.int .i64 next, .slice a n c] 28)).alloc (.cells #[.bool false, .int .i64 0, .int .i64 0, .slice none 0 0] 30)) w3 ∧ OwnT w3 (w.heap.size + 2) a2 n I X R) := ⟨HB.out.1.trans (hb3.mono HW.out), ho2.mono HW.out⟩
      obtain ⟨⟨y0, y1⟩, ⟨z0, z1, z2, z3, zf⟩, zz, hbel⟩ := rbox HB2.out.1
      have HX : Hid (Below w.heap.size w w3) := hbel
      clear hbel ho2 hb3
      go_wp2
      refine bodyPost_ret (v := .agg #[.bool false, .int .i64 0, .int .i64 next, .slice a2 n c2]) (by simp [results, Try.results9, go_sem, z0, z1, z2, z3]) rfl ⟨false, 0, next, n, I, X, R, .inl ⟨.inr HNO.out, rfl, rfl, rfl, rfl, rfl, rfl, rfl⟩, a2, c2, rfl, ?_⟩
      exact ret_set HB2.out.2 HX.out (by assumption) _ _ _ _
    · have HB2 : Hid (Below (w.heap.size + 2) ((w.alloc (.cells #[.int .i64 next, .slice a n c] 28)).alloc (.cells #[.bool false, .int .i64 0, .int .i64 0, .slice none 0 0] 30)) w2) := HB.out.1.trans hb2
      have HT2 : Hid (TabSt w2 (w.heap.size + 2 + 1 + 1 + 1) next (w.heap.size + 2 + 1) (w.heap.size + 2 + 1 + 1) n I X (upd R i (R i + 1)) V ∧ w.heap.size + 2 ≤ w2.heap.size) := ⟨hst2, Nat.le_trans HW.out hb2.size⟩
      have HQ : Hid (X i = x ∧ R i ≠ 2000000000) := ⟨hx, hr⟩
      clear hst2 hb2 hx hr
      go_wp2_with fail
      refine (tell_any _ _ _ n next I I X X (upd R i (R i + 1)) (upd R i (R i + 1)) V w2 HT2.out.1 (fun i j hi hj e => HV.out.text_inj hi hj e) (fun j hj => by have := (HV.out.2.2 j hj).1.1.2; unfold maxLen; omega) hn HV.out.asc (fun j hj => ⟨j, hj, rfl, rfl, rfl⟩) (fun j hj => ⟨j, hj, rfl⟩)).mono ?_
      rintro e w3 ⟨a2, c2, rfl, ho2, hb3, hccc2⟩
      have HB3 : Hid (Below (w.heap.size + 2) ((w.alloc (.cells #[.int .i64 next, .slice a n c] 28)).alloc (.cells #[.bool false, .int .i64 0, .int .i64 0, .slice none 0 0] 30)) w3 ∧ OwnT w3 (w.heap.size + 2) a2 n I X (upd R i (R i + 1))) := ⟨HB2.out.trans (hb3.mono HT2.out.2), ho2.mono HT2.out.2⟩
      obtain ⟨⟨y0, y1⟩, ⟨z0, z1, z2, z3, zf⟩, zz, hbel⟩ := rbox HB3.out.1
      have HX : Hid (Below w.heap.size w w3) := hbel
      clear hbel ho2 hb3
      go_wp2
      refine bodyPost_ret (v := .agg #[.bool true, .int .i64 (I i), .int .i64 next, .slice a2 n c2]) (by simp [results, Try.results9, go_sem, z0, z1, z2, z3]) rfl ⟨true, I i, next, n, I, X, _, .inr (.inl ⟨HV.out, i, hi, HQ.out.1, HQ.out.2, rfl, rfl, rfl, rfl, rfl, rfl, rfl⟩), a2, c2, rfl, ?_⟩
      exact ret_set HB3.out.2 HX.out (by assumption) _ _ _ _
    · have HB2 : Hid (Below (w.heap.size + 2) ((w.alloc (.cells #[.int .i64 next, .slice a n c] 28)).alloc (.cells #[.bool false, .int .i64 0, .int .i64 0, .slice none 0 0] 30)) w2) := HB.out.1.trans hb2
      have HT2 : Hid (TabSt w2 (w.heap.size + 2 + 1 + 1 + 1) (next + 1) (w.heap.size + 2 + 1) (w.heap.size + 2 + 1 + 1) (n + 1) (upd I n next) (upd X n x) (upd R n 1) (upd V n w1.heap.size) ∧ w.heap.size + 2 ≤ w2.heap.size) := ⟨hst2, Nat.le_trans HW.out hb2.size⟩
      obtain ⟨p, hp⟩ := posOf_ex HV.out hno
      have HP : Hid (PosOf n X x p) := hp
      have HNO : Hid (∀ i, i < n → X i ≠ x) := hno
      have hx30 : x.size ≤ 30 := by
        have q : txB x = true := by unfold roomB at hroom; simp at hroom; exact hroom.1.1
        unfold txB at q
        simp at q
        omega
      have HINJ : Hid (∀ i j, i < n + 1 → j < n + 1 → upd X n x i = upd X n x j → i = j) := fun i j hi hj e => by
        by_cases e1 : i = n
        · by_cases e2 : j = n
          · omega
          · subst e1
            rw [upd_same, upd_ne e2] at e
            exact absurd e.symm (hno j (by omega))
        · by_cases e2 : j = n
          · subst e2
            rw [upd_same, upd_ne e1] at e
            exact absurd e (hno i (by omega))
          · rw [upd_ne e1, upd_ne e2] at e
            exact HV.out.text_inj (by omega) (by omega) e
      have HOF : Hid (∀ j, j < n + 1 → ∃ i, i < n + 1 ∧ insAt X p x j = upd X n x i ∧ insAt I p next j = upd I n next i ∧ insAt R p 1 j = upd R n 1 i) := fun j hj => by
        rcases Nat.lt_trichotomy j p with h1 | h1 | h1
        · have hjn : j ≠ n := by have := hp.1; omega
          exact ⟨j, by omega, by rw [insAt_lt h1, upd_ne hjn], by rw [insAt_lt h1, upd_ne hjn], by rw [insAt_lt h1, upd_ne hjn]⟩
        · subst h1
          exact ⟨n, by omega, by rw [insAt_at, upd_same], by rw [insAt_at, upd_same], by rw [insAt_at, upd_same]⟩
        · have hjn : j - 1 ≠ n := by omega
          exact ⟨j - 1, by omega, by rw [insAt_gt h1, upd_ne hjn], by rw [insAt_gt h1, upd_ne hjn], by rw [insAt_gt h1, upd_ne hjn]⟩
      have HIN : Hid (∀ i, i < n + 1 → ∃ j, j < n + 1 ∧ insAt X p x j = upd X n x i) := fun i hi => by
        by_cases e : i = n
        · subst e; exact ⟨p, by have := hp.1; omega, by rw [insAt_at, upd_same]⟩
        · by_cases h1 : i < p
          · exact ⟨i, by omega, by rw [insAt_lt h1, upd_ne e]⟩
          · exact ⟨i + 1, by omega, by rw [insAt_gt (by omega), upd_ne e]; rfl⟩
      clear hst2 hb2 hno hp
      go_wp2_with fail
      refine (tell_any _ _ _ (n + 1) (next + 1) (upd I n next) (insAt I p next) (upd X n x) (insAt X p x) (upd R n 1) (insAt R p 1) _ w2 HT2.out.1 HINJ.out (fun j hj => by
        by_cases e : j = n
        · subst e; rw [upd_same]; unfold maxLen; omega
        · rw [upd_ne e]; have := (HV.out.2.2 j (by omega)).1.1.2; unfold maxLen; omega) (by omega) (ins_asc HV.out HP.out) HOF.out HIN.out).mono ?_
      rintro e w3 ⟨a2, c2, rfl, ho2, hb3, hccc2⟩
      have HB3 : Hid (Below (w.heap.size + 2) ((w.alloc (.cells #[.int .i64 next, .slice a n c] 28)).alloc (.cells #[.bool false, .int .i64 0, .int .i64 0, .slice none 0 0] 30)) w3 ∧ OwnT w3 (w.heap.size + 2) a2 (n + 1) (insAt I p next) (insAt X p x) (insAt R p 1)) := ⟨HB2.out.trans (hb3.mono HT2.out.2), ho2.mono HT2.out.2⟩
      obtain ⟨⟨y0, y1⟩, ⟨z0, z1, z2, z3, zf⟩, zz, hbel⟩ := rbox HB3.out.1
      have HX : Hid (Below w.heap.size w w3) := hbel
      clear hbel ho2 hb3
      go_wp2
      refine bodyPost_ret (v := .agg #[.bool true, .int .i64 next, .int .i64 (next + 1), .slice a2 (n + 1) c2]) (by simp [results, Try.results9, go_sem, z0, z1, z2, z3]) rfl ⟨true, next, next + 1, n + 1, _, _, _, .inr (.inr ⟨HV.out, HNO.out, hroom, p, HP.out, rfl, rfl, rfl, rfl, rfl, rfl, rfl⟩), a2, c2, rfl, ?_⟩
      exact ret_set HB3.out.2 HX.out (by assumption) _ _ _ _
end Go.Proofs.Ytfecgececffdoaa
