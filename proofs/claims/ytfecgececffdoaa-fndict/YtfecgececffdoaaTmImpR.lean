import Derived.Test.YtfecgececffdoaaTmImp
namespace Go.Proofs.Ytfecgececffdoaa
open Go.RowKit Go.Deep Go.MapKept
set_option linter.unusedVariables false
set_option maxRecDepth 100000

set_option maxHeartbeats 4000000 in
theorem implRelease (next : Int) (a : Option Addr) (n c : Nat) (I : Nat → Int) (X : Nat → ByteArray) (R : Nat → Int) (x : Int) (w : World) (h : RdT w a n I X R) (hn : n ≤ 1048576) :
    Calls Try.prog 16 #[.agg #[.int .i64 next, .slice a n c], .int .i64 x] w (RetAns w (ReAns next n I X R x)) := by
  have hrd := readDict_any next a n c I X R ((w.alloc (.cells #[.int .i64 next, .slice a n c] 28)).alloc (.cells #[.bool false, .int .i64 0, .int .i64 0, .slice none 0 0] 30)) (h.below ((below_alloc _ _).trans ((below_alloc _ _).mono (by simp)))) hn
  have HR : Hid (RdT w a n I X R) := h
  have HSZ : Hid (((w.alloc (.cells #[.int .i64 next, .slice a n c] 28)).alloc (.cells #[.bool false, .int .i64 0, .int .i64 0, .slice none 0 0] 30)).heap.size = w.heap.size + 2) := by show _ = _; simp
  clear h
  go_enter Try.func16, Try.ntmps16
  go_wp2_with fail
  refine hrd.mono ?_
  clear hrd
  rintro e w1 hr
  rcases hr with ⟨hv, rfl, hb⟩ | ⟨hv, V, dt, rfl, hst⟩
  · rw [HSZ.out] at hb
    obtain ⟨⟨y0, y1⟩, ⟨z0, z1, z2, z3, zf⟩, zz, hbel⟩ := rbox hb
    have HV : Hid (¬ VDt next n I X R) := hv
    have HB : Hid (Below (w.heap.size + 2) ((w.alloc (.cells #[.int .i64 next, .slice a n c] 28)).alloc (.cells #[.bool false, .int .i64 0, .int .i64 0, .slice none 0 0] 30)) w1 ∧ Below w.heap.size w w1) := ⟨hb, hbel⟩
    have HW : Hid (w.heap.size + 2 ≤ w1.heap.size) := by have := HB.out.1.size; rw [HSZ.out] at this; exact this
    clear hv hb hbel
    go_wp2_with fail
    refine (copyDict_any next a n c I X R w1 (HR.out.below HB.out.2) hn).mono ?_
    rintro e w2 ⟨a2, c2, rfl, ho2, hb3, hccc2⟩
    clear y0 y1 z0 z1 z2 z3 zf zz
    have HB2 : Hid (Below (w.heap.size + 2) ((w.alloc (.cells #[.int .i64 next, .slice a n c] 28)).alloc (.cells #[.bool false, .int .i64 0, .int .i64 0, .slice none 0 0] 30)) w2 ∧ OwnT w2 (w.heap.size + 2) a2 n I X R) := ⟨HB.out.1.trans (hb3.mono HW.out), ho2.mono HW.out⟩
    obtain ⟨⟨y0, y1⟩, ⟨z0, z1, z2, z3, zf⟩, zz, hbel⟩ := rbox HB2.out.1
    have HX : Hid (Below w.heap.size w w2) := hbel
    clear hbel ho2 hb3
    go_wp2
    refine bodyPost_ret (v := .agg #[.bool false, .int .i64 0, .int .i64 next, .slice a2 n c2]) (by simp [results, Try.results16, go_sem, z0, z1, z2, z3]) rfl ⟨false, 0, next, n, I, X, R, .inl ⟨.inl HV.out, rfl, rfl, rfl, rfl, rfl, rfl, rfl⟩, a2, c2, rfl, ?_⟩
    exact ret_set HB2.out.2 HX.out (by assumption) _ _ _ _
  · have hbw := hst.below
    have hts := hst.tabSt
    rw [HSZ.out] at hbw hts
    rw [HSZ.out]
    obtain ⟨⟨y0, y1⟩, ⟨z0, z1, z2, z3, zf⟩, zz, hbel⟩ := rbox hbw
    have HV : Hid (VDt next n I X R) := hv
    have HB : Hid (Below (w.heap.size + 2) ((w.alloc (.cells #[.int .i64 next, .slice a n c] 28)).alloc (.cells #[.bool false, .int .i64 0, .int .i64 0, .slice none 0 0] 30)) w1 ∧ Below w.heap.size w w1) := ⟨hbw, hbel⟩
    have HT : Hid (TabSt w1 (w.heap.size + 2 + 1 + 1 + 1) next (w.heap.size + 2 + 1) (w.heap.size + 2 + 1 + 1) n I X R V ∧ TabOwn (w.heap.size + 2) (w.heap.size + 2 + 1 + 1 + 1) (w.heap.size + 2 + 1) (w.heap.size + 2 + 1 + 1) n V) := hts
    have hn12 := hv.2.1
    clear hv hst hbw hts hbel
    have HW : Hid (w.heap.size + 2 ≤ w1.heap.size) := by have := HB.out.1.size; rw [HSZ.out] at this; exact this
    go_wp2_with fail
    refine (release_any (w.heap.size + 2) _ _ _ n next I X R V x w1 HT.out.1 HT.out.2 (fun i j hi hj e => HV.out.text_inj hi hj e) (fun i j hi hj e => HV.out.id_inj hi hj e) (fun j hj => (HV.out.2.2 j hj).1.2.2.1)).mono ?_
    intro e w2 hin
    clear y0 y1 z0 z1 z2 z3 zf zz
    rcases hin with ⟨hno, rfl, rfl⟩ | ⟨i, hi, hx, hr, rfl, hst2, hb2⟩ | ⟨i, hi, hx, hr, rfl, hst2, hb2⟩
    · obtain ⟨⟨y0, y1⟩, ⟨z0, z1, z2, z3, zf⟩, zz, hbel⟩ := rbox HB.out.1
      have HNO : Hid (∀ i, i < n → I i ≠ x) := hno
      clear hno hbel
      go_wp2_with fail
      refine (copyDict_any next a n c I X R w2 (HR.out.below HB.out.2) hn).mono ?_
      rintro e w3 ⟨a2, c2, rfl, ho2, hb3, hccc2⟩
      clear y0 y1 z0 z1 z2 z3 zf zz
      have HB2 : Hid (Below (w.heap.size + 2) ((w.alloc (.cells #[.int .i64 next, .slice a n c] 28)).alloc (.cells #[.bool false, .int .i64 0, .int .i64 0, .slice none 0 0] 30)) w3 ∧ OwnT w3 (w.heap.size + 2) a2 n I X R) := ⟨HB.out.1.trans (hb3.mono HW.out), ho2.mono HW.out⟩
      obtain ⟨⟨y0, y1⟩, ⟨z0, z1, z2, z3, zf⟩, zz, hbel⟩ := rbox HB2.out.1
      have HX : Hid (Below w.heap.size w w3) := hbel
      clear hbel ho2 hb3
      go_wp2
      refine bodyPost_ret (v := .agg #[.bool false, .int .i64 0, .int .i64 next, .slice a2 n c2]) (by simp [results, Try.results16, go_sem, z0, z1, z2, z3]) rfl ⟨false, 0, next, n, I, X, R, .inl ⟨.inr HNO.out, rfl, rfl, rfl, rfl, rfl, rfl, rfl⟩, a2, c2, rfl, ?_⟩
      exact ret_set HB2.out.2 HX.out (by assumption) _ _ _ _
    · have HB2 : Hid (Below (w.heap.size + 2) ((w.alloc (.cells #[.int .i64 next, .slice a n c] 28)).alloc (.cells #[.bool false, .int .i64 0, .int .i64 0, .slice none 0 0] 30)) w2) := HB.out.1.trans hb2
      have HT2 : Hid (TabSt w2 (w.heap.size + 2 + 1 + 1 + 1) next (w.heap.size + 2 + 1) (w.heap.size + 2 + 1 + 1) n I X (upd R i (R i - 1)) V ∧ w.heap.size + 2 ≤ w2.heap.size) := ⟨hst2, Nat.le_trans HW.out hb2.size⟩
      have HQ : Hid (I i = x ∧ R i ≠ 1) := ⟨hx, hr⟩
      clear hst2 hb2 hx hr
      go_wp2_with fail
      refine (tell_any _ _ _ n next I I X X (upd R i (R i - 1)) (upd R i (R i - 1)) V w2 HT2.out.1 (fun i j hi hj e => HV.out.text_inj hi hj e) (fun j hj => by have := (HV.out.2.2 j hj).1.1.2; unfold maxLen; omega) (by omega) HV.out.asc (fun j hj => ⟨j, hj, rfl, rfl, rfl⟩) (fun j hj => ⟨j, hj, rfl⟩)).mono ?_
      rintro e w3 ⟨a2, c2, rfl, ho2, hb3, hccc2⟩
      have HB3 : Hid (Below (w.heap.size + 2) ((w.alloc (.cells #[.int .i64 next, .slice a n c] 28)).alloc (.cells #[.bool false, .int .i64 0, .int .i64 0, .slice none 0 0] 30)) w3 ∧ OwnT w3 (w.heap.size + 2) a2 n I X (upd R i (R i - 1))) := ⟨HB2.out.trans (hb3.mono HT2.out.2), ho2.mono HT2.out.2⟩
      obtain ⟨⟨y0, y1⟩, ⟨z0, z1, z2, z3, zf⟩, zz, hbel⟩ := rbox HB3.out.1
      have HX : Hid (Below w.heap.size w w3) := hbel
      clear hbel ho2 hb3
      go_wp2
      refine bodyPost_ret (v := .agg #[.bool true, .int .i64 x, .int .i64 next, .slice a2 n c2]) (by simp [results, Try.results16, go_sem, z0, z1, z2, z3]) rfl ⟨true, x, next, n, I, X, _, .inr (.inl ⟨HV.out, i, hi, HQ.out.1, HQ.out.2, rfl, rfl, rfl, rfl, rfl, rfl, rfl⟩), a2, c2, rfl, ?_⟩
      exact ret_set HB3.out.2 HX.out (by assumption) _ _ _ _
    · have HB2 : Hid (Below (w.heap.size + 2) ((w.alloc (.cells #[.int .i64 next, .slice a n c] 28)).alloc (.cells #[.bool false, .int .i64 0, .int .i64 0, .slice none 0 0] 30)) w2) := HB.out.1.trans hb2
      have HT2 : Hid (TabSt w2 (w.heap.size + 2 + 1 + 1 + 1) next (w.heap.size + 2 + 1) (w.heap.size + 2 + 1 + 1) (n - 1) (cutAt I i) (cutAt X i) (cutAt R i) (cutAt V i) ∧ w.heap.size + 2 ≤ w2.heap.size) := ⟨hst2, Nat.le_trans HW.out hb2.size⟩
      have HQ : Hid (I i = x ∧ R i = 1) := ⟨hx, hr⟩
      have HASC : Hid (∀ i' j, i' < j → j < n - 1 → Op.bytesLess (cutAt X i i').toList (cutAt X i j).toList = true) := fun i' j hij hj => by
        by_cases h1 : i' < i
        · by_cases h2 : j < i
          · rw [cutAt_lt h1, cutAt_lt h2]; exact HV.out.asc i' j hij (by omega)
          · rw [cutAt_lt h1, cutAt_ge h2]; exact HV.out.asc i' (j + 1) (by omega) (by omega)
        · rw [cutAt_ge h1, cutAt_ge (by omega)]; exact HV.out.asc (i' + 1) (j + 1) (by omega) (by omega)
      have HINJ : Hid (∀ i' j, i' < n - 1 → j < n - 1 → cutAt X i i' = cutAt X i j → i' = j) := fun i' j h1 h2 e => by
        rcases Nat.lt_trichotomy i' j with q | q | q
        · exact absurd e (less_ne (HASC.out i' j q h2))
        · exact q
        · exact absurd e.symm (less_ne (HASC.out j i' q h1))
      clear hst2 hb2 hx hr
      go_wp2_with fail
      refine (tell_any _ _ _ (n - 1) next (cutAt I i) (cutAt I i) (cutAt X i) (cutAt X i) (cutAt R i) (cutAt R i) (cutAt V i) w2 HT2.out.1 HINJ.out (fun j hj => by
          unfold cutAt
          split
          · have := (HV.out.2.2 j (by omega)).1.1.2; unfold maxLen; omega
          · have := (HV.out.2.2 (j + 1) (by omega)).1.1.2; unfold maxLen; omega) (by omega) HASC.out (fun j hj => ⟨j, hj, rfl, rfl, rfl⟩) (fun j hj => ⟨j, hj, rfl⟩)).mono ?_
      rintro e w3 ⟨a2, c2, rfl, ho2, hb3, hccc2⟩
      have HB3 : Hid (Below (w.heap.size + 2) ((w.alloc (.cells #[.int .i64 next, .slice a n c] 28)).alloc (.cells #[.bool false, .int .i64 0, .int .i64 0, .slice none 0 0] 30)) w3 ∧ OwnT w3 (w.heap.size + 2) a2 (n - 1) (cutAt I i) (cutAt X i) (cutAt R i)) := ⟨HB2.out.trans (hb3.mono HT2.out.2), ho2.mono HT2.out.2⟩
      obtain ⟨⟨y0, y1⟩, ⟨z0, z1, z2, z3, zf⟩, zz, hbel⟩ := rbox HB3.out.1
      have HX : Hid (Below w.heap.size w w3) := hbel
      clear hbel ho2 hb3
      go_wp2
      refine bodyPost_ret (v := .agg #[.bool true, .int .i64 x, .int .i64 next, .slice a2 (n - 1) c2]) (by simp [results, Try.results16, go_sem, z0, z1, z2, z3]) rfl ⟨true, x, next, (n - 1), (cutAt I i), (cutAt X i), _, .inr (.inr ⟨HV.out, i, hi, HQ.out.1, HQ.out.2, rfl, rfl, rfl, rfl, rfl, rfl, rfl⟩), a2, c2, rfl, ?_⟩
      exact ret_set HB3.out.2 HX.out (by assumption) _ _ _ _
end Go.Proofs.Ytfecgececffdoaa
