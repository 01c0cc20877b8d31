import Derived.Test.YtocmbnocdjnfpaaQbA
namespace Go.Proofs.Ytocmbnocdjnfpaa
open Go.RowKit Go.Deep
set_option linter.unusedVariables false
set_option linter.unusedSimpArgs false
set_option maxRecDepth 100000

theorem strB_eq {x y : ByteArray} : (x.toList == y.toList) = true ↔ x = y := by
  constructor
  · intro h
    have h := eq_of_beq h
    rw [ByteArray.toList_eq, ByteArray.toList_eq] at h
    cases x; cases y
    simp at h
    rw [h]
  · rintro rfl; simp
theorem wdS_inj : ∀ a, a < 16 → ∀ c, c < 14 → 1 ≤ c → (wdS a).data = (wdS c).data → a = c := by decide
theorem kdT_not14 : ∀ c, c < 14 → 1 ≤ c → kdT c ≠ 2 := by decide
theorem tok_iff (t : Tok) (h : t.c ≤ 15) (c : Nat) (h1 : 1 ≤ c) (h2 : c < 14) : (kdT t.c = kdT c ∧ ((txT t).toList == (wdS c).toList) = true) ↔ t.c = c := by
  constructor
  · rintro ⟨h3, h4⟩
    rw [strB_eq] at h4
    by_cases h5 : t.c = 14
    · rw [h5] at h3
      exact absurd h3.symm (kdT_not14 c h2 h1)
    · unfold txT at h4
      rw [if_neg h5] at h4
      exact wdS_inj _ (by omega) _ h2 h1 (by rw [h4])
  · intro h3
    refine ⟨by rw [h3], ?_⟩
    rw [strB_eq]
    unfold txT
    rw [if_neg (by omega), h3]

set_option maxHeartbeats 1000000 in
theorem l6Is_v (g m c i nd : Nat) (er at_ kind K a : Int) (S X text : ByteArray) (w : World) (c1 : w.cell? ⟨g, i * 3, none⟩ = some (.int .i64 K)) (c2 : w.cell? ⟨g, i * 3 + 1, none⟩ = some (.string X)) (hi : i < m) (hm : m ≤ 3000) :
    Calls Try.prog 101 #[.agg #[.slice (some ⟨g, 0, none⟩) m c, .int .i64 (i : Int), .int .i64 (nd : Int), .int .i64 er, .int .i64 at_, .string S], .int .i64 kind, .string text] w fun r w' => r = .returned (.bool (decide (er = 0 ∧ K = kind ∧ (X.toList == text.toList) = true))) ∧ Below w.heap.size w w' := by
  have b1 := World.block_lt_of_cell? _ _ c1
  have HB : Hid (∀ o1, Below w.heap.size w (w.alloc o1)) := fun o1 => below_alloc _ _
  have ii : (i : Int) < (m : Int) := by omega
  have i0 : ¬ (i : Int) < 0 := by omega
  have i1 : (0 : Int) ≤ (i : Int) := by omega
  by_cases h : er = 0
  · subst h
    by_cases h5 : K = kind
    · subst h5
      cases h6 : (X.toList == text.toList) with
      | true =>
        go_enter Try.func101, Try.ntmps101
        go_wp2
        go_ret
        exact ⟨by simp, HB.out _⟩
      | false =>
        go_enter Try.func101, Try.ntmps101
        go_wp2
        go_ret
        exact ⟨by simp, HB.out _⟩
    · have d5 : (K == kind) = false := by simp [h5]
      go_enter Try.func101, Try.ntmps101
      go_wp2
      go_ret
      exact ⟨by simp [h5], HB.out _⟩
  · have d : (er == 0) = false := by simp [h]
    go_enter Try.func101, Try.ntmps101
    go_wp2
    go_ret
    exact ⟨by simp [h], HB.out _⟩

theorem l6Is_c {T : Nat → Tok} {A : Nat → Nat} (hT : ∀ i, (T i).c ≤ 15) (k : Nat) (kind : Int) (text : ByteArray) (hk : kind = kdT k) (ht : text = wdS k) (hk1 : 1 ≤ k) (hk2 : k < 14) (g m c : Nat) (p : Pr) (w : World) (hR : RdK w g m T A) (hi : p.i < m) (hm : m ≤ 3000) :
    Calls Try.prog 101 #[prV g m c p, .int .i64 kind, .string text] w fun r w' => r = .returned (.bool (decide (p.er = 0 ∧ (T p.i).c = k))) ∧ Below w.heap.size w w' := by
  obtain ⟨c1, c2, c3⟩ := hR p.i hi
  refine (l6Is_v g m c p.i p.nd p.er p.at_ kind _ 0 (strT p.got) _ text w c1 c2 hi hm).mono ?_
  rintro e w' ⟨rfl, hb⟩
  refine ⟨?_, hb⟩
  congr 2
  rw [decide_eq_decide, hk, ht, tok_iff (T p.i) (hT _) k hk1 hk2]

set_option maxHeartbeats 1000000 in
theorem l6Makes_any {T : Nat → Tok} {A : Nat → Nat} (hT : ∀ i, (T i).c ≤ 15) (g m c : Nat) (p : Pr) (w : World) (hR : RdK w g m T A) (hi : p.i < m) (hm : m ≤ 3000) (hnd : p.nd ≤ 100) :
    Calls Try.prog 102 #[prV g m c p] w fun r w' => r = .returned (prV g m c (mkP T A p)) ∧ Below w.heap.size w w' := by
  obtain ⟨er, at_, i, nd, got⟩ := p
  have hi' : i < m := hi
  have hnd' : nd ≤ 100 := hnd
  have HR : Hid (RdK w g m T A) := hR
  have HB : Hid (∀ o1 o2, Below w.heap.size w ((w.alloc o1).alloc o2)) := fun o1 o2 => (below_alloc _ _).alloc (by simp) _
  clear hR hi hnd
  by_cases h : nd = 100
  · have HE : Hid (mkP T A ⟨er, at_, i, nd, got⟩ = failP T A ⟨er, at_, i, nd, got⟩ 4) := by
      show _ = _
      unfold mkP
      rw [if_pos h]
    have HF : Hid (∀ W, RdK W g m T A → Calls Try.prog 105 #[.agg #[.slice (some ⟨g, 0, none⟩) m c, .int .i64 (i : Int), .int .i64 (nd : Int), .int .i64 er, .int .i64 at_, .string (strT got)], .int .i64 4] W fun r w' => r = .returned (prV g m c (failP T A ⟨er, at_, i, nd, got⟩ 4)) ∧ Below W.heap.size W w') := fun W hW => l6Fail_any hT g m c ⟨er, at_, i, nd, got⟩ 4 W hW hi' hm
    have h' : (nd : Int) = 100 := by omega
    show Calls Try.prog 102 #[.agg #[.slice (some ⟨g, 0, none⟩) m c, .int .i64 (i : Int), .int .i64 (nd : Int), .int .i64 er, .int .i64 at_, .string (strT got)]] w _
    generalize strT got = S at *
    have hd : ((nd : Int) == 100) = true := by simp [h']
    clear h h'
    go_enter Try.func102, Try.ntmps102
    go_wp2_with fail
    refine (HF.out _ (HR.out.below (HB.out _ _))).mono ?_
    rintro e w1 ⟨rfl, hb⟩
    obtain ⟨q, hq⟩ : ∃ q, q = failP T A ⟨er, at_, i, nd, got⟩ 4 := ⟨_, rfl⟩
    rw [← hq]
    have HQ : Hid (q = failP T A ⟨er, at_, i, nd, got⟩ 4) := hq
    clear hq HF
    have hz : w.heap.size + 1 < w1.heap.size := by have := hb.size; simp at this; omega
    have HB1 : Hid (Below w.heap.size w w1) := (HB.out _ _).trans (hb.mono (by simp; omega))
    have hc1 : ∀ o, w1.cell? ⟨w.heap.size + 1, o, none⟩ = _ := fun o => hb.cell (p := ⟨w.heap.size + 1, o, none⟩) (by simp)
    have hf1 : ∀ o, w1.frozen? ⟨w.heap.size + 1, o, none⟩ = _ := fun o => hb.frozen (p := ⟨w.heap.size + 1, o, none⟩) (by simp)
    clear hb
    unfold prV
    go_wp2
    refine bodyPost_ret (v := prV g m c q) (by simp [prV, results, Try.results102, go_sem, hc1]) rfl ⟨by rw [HE.out, ← HQ.out], ?_⟩
    exact (((((HB1.out.setCell (by simp) _).setCell (by simp) _).setCell (by simp) _).setCell (by simp) _).setCell (by simp) _).setCell (by simp) _
  · have HE : Hid (mkP T A ⟨er, at_, i, nd, got⟩ = ⟨er, at_, i + 1, nd + 1, got⟩) := by
      show _ = _
      unfold mkP
      rw [if_neg h]
    have h' : ¬ (nd : Int) = 100 := by omega
    have e1 : IntKind.i64.wrap ((nd : Int) + 1) = (nd : Int) + 1 := by rw [IntKind.wrap_i64]; omega
    have e2 : IntKind.i64.wrap ((i : Int) + 1) = (i : Int) + 1 := by rw [IntKind.wrap_i64]; omega
    obtain ⟨S, hS⟩ : ∃ S, strT got = S := ⟨_, rfl⟩
    have HS : Hid (strT got = S) := hS
    show Calls Try.prog 102 #[.agg #[.slice (some ⟨g, 0, none⟩) m c, .int .i64 (i : Int), .int .i64 (nd : Int), .int .i64 er, .int .i64 at_, .string (strT got)]] w _
    rw [hS]
    have hd : ((nd : Int) == 100) = false := by simp [h']
    clear hS
    go_enter Try.func102, Try.ntmps102
    go_wp2
    refine bodyPost_ret (v := .agg #[.slice (some ⟨g, 0, none⟩) m c, .int .i64 ((i : Int) + 1), .int .i64 ((nd : Int) + 1), .int .i64 er, .int .i64 at_, .string S]) (by simp [results, Try.results102, go_sem]) rfl ⟨?_, HB.out _ _⟩
    rw [HE.out, ← HS.out]
    rfl

set_option maxHeartbeats 1000000 in
theorem l6Sym_any {T : Nat → Tok} {A : Nat → Nat} (hT : ∀ i, (T i).c ≤ 15) (k : Nat) (text : ByteArray) (hk : kdT k = 3) (ht : text = wdS k) (hk1 : 1 ≤ k) (hk2 : k < 14) (g m c : Nat) (p : Pr) (w : World) (hR : RdK w g m T A) (hi : p.i < m) (hm : m ≤ 3000) :
    Calls Try.prog 103 #[prV g m c p, .string text] w fun r w' => r = .returned (prV g m c (symP T A p k)) ∧ Below w.heap.size w w' := by
  obtain ⟨er, at_, i, nd, got⟩ := p
  have hi' : i < m := hi
  have HR : Hid (RdK w g m T A) := hR
  have HB : Hid (∀ o1 o2, Below w.heap.size w ((w.alloc o1).alloc o2)) := fun o1 o2 => (below_alloc _ _).alloc (by simp) _
  have HF : Hid (∀ W, RdK W g m T A → Calls Try.prog 105 #[.agg #[.slice (some ⟨g, 0, none⟩) m c, .int .i64 (i : Int), .int .i64 (nd : Int), .int .i64 er, .int .i64 at_, .string (strT got)], .int .i64 3] W fun r w' => r = .returned (prV g m c (failP T A ⟨er, at_, i, nd, got⟩ 3)) ∧ Below W.heap.size W w') := fun W hW => l6Fail_any hT g m c ⟨er, at_, i, nd, got⟩ 3 W hW hi' hm
  have HI : Hid (∀ W, RdK W g m T A → Calls Try.prog 101 #[.agg #[.slice (some ⟨g, 0, none⟩) m c, .int .i64 (i : Int), .int .i64 (nd : Int), .int .i64 er, .int .i64 at_, .string (strT got)], .int .i64 3, .string text] W fun r w' => r = .returned (.bool (decide (er = 0 ∧ (T i).c = k))) ∧ Below W.heap.size W w') := fun W hW => l6Is_c hT k 3 text hk.symm ht hk1 hk2 g m c ⟨er, at_, i, nd, got⟩ W hW hi' hm
  clear hR hi hk ht
  have e2 : IntKind.i64.wrap ((i : Int) + 1) = (i : Int) + 1 := by rw [IntKind.wrap_i64]; omega
  obtain ⟨S, hS⟩ : ∃ S, strT got = S := ⟨_, rfl⟩
  have HS : Hid (strT got = S) := hS
  rw [hS] at HF HI
  show Calls Try.prog 103 #[.agg #[.slice (some ⟨g, 0, none⟩) m c, .int .i64 (i : Int), .int .i64 (nd : Int), .int .i64 er, .int .i64 at_, .string (strT got)], .string text] w _
  rw [hS]
  clear hS
  go_enter Try.func103, Try.ntmps103
  go_wp2_with fail
  refine (HI.out _ (HR.out.below (HB.out _ _))).mono ?_
  rintro e w1 ⟨rfl, hb⟩
  have hz : w.heap.size + 1 < w1.heap.size := by have := hb.size; simp at this; omega
  have HB1 : Hid (Below w.heap.size w w1) := (HB.out _ _).trans (hb.mono (by simp; omega))
  have hc1 : ∀ b o, b < w.heap.size + 2 → w1.cell? ⟨b, o, none⟩ = _ := fun b o h => hb.cell (p := ⟨b, o, none⟩) (by simp; omega)
  have hf1 : ∀ b o, b < w.heap.size + 2 → w1.frozen? ⟨b, o, none⟩ = _ := fun b o h => hb.frozen (p := ⟨b, o, none⟩) (by simp; omega)
  clear hb HI
  by_cases h : er = 0 ∧ (T i).c = k
  · have HE : Hid (symP T A ⟨er, at_, i, nd, got⟩ k = ⟨er, at_, i + 1, nd, got⟩) := by
      show _ = _
      unfold symP
      rw [if_pos h]
    rw [decide_eq_true h]
    clear h HF
    go_wp2
    refine bodyPost_ret (v := .agg #[.slice (some ⟨g, 0, none⟩) m c, .int .i64 ((i : Int) + 1), .int .i64 (nd : Int), .int .i64 er, .int .i64 at_, .string S]) (by simp [results, Try.results103, go_sem, hc1]) rfl ⟨?_, ?_⟩
    · rw [HE.out, ← HS.out]
      rfl
    · exact ((((((HB1.out.setCell (by simp) _).setCell (by simp) _).setCell (by simp) _).setCell (by simp) _).setCell (by simp) _).setCell (by simp) _).setCell (by simp) _
  · have HE : Hid (symP T A ⟨er, at_, i, nd, got⟩ k = failP T A ⟨er, at_, i, nd, got⟩ 3) := by
      show _ = _
      unfold symP
      rw [if_neg h]
    rw [decide_eq_false h]
    clear h
    go_wp2_with fail
    refine (HF.out _ (HR.out.below HB1.out)).mono ?_
    rintro e w2 ⟨rfl, hb⟩
    obtain ⟨q, hq⟩ : ∃ q, q = failP T A ⟨er, at_, i, nd, got⟩ 3 := ⟨_, rfl⟩
    rw [← hq]
    have HQ : Hid (q = failP T A ⟨er, at_, i, nd, got⟩ 3) := hq
    clear hq HF
    have hz2 : w.heap.size + 1 < w2.heap.size := by have := hb.size; omega
    have HB2 : Hid (Below w.heap.size w w2) := HB1.out.trans (hb.mono (by omega))
    have hc2 : ∀ b o, b < w.heap.size + 2 → w2.cell? ⟨b, o, none⟩ = w1.cell? ⟨b, o, none⟩ := fun b o h => hb.cell (p := ⟨b, o, none⟩) (by show b < _; omega)
    have hf2 : ∀ b o, b < w.heap.size + 2 → w2.frozen? ⟨b, o, none⟩ = w1.frozen? ⟨b, o, none⟩ := fun b o h => hb.frozen (p := ⟨b, o, none⟩) (by show b < _; omega)
    clear hb
    unfold prV
    go_wp2
    refine bodyPost_ret (v := prV g m c q) (by simp [prV, results, Try.results103, go_sem, hc1, hc2]) rfl ⟨by rw [HE.out, ← HQ.out], ?_⟩
    exact (((((HB2.out.setCell (by simp) _).setCell (by simp) _).setCell (by simp) _).setCell (by simp) _).setCell (by simp) _).setCell (by simp) _

theorem kdT_two (c : Nat) (hc : c ≤ 15) : kdT c = 2 ↔ c = 14 := by
  unfold kdT
  constructor
  · intro h
    split at h
    · omega
    · split at h
      · assumption
      · split at h
        · omega
        · split at h <;> omega
  · intro h; rw [if_neg (by omega), if_pos h]

set_option maxHeartbeats 1000000 in
theorem l6Str_any {T : Nat → Tok} {A : Nat → Nat} (hT : ∀ i, (T i).c ≤ 15) (g m c : Nat) (p : Pr) (w : World) (hR : RdK w g m T A) (hi : p.i < m) (hm : m ≤ 3000) :
    Calls Try.prog 104 #[prV g m c p] w fun r w' => r = .returned (prV g m c (strP T A p)) ∧ Below w.heap.size w w' := by
  obtain ⟨er, at_, i, nd, got⟩ := p
  have hi' : i < m := hi
  have HR : Hid (RdK w g m T A) := hR
  obtain ⟨c1, c2, c3⟩ := hR i hi
  have b1 := World.block_lt_of_cell? _ _ c1
  have ii : (i : Int) < (m : Int) := by omega
  have i0 : ¬ (i : Int) < 0 := by omega
  have i1 : (0 : Int) ≤ (i : Int) := by omega
  have HB : Hid (∀ o1 o2, Below w.heap.size w ((w.alloc o1).alloc o2)) := fun o1 o2 => (below_alloc _ _).alloc (by simp) _
  have HF : Hid (∀ W, RdK W g m T A → Calls Try.prog 105 #[.agg #[.slice (some ⟨g, 0, none⟩) m c, .int .i64 (i : Int), .int .i64 (nd : Int), .int .i64 er, .int .i64 at_, .string (strT got)], .int .i64 3] W fun r w' => r = .returned (prV g m c (failP T A ⟨er, at_, i, nd, got⟩ 3)) ∧ Below W.heap.size W w') := fun W hW => l6Fail_any hT g m c ⟨er, at_, i, nd, got⟩ 3 W hW hi' hm
  clear hR hi c3
  have e2 : IntKind.i64.wrap ((i : Int) + 1) = (i : Int) + 1 := by rw [IntKind.wrap_i64]; omega
  obtain ⟨S, hS⟩ : ∃ S, strT got = S := ⟨_, rfl⟩
  have HS : Hid (strT got = S) := hS
  rw [hS] at HF
  have HK : Hid (kdT (T i).c = 2 ↔ (T i).c = 14) := kdT_two _ (hT i)
  show Calls Try.prog 104 #[.agg #[.slice (some ⟨g, 0, none⟩) m c, .int .i64 (i : Int), .int .i64 (nd : Int), .int .i64 er, .int .i64 at_, .string (strT got)]] w _
  rw [hS]
  clear hS
  by_cases h : er = 0 ∧ (T i).c = 14
  · have HE : Hid (strP T A ⟨er, at_, i, nd, got⟩ = ⟨er, at_, i + 1, nd, (T i).q⟩) := by
      show _ = _
      unfold strP
      rw [if_pos h]
    have e14 : kdT (T i).c = 2 := HK.out.2 h.2
    have HX : Hid (txT (T i) = strT (T i).q) := by show _ = _; unfold txT; rw [if_pos h.2]
    obtain ⟨rfl, _⟩ := h
    rw [e14] at c1
    generalize txT (T i) = X at *
    clear HF e14 HK
    go_enter Try.func104, Try.ntmps104
    go_wp2
    refine bodyPost_ret (v := .agg #[.slice (some ⟨g, 0, none⟩) m c, .int .i64 ((i : Int) + 1), .int .i64 (nd : Int), .int .i64 0, .int .i64 at_, .string X]) (by simp [results, Try.results104, go_sem]) rfl ⟨?_, HB.out _ _⟩
    rw [HE.out, HX.out]
    rfl
  · have HE : Hid (strP T A ⟨er, at_, i, nd, got⟩ = failP T A ⟨er, at_, i, nd, got⟩ 3) := by
      show _ = _
      unfold strP
      rw [if_neg h]
    by_cases h1 : er = 0
    · have h2 : ¬ kdT (T i).c = 2 := fun e => h ⟨h1, HK.out.1 e⟩
      subst h1
      have d2 : (kdT (T i).c == 2) = false := by simp [h2]
      clear HK h
      generalize kdT (T i).c = K at *
      generalize txT (T i) = X at *
      go_enter Try.func104, Try.ntmps104
      go_wp2_with fail
      refine (HF.out _ (HR.out.below (HB.out _ _))).mono ?_
      rintro e w1 ⟨rfl, hb⟩
      obtain ⟨q, hq⟩ : ∃ q, q = failP T A ⟨0, at_, i, nd, got⟩ 3 := ⟨_, rfl⟩
      rw [← hq]
      have HQ : Hid (q = failP T A ⟨0, at_, i, nd, got⟩ 3) := hq
      clear hq HF
      have hz : w.heap.size + 1 < w1.heap.size := by have := hb.size; simp at this; omega
      have HB1 : Hid (Below w.heap.size w w1) := (HB.out _ _).trans (hb.mono (by simp; omega))
      have hc1 : ∀ o, w1.cell? ⟨w.heap.size + 1, o, none⟩ = _ := fun o => hb.cell (p := ⟨w.heap.size + 1, o, none⟩) (by simp)
      have hf1 : ∀ o, w1.frozen? ⟨w.heap.size + 1, o, none⟩ = _ := fun o => hb.frozen (p := ⟨w.heap.size + 1, o, none⟩) (by simp)
      clear hb
      unfold prV
      go_wp2
      refine bodyPost_ret (v := prV g m c q) (by simp [prV, results, Try.results104, go_sem, hc1]) rfl ⟨by rw [HE.out, ← HQ.out], ?_⟩
      exact (((((HB1.out.setCell (by simp) _).setCell (by simp) _).setCell (by simp) _).setCell (by simp) _).setCell (by simp) _).setCell (by simp) _
    · have d2 : (er == 0) = false := by simp [h1]
      clear HK h c1 c2
      go_enter Try.func104, Try.ntmps104
      go_wp2_with fail
      refine (HF.out _ (HR.out.below (HB.out _ _))).mono ?_
      rintro e w1 ⟨rfl, hb⟩
      obtain ⟨q, hq⟩ : ∃ q, q = failP T A ⟨er, at_, i, nd, got⟩ 3 := ⟨_, rfl⟩
      rw [← hq]
      have HQ : Hid (q = failP T A ⟨er, at_, i, nd, got⟩ 3) := hq
      clear hq HF
      have hz : w.heap.size + 1 < w1.heap.size := by have := hb.size; simp at this; omega
      have HB1 : Hid (Below w.heap.size w w1) := (HB.out _ _).trans (hb.mono (by simp; omega))
      have hc1 : ∀ o, w1.cell? ⟨w.heap.size + 1, o, none⟩ = _ := fun o => hb.cell (p := ⟨w.heap.size + 1, o, none⟩) (by simp)
      have hf1 : ∀ o, w1.frozen? ⟨w.heap.size + 1, o, none⟩ = _ := fun o => hb.frozen (p := ⟨w.heap.size + 1, o, none⟩) (by simp)
      clear hb
      unfold prV
      go_wp2
      refine bodyPost_ret (v := prV g m c q) (by simp [prV, results, Try.results104, go_sem, hc1]) rfl ⟨by rw [HE.out, ← HQ.out], ?_⟩
      exact (((((HB1.out.setCell (by simp) _).setCell (by simp) _).setCell (by simp) _).setCell (by simp) _).setCell (by simp) _).setCell (by simp) _
end Go.Proofs.Ytocmbnocdjnfpaa
