import Derived.Test.YtocmbnocdjnfpaaNk2
import Derived.Test.YtocmbnocdjnfpaaPaG
import Derived.BigQuiet
import Derived.Test.YtocmbnocdjnfpaaLate
import Derived.Laws.BytesArg
namespace Go.Proofs.Ytocmbnocdjnfpaa
open Go.RowKit Go.Deep
set_option linter.unusedVariables false
set_option linter.unusedSimpArgs false
set_option maxRecDepth 100000

theorem strB_eq {x y : ByteArray} : (x.toList == y.toList) = true ↔ x = y := by
  constructor
  · intro h
    have h := eq_of_beq h
    rw [ByteArray.toList_eq, ByteArray.toList_eq] at h
    cases x; cases y
    simp at h
    rw [h]
  · rintro rfl; simp
theorem wdS_inj : ∀ a, a < 16 → ∀ c, c < 14 → 1 ≤ c → (wdS a).data = (wdS c).data → a = c := by decide
theorem kdT_not14 : ∀ c, c < 14 → 1 ≤ c → kdT c ≠ 2 := by decide
theorem tok_iff (t : Tok) (h : t.c ≤ 15) (c : Nat) (h1 : 1 ≤ c) (h2 : c < 14) : (kdT t.c = kdT c ∧ ((txT t).toList == (wdS c).toList) = true) ↔ t.c = c := by
  constructor
  · rintro ⟨h3, h4⟩
    rw [strB_eq] at h4
    by_cases h5 : t.c = 14
    · rw [h5] at h3
      exact absurd h3.symm (kdT_not14 c h2 h1)
    · unfold txT at h4
      rw [if_neg h5] at h4
      exact wdS_inj _ (by omega) _ h2 h1 (by rw [h4])
  · intro h3
    refine ⟨by rw [h3], ?_⟩
    rw [strB_eq]
    unfold txT
    rw [if_neg (by omega), h3]

set_option maxHeartbeats 1000000 in
theorem l6Is_v (g m c i nd : Nat) (er at_ kind K a : Int) (S X text : ByteArray) (w : World) (c1 : w.cell? ⟨g, i * 3, none⟩ = some (.int .i64 K)) (c2 : w.cell? ⟨g, i * 3 + 1, none⟩ = some (.string X)) (hi : i < m) (hm : m ≤ 3000) :
    Calls Try.prog 101 #[.agg #[.slice (some ⟨g, 0, none⟩) m c, .int .i64 (i : Int), .int .i64 (nd : Int), .int .i64 er, .int .i64 at_, .string S], .int .i64 kind, .string text] w fun r w' => r = .returned (.bool (decide (er = 0 ∧ K = kind ∧ (X.toList == text.toList) = true))) ∧ Below w.heap.size w w' := by
  have b1 := World.block_lt_of_cell? _ _ c1
  have HB : Hid (∀ o1, Below w.heap.size w (w.alloc o1)) := fun o1 => below_alloc _ _
  have ii : (i : Int) < (m : Int) := by omega
  have i0 : ¬ (i : Int) < 0 := by omega
  have i1 : (0 : Int) ≤ (i : Int) := by omega
  by_cases h : er = 0
  · subst h
    by_cases h5 : K = kind
    · subst h5
      cases h6 : (X.toList == text.toList) with
      | true =>
        go_enter Try.func101, Try.ntmps101
        go_wp2
        go_ret
        exact ⟨by simp, HB.out _⟩
      | false =>
        go_enter Try.func101, Try.ntmps101
        go_wp2
        go_ret
        exact ⟨by simp, HB.out _⟩
    · have d5 : (K == kind) = false := by simp [h5]
      go_enter Try.func101, Try.ntmps101
      go_wp2
      go_ret
      exact ⟨by simp [h5], HB.out _⟩
  · have d : (er == 0) = false := by simp [h]
    go_enter Try.func101, Try.ntmps101
    go_wp2
    go_ret
    exact ⟨by simp [h], HB.out _⟩

theorem l6Is_c {T : Nat → Tok} {A : Nat → Nat} (hT : ∀ i, (T i).c ≤ 15) (k : Nat) (kind : Int) (text : ByteArray) (hk : kind = kdT k) (ht : text = wdS k) (hk1 : 1 ≤ k) (hk2 : k < 14) (g m c : Nat) (p : Pr) (w : World) (hR : RdK w g m T A) (hi : p.i < m) (hm : m ≤ 3000) :
    Calls Try.prog 101 #[prV g m c p, .int .i64 kind, .string text] w fun r w' => r = .returned (.bool (decide (p.er = 0 ∧ (T p.i).c = k))) ∧ Below w.heap.size w w' := by
  obtain ⟨c1, c2, c3⟩ := hR p.i hi
  refine (l6Is_v g m c p.i p.nd p.er p.at_ kind _ 0 (strT p.got) _ text w c1 c2 hi hm).mono ?_
  rintro e w' ⟨rfl, hb⟩
  refine ⟨?_, hb⟩
  congr 2
  rw [decide_eq_decide, hk, ht, tok_iff (T p.i) (hT _) k hk1 hk2]

set_option maxHeartbeats 1000000 in
theorem l6Makes_any {T : Nat → Tok} {A : Nat → Nat} (hT : ∀ i, (T i).c ≤ 15) (g m c : Nat) (p : Pr) (w : World) (hR : RdK w g m T A) (hi : p.i < m) (hm : m ≤ 3000) (hnd : p.nd ≤ 100) :
    Calls Try.prog 102 #[prV g m c p] w fun r w' => r = .returned (prV g m c (mkP T A p)) ∧ Below w.heap.size w w' := by
  obtain ⟨er, at_, i, nd, got⟩ := p
  have hi' : i < m := hi
  have hnd' : nd ≤ 100 := hnd
  have HR : Hid (RdK w g m T A) := hR
  have HB : Hid (∀ o1 o2, Below w.heap.size w ((w.alloc o1).alloc o2)) := fun o1 o2 => (below_alloc _ _).alloc (by simp) _
  clear hR hi hnd
  by_cases h : nd = 100
  · have HE : Hid (mkP T A ⟨er, at_, i, nd, got⟩ = failP T A ⟨er, at_, i, nd, got⟩ 4) := by
      show _ = _
      unfold mkP
      rw [if_pos h]
    have HF : Hid (∀ W, RdK W g m T A → Calls Try.prog 105 #[.agg #[.slice (some ⟨g, 0, none⟩) m c, .int .i64 (i : Int), .int .i64 (nd : Int), .int .i64 er, .int .i64 at_, .string (strT got)], .int .i64 4] W fun r w' => r = .returned (prV g m c (failP T A ⟨er, at_, i, nd, got⟩ 4)) ∧ Below W.heap.size W w') := fun W hW => l6Fail_any hT g m c ⟨er, at_, i, nd, got⟩ 4 W hW hi' hm
    have h' : (nd : Int) = 100 := by omega
    show Calls Try.prog 102 #[.agg #[.slice (some ⟨g, 0, none⟩) m c, .int .i64 (i : Int), .int .i64 (nd : Int), .int .i64 er, .int .i64 at_, .string (strT got)]] w _
    generalize strT got = S at *
    have hd : ((nd : Int) == 100) = true := by simp [h']
    clear h h'
    go_enter Try.func102, Try.ntmps102
    go_wp2_with fail
    refine (HF.out _ (HR.out.below (HB.out _ _))).mono ?_
    rintro e w1 ⟨rfl, hb⟩
    obtain ⟨q, hq⟩ : ∃ q, q = failP T A ⟨er, at_, i, nd, got⟩ 4 := ⟨_, rfl⟩
    rw [← hq]
    have HQ : Hid (q = failP T A ⟨er, at_, i, nd, got⟩ 4) := hq
    clear hq HF
    have hz : w.heap.size + 1 < w1.heap.size := by have := hb.size; simp at this; omega
    have HB1 : Hid (Below w.heap.size w w1) := (HB.out _ _).trans (hb.mono (by simp; omega))
    have hc1 : ∀ o, w1.cell? ⟨w.heap.size + 1, o, none⟩ = _ := fun o => hb.cell (p := ⟨w.heap.size + 1, o, none⟩) (by simp)
    have hf1 : ∀ o, w1.frozen? ⟨w.heap.size + 1, o, none⟩ = _ := fun o => hb.frozen (p := ⟨w.heap.size + 1, o, none⟩) (by simp)
    clear hb
    unfold prV
    go_wp2
    refine bodyPost_ret (v := prV g m c q) (by simp [prV, results, Try.results102, go_sem, hc1]) rfl ⟨by rw [HE.out, ← HQ.out], ?_⟩
    exact (((((HB1.out.setCell (by simp) _).setCell (by simp) _).setCell (by simp) _).setCell (by simp) _).setCell (by simp) _).setCell (by simp) _
  · have HE : Hid (mkP T A ⟨er, at_, i, nd, got⟩ = ⟨er, at_, i + 1, nd + 1, got⟩) := by
      show _ = _
      unfold mkP
      rw [if_neg h]
    have h' : ¬ (nd : Int) = 100 := by omega
    have e1 : IntKind.i64.wrap ((nd : Int) + 1) = (nd : Int) + 1 := by rw [IntKind.wrap_i64]; omega
    have e2 : IntKind.i64.wrap ((i : Int) + 1) = (i : Int) + 1 := by rw [IntKind.wrap_i64]; omega
    obtain ⟨S, hS⟩ : ∃ S, strT got = S := ⟨_, rfl⟩
    have HS : Hid (strT got = S) := hS
    show Calls Try.prog 102 #[.agg #[.slice (some ⟨g, 0, none⟩) m c, .int .i64 (i : Int), .int .i64 (nd : Int), .int .i64 er, .int .i64 at_, .string (strT got)]] w _
    rw [hS]
    have hd : ((nd : Int) == 100) = false := by simp [h']
    clear hS
    go_enter Try.func102, Try.ntmps102
    go_wp2
    refine bodyPost_ret (v := .agg #[.slice (some ⟨g, 0, none⟩) m c, .int .i64 ((i : Int) + 1), .int .i64 ((nd : Int) + 1), .int .i64 er, .int .i64 at_, .string S]) (by simp [results, Try.results102, go_sem]) rfl ⟨?_, HB.out _ _⟩
    rw [HE.out, ← HS.out]
    rfl

set_option maxHeartbeats 1000000 in
theorem l6Sym_any {T : Nat → Tok} {A : Nat → Nat} (hT : ∀ i, (T i).c ≤ 15) (k : Nat) (text : ByteArray) (hk : kdT k = 3) (ht : text = wdS k) (hk1 : 1 ≤ k) (hk2 : k < 14) (g m c : Nat) (p : Pr) (w : World) (hR : RdK w g m T A) (hi : p.i < m) (hm : m ≤ 3000) :
    Calls Try.prog 103 #[prV g m c p, .string text] w fun r w' => r = .returned (prV g m c (symP T A p k)) ∧ Below w.heap.size w w' := by
  obtain ⟨er, at_, i, nd, got⟩ := p
  have hi' : i < m := hi
  have HR : Hid (RdK w g m T A) := hR
  have HB : Hid (∀ o1 o2, Below w.heap.size w ((w.alloc o1).alloc o2)) := fun o1 o2 => (below_alloc _ _).alloc (by simp) _
  have HF : Hid (∀ W, RdK W g m T A → Calls Try.prog 105 #[.agg #[.slice (some ⟨g, 0, none⟩) m c, .int .i64 (i : Int), .int .i64 (nd : Int), .int .i64 er, .int .i64 at_, .string (strT got)], .int .i64 3] W fun r w' => r = .returned (prV g m c (failP T A ⟨er, at_, i, nd, got⟩ 3)) ∧ Below W.heap.size W w') := fun W hW => l6Fail_any hT g m c ⟨er, at_, i, nd, got⟩ 3 W hW hi' hm
  have HI : Hid (∀ W, RdK W g m T A → Calls Try.prog 101 #[.agg #[.slice (some ⟨g, 0, none⟩) m c, .int .i64 (i : Int), .int .i64 (nd : Int), .int .i64 er, .int .i64 at_, .string (strT got)], .int .i64 3, .string text] W fun r w' => r = .returned (.bool (decide (er = 0 ∧ (T i).c = k))) ∧ Below W.heap.size W w') := fun W hW => l6Is_c hT k 3 text hk.symm ht hk1 hk2 g m c ⟨er, at_, i, nd, got⟩ W hW hi' hm
  clear hR hi hk ht
  have e2 : IntKind.i64.wrap ((i : Int) + 1) = (i : Int) + 1 := by rw [IntKind.wrap_i64]; omega
  obtain ⟨S, hS⟩ : ∃ S, strT got = S := ⟨_, rfl⟩
  have HS : Hid (strT got = S) := hS
  rw [hS] at HF HI
  show Calls Try.prog 103 #[.agg #[.slice (some ⟨g, 0, none⟩) m c, .int .i64 (i : Int), .int .i64 (nd : Int), .int .i64 er, .int .i64 at_, .string (strT got)], .string text] w _
  rw [hS]
  clear hS
  go_enter Try.func103, Try.ntmps103
  go_wp2_with fail
  refine (HI.out _ (HR.out.below (HB.out _ _))).mono ?_
  rintro e w1 ⟨rfl, hb⟩
  have hz : w.heap.size + 1 < w1.heap.size := by have := hb.size; simp at this; omega
  have HB1 : Hid (Below w.heap.size w w1) := (HB.out _ _).trans (hb.mono (by simp; omega))
  have hc1 : ∀ b o, b < w.heap.size + 2 → w1.cell? ⟨b, o, none⟩ = _ := fun b o h => hb.cell (p := ⟨b, o, none⟩) (by simp; omega)
  have hf1 : ∀ b o, b < w.heap.size + 2 → w1.frozen? ⟨b, o, none⟩ = _ := fun b o h => hb.frozen (p := ⟨b, o, none⟩) (by simp; omega)
  clear hb HI
  by_cases h : er = 0 ∧ (T i).c = k
  · have HE : Hid (symP T A ⟨er, at_, i, nd, got⟩ k = ⟨er, at_, i + 1, nd, got⟩) := by
      show _ = _
      unfold symP
      rw [if_pos h]
    rw [decide_eq_true h]
    clear h HF
    go_wp2
    refine bodyPost_ret (v := .agg #[.slice (some ⟨g, 0, none⟩) m c, .int .i64 ((i : Int) + 1), .int .i64 (nd : Int), .int .i64 er, .int .i64 at_, .string S]) (by simp [results, Try.results103, go_sem, hc1]) rfl ⟨?_, ?_⟩
    · rw [HE.out, ← HS.out]
      rfl
    · exact ((((((HB1.out.setCell (by simp) _).setCell (by simp) _).setCell (by simp) _).setCell (by simp) _).setCell (by simp) _).setCell (by simp) _).setCell (by simp) _
  · have HE : Hid (symP T A ⟨er, at_, i, nd, got⟩ k = failP T A ⟨er, at_, i, nd, got⟩ 3) := by
      show _ = _
      unfold symP
      rw [if_neg h]
    rw [decide_eq_false h]
    clear h
    go_wp2_with fail
    refine (HF.out _ (HR.out.below HB1.out)).mono ?_
    rintro e w2 ⟨rfl, hb⟩
    obtain ⟨q, hq⟩ : ∃ q, q = failP T A ⟨er, at_, i, nd, got⟩ 3 := ⟨_, rfl⟩
    rw [← hq]
    have HQ : Hid (q = failP T A ⟨er, at_, i, nd, got⟩ 3) := hq
    clear hq HF
    have hz2 : w.heap.size + 1 < w2.heap.size := by have := hb.size; omega
    have HB2 : Hid (Below w.heap.size w w2) := HB1.out.trans (hb.mono (by omega))
    have hc2 : ∀ b o, b < w.heap.size + 2 → w2.cell? ⟨b, o, none⟩ = w1.cell? ⟨b, o, none⟩ := fun b o h => hb.cell (p := ⟨b, o, none⟩) (by show b < _; omega)
    have hf2 : ∀ b o, b < w.heap.size + 2 → w2.frozen? ⟨b, o, none⟩ = w1.frozen? ⟨b, o, none⟩ := fun b o h => hb.frozen (p := ⟨b, o, none⟩) (by show b < _; omega)
    clear hb
    unfold prV
    go_wp2
    refine bodyPost_ret (v := prV g m c q) (by simp [prV, results, Try.results103, go_sem, hc1, hc2]) rfl ⟨by rw [HE.out, ← HQ.out], ?_⟩
    exact (((((HB2.out.setCell (by simp) _).setCell (by simp) _).setCell (by simp) _).setCell (by simp) _).setCell (by simp) _).setCell (by simp) _

theorem kdT_two (c : Nat) (hc : c ≤ 15) : kdT c = 2 ↔ c = 14 := by
  unfold kdT
  constructor
  · intro h
    split at h
    · omega
    · split at h
      · assumption
      · split at h
        · omega
        · split at h <;> omega
  · intro h; rw [if_neg (by omega), if_pos h]

set_option maxHeartbeats 1000000 in
theorem l6Str_any {T : Nat → Tok} {A : Nat → Nat} (hT : ∀ i, (T i).c ≤ 15) (g m c : Nat) (p : Pr) (w : World) (hR : RdK w g m T A) (hi : p.i < m) (hm : m ≤ 3000) :
    Calls Try.prog 104 #[prV g m c p] w fun r w' => r = .returned (prV g m c (strP T A p)) ∧ Below w.heap.size w w' := by
  obtain ⟨er, at_, i, nd, got⟩ := p
  have hi' : i < m := hi
  have HR : Hid (RdK w g m T A) := hR
  obtain ⟨c1, c2, c3⟩ := hR i hi
  have b1 := World.block_lt_of_cell? _ _ c1
  have ii : (i : Int) < (m : Int) := by omega
  have i0 : ¬ (i : Int) < 0 := by omega
  have i1 : (0 : Int) ≤ (i : Int) := by omega
  have HB : Hid (∀ o1 o2, Below w.heap.size w ((w.alloc o1).alloc o2)) := fun o1 o2 => (below_alloc _ _).alloc (by simp) _
  have HF : Hid (∀ W, RdK W g m T A → Calls Try.prog 105 #[.agg #[.slice (some ⟨g, 0, none⟩) m c, .int .i64 (i : Int), .int .i64 (nd : Int), .int .i64 er, .int .i64 at_, .string (strT got)], .int .i64 3] W fun r w' => r = .returned (prV g m c (failP T A ⟨er, at_, i, nd, got⟩ 3)) ∧ Below W.heap.size W w') := fun W hW => l6Fail_any hT g m c ⟨er, at_, i, nd, got⟩ 3 W hW hi' hm
  clear hR hi c3
  have e2 : IntKind.i64.wrap ((i : Int) + 1) = (i : Int) + 1 := by rw [IntKind.wrap_i64]; omega
  obtain ⟨S, hS⟩ : ∃ S, strT got = S := ⟨_, rfl⟩
  have HS : Hid (strT got = S) := hS
  rw [hS] at HF
  have HK : Hid (kdT (T i).c = 2 ↔ (T i).c = 14) := kdT_two _ (hT i)
  show Calls Try.prog 104 #[.agg #[.slice (some ⟨g, 0, none⟩) m c, .int .i64 (i : Int), .int .i64 (nd : Int), .int .i64 er, .int .i64 at_, .string (strT got)]] w _
  rw [hS]
  clear hS
  by_cases h : er = 0 ∧ (T i).c = 14
  · have HE : Hid (strP T A ⟨er, at_, i, nd, got⟩ = ⟨er, at_, i + 1, nd, (T i).q⟩) := by
      show _ = _
      unfold strP
      rw [if_pos h]
    have e14 : kdT (T i).c = 2 := HK.out.2 h.2
    have HX : Hid (txT (T i) = strT (T i).q) := by show _ = _; unfold txT; rw [if_pos h.2]
    obtain ⟨rfl, _⟩ := h
    rw [e14] at c1
    generalize txT (T i) = X at *
    clear HF e14 HK
    go_enter Try.func104, Try.ntmps104
    go_wp2
    refine bodyPost_ret (v := .agg #[.slice (some ⟨g, 0, none⟩) m c, .int .i64 ((i : Int) + 1), .int .i64 (nd : Int), .int .i64 0, .int .i64 at_, .string X]) (by simp [results, Try.results104, go_sem]) rfl ⟨?_, HB.out _ _⟩
    rw [HE.out, HX.out]
    rfl
  · have HE : Hid (strP T A ⟨er, at_, i, nd, got⟩ = failP T A ⟨er, at_, i, nd, got⟩ 3) := by
      show _ = _
      unfold strP
      rw [if_neg h]
    by_cases h1 : er = 0
    · have h2 : ¬ kdT (T i).c = 2 := fun e => h ⟨h1, HK.out.1 e⟩
      subst h1
      have d2 : (kdT (T i).c == 2) = false := by simp [h2]
      clear HK h
      generalize kdT (T i).c = K at *
      generalize txT (T i) = X at *
      go_enter Try.func104, Try.ntmps104
      go_wp2_with fail
      refine (HF.out _ (HR.out.below (HB.out _ _))).mono ?_
      rintro e w1 ⟨rfl, hb⟩
      obtain ⟨q, hq⟩ : ∃ q, q = failP T A ⟨0, at_, i, nd, got⟩ 3 := ⟨_, rfl⟩
      rw [← hq]
      have HQ : Hid (q = failP T A ⟨0, at_, i, nd, got⟩ 3) := hq
      clear hq HF
      have hz : w.heap.size + 1 < w1.heap.size := by have := hb.size; simp at this; omega
      have HB1 : Hid (Below w.heap.size w w1) := (HB.out _ _).trans (hb.mono (by simp; omega))
      have hc1 : ∀ o, w1.cell? ⟨w.heap.size + 1, o, none⟩ = _ := fun o => hb.cell (p := ⟨w.heap.size + 1, o, none⟩) (by simp)
      have hf1 : ∀ o, w1.frozen? ⟨w.heap.size + 1, o, none⟩ = _ := fun o => hb.frozen (p := ⟨w.heap.size + 1, o, none⟩) (by simp)
      clear hb
      unfold prV
      go_wp2
      refine bodyPost_ret (v := prV g m c q) (by simp [prV, results, Try.results104, go_sem, hc1]) rfl ⟨by rw [HE.out, ← HQ.out], ?_⟩
      exact (((((HB1.out.setCell (by simp) _).setCell (by simp) _).setCell (by simp) _).setCell (by simp) _).setCell (by simp) _).setCell (by simp) _
    · have d2 : (er == 0) = false := by simp [h1]
      clear HK h c1 c2
      go_enter Try.func104, Try.ntmps104
      go_wp2_with fail
      refine (HF.out _ (HR.out.below (HB.out _ _))).mono ?_
      rintro e w1 ⟨rfl, hb⟩
      obtain ⟨q, hq⟩ : ∃ q, q = failP T A ⟨er, at_, i, nd, got⟩ 3 := ⟨_, rfl⟩
      rw [← hq]
      have HQ : Hid (q = failP T A ⟨er, at_, i, nd, got⟩ 3) := hq
      clear hq HF
      have hz : w.heap.size + 1 < w1.heap.size := by have := hb.size; simp at this; omega
      have HB1 : Hid (Below w.heap.size w w1) := (HB.out _ _).trans (hb.mono (by simp; omega))
      have hc1 : ∀ o, w1.cell? ⟨w.heap.size + 1, o, none⟩ = _ := fun o => hb.cell (p := ⟨w.heap.size + 1, o, none⟩) (by simp)
      have hf1 : ∀ o, w1.frozen? ⟨w.heap.size + 1, o, none⟩ = _ := fun o => hb.frozen (p := ⟨w.heap.size + 1, o, none⟩) (by simp)
      clear hb
      unfold prV
      go_wp2
      refine bodyPost_ret (v := prV g m c q) (by simp [prV, results, Try.results104, go_sem, hc1]) rfl ⟨by rw [HE.out, ← HQ.out], ?_⟩
      exact (((((HB1.out.setCell (by simp) _).setCell (by simp) _).setCell (by simp) _).setCell (by simp) _).setCell (by simp) _).setCell (by simp) _
end Go.Proofs.Ytocmbnocdjnfpaa

namespace Go.Proofs.Ytocmbnocdjnfpaa
open Go.RowKit Go.Deep
set_option linter.unusedVariables false
set_option linter.unusedSimpArgs false
set_option maxRecDepth 100000

def ixT (c : Nat) : Nat := if 6 ≤ c ∧ c ≤ 8 then c else 0

set_option maxHeartbeats 1000000 in
theorem l6Infix_v (K a : Int) (X : ByteArray) (w : World) :
    Calls Try.prog 107 #[.agg #[.int .i64 K, .string X, .int .i64 a]] w fun r w' => r = .returned (.int .i64 (if K = 3 then (if (X.toList == [38]) = true then 6 else if (X.toList == [124]) = true then 7 else if (X.toList == [45]) = true then 8 else 0) else 0)) ∧ Below w.heap.size w w' := by
  have HB : Hid (∀ o1, Below w.heap.size w (w.alloc o1)) := fun o1 => below_alloc _ _
  by_cases h5 : K = 3
  · subst h5
    cases h6 : (X.toList == [38]) with
    | true =>
      go_enter Try.func107, Try.ntmps107
      go_wp2
      go_ret
      exact ⟨by simp, HB.out _⟩
    | false =>
      cases h7 : (X.toList == [124]) with
      | true =>
        go_enter Try.func107, Try.ntmps107
        go_wp2
        go_ret
        exact ⟨by simp, HB.out _⟩
      | false =>
        cases h8 : (X.toList == [45]) with
        | true =>
          go_enter Try.func107, Try.ntmps107
          go_wp2
          go_ret
          exact ⟨by simp, HB.out _⟩
        | false =>
          go_enter Try.func107, Try.ntmps107
          go_wp2
          go_ret
          exact ⟨by simp, HB.out _⟩
  · have d5 : (K == 3) = false := by simp [h5]
    go_enter Try.func107, Try.ntmps107
    go_wp2
    go_ret
    exact ⟨by simp [h5], HB.out _⟩

theorem l6Infix_any (t : Tok) (h : t.c ≤ 15) (a : Int) (w : World) :
    Calls Try.prog 107 #[.agg #[.int .i64 (kdT t.c), .string (txT t), .int .i64 a]] w fun r w' => r = .returned (.int .i64 (ixT t.c : Int)) ∧ Below w.heap.size w w' := by
  refine (l6Infix_v _ a _ w).mono ?_
  rintro e w' ⟨rfl, hb⟩
  refine ⟨?_, hb⟩
  congr 2
  have t6 := tok_iff t h 6 (by omega) (by omega)
  have t7 := tok_iff t h 7 (by omega) (by omega)
  have t8 := tok_iff t h 8 (by omega) (by omega)
  have k6 : kdT 6 = 3 := rfl
  have k7 : kdT 7 = 3 := rfl
  have k8 : kdT 8 = 3 := rfl
  rw [k6] at t6
  rw [k7] at t7
  rw [k8] at t8
  have w6 : (wdS 6).toList = [38] := by rw [ByteArray.toList_eq]; rfl
  have w7 : (wdS 7).toList = [124] := by rw [ByteArray.toList_eq]; rfl
  have w8 : (wdS 8).toList = [45] := by rw [ByteArray.toList_eq]; rfl
  rw [w6] at t6
  rw [w7] at t7
  rw [w8] at t8
  unfold ixT
  by_cases h3 : kdT t.c = 3
  · rw [if_pos h3]
    by_cases a6 : t.c = 6
    · rw [if_pos (t6.2 a6).2, a6]; rfl
    · rw [if_neg (fun e => a6 (t6.1 ⟨h3, e⟩))]
      by_cases a7 : t.c = 7
      · rw [if_pos (t7.2 a7).2, a7]; rfl
      · rw [if_neg (fun e => a7 (t7.1 ⟨h3, e⟩))]
        by_cases a8 : t.c = 8
        · rw [if_pos (t8.2 a8).2, a8]; rfl
        · rw [if_neg (fun e => a8 (t8.1 ⟨h3, e⟩)), if_neg (by omega)]; rfl
  · rw [if_neg h3]
    have n6 : t.c ≠ 6 := fun e => h3 (t6.2 e).1
    have n7 : t.c ≠ 7 := fun e => h3 (t7.2 e).1
    have n8 : t.c ≠ 8 := fun e => h3 (t8.2 e).1
    rw [if_neg (by omega)]; rfl

theorem l6Stg_any (k : Nat) (w : World) (hk : k ≤ 15) : Calls Try.prog 109 #[.int .i64 (k : Int)] w fun r w' => r = .returned (.int .i64 (stg k : Int)) ∧ w' = w := by
  by_cases h6 : k = 6
  · subst h6
    go_enter Try.func109, Try.ntmps109
    go_wp2
    go_ret
    exact ⟨rfl, rfl⟩
  · have i6 : ¬ (k : Int) = 6 := by omega
    have d6 : ((k : Int) == 6) = false := by simp [i6]
    by_cases h7 : k = 7
    · subst h7
      go_enter Try.func109, Try.ntmps109
      go_wp2
      go_ret
      exact ⟨rfl, rfl⟩
    · have i7 : ¬ (k : Int) = 7 := by omega
      have d7 : ((k : Int) == 7) = false := by simp [i7]
      by_cases h8 : k = 8
      · subst h8
        go_enter Try.func109, Try.ntmps109
        go_wp2
        go_ret
        exact ⟨rfl, rfl⟩
      · have i8 : ¬ (k : Int) = 8 := by omega
        have d8 : ((k : Int) == 8) = false := by simp [i8]
        have HE : Hid (stg k = 0) := by show _ = _; unfold stg; rw [if_neg h6, if_neg (by omega)]
        go_enter Try.func109, Try.ntmps109
        go_wp2
        go_ret
        exact ⟨by rw [HE.out]; rfl, rfl⟩

/-- A row of nodes to which can be appended. -/
def ndC (x : Nd) : List Value := [.int .i64 (x.k : Int), .string (strT x.s), .string (strT x.t)]
def ndR (l : List Nd) : List Value := l.flatMap ndC
theorem ndC_length (x : Nd) : (ndC x).length = 3 := rfl
theorem ndR_length (l : List Nd) : (ndR l).length = l.length * 3 := by
  unfold ndR
  induction l with
  | nil => rfl
  | cons a l ih => rw [List.flatMap_cons, List.length_append, ih, ndC_length, List.length_cons]; omega
theorem ndR_app (a b : List Nd) : ndR (a ++ b) = ndR a ++ ndR b := List.flatMap_append
theorem ndR_one (l : List Nd) : ∀ u ∈ ndR l, u.oneCell' = true := by
  intro u hu
  unfold ndR at hu
  obtain ⟨x, _, hx⟩ := List.mem_flatMap.1 hu
  simp [ndC] at hx
  rcases hx with rfl | rfl | rfl <;> rfl
theorem infoPN : (Try.prog.info? 61).map (fun i => (i.zero, i.size, i.bytes)) = some (some (.agg #[.int .i64 0, .string { data := #[] }, .string { data := #[] }]), 3, 40) := by kernel_rfl
theorem infoEN : (Try.prog.info? 149).map (fun i => (i.zero, i.size, i.bytes)) = some (some (.agg #[.int .i64 0, .string { data := #[] }]), 2, 24) := by kernel_rfl
theorem infoTK : (Try.prog.info? 144).map (fun i => (i.zero, i.size, i.bytes)) = some (some (.agg #[.int .i64 0, .string { data := #[] }, .int .i64 0]), 3, 32) := by kernel_rfl
end Go.Proofs.Ytocmbnocdjnfpaa

namespace Go.Proofs.Ytocmbnocdjnfpaa
open Go.RowKit Go.Deep
set_option linter.unusedVariables false
set_option linter.unusedSimpArgs false
set_option maxRecDepth 100000

/-- Two can come up. -/
theorem tk2 {l : List Oper} {P : Program} {Q : Exit → Act → World → Prop} {S : World → Prop} {late : Nat} (i j : Nat) {oi oj : Oper} (hpi : Pick i l oi) (hpj : Pick j l oj) {fuel : Nat} {listed : Array Bool} {a : Act} {w : World}
    (hi : ∀ K' : Act → World → Prop, Shut (∀ a w, (i ≠ late → S w) → ((i ≠ late → S w) → wpLate P .any l.toArray Q S late fuel (listed.setIfInBounds i true) a w) → K' a w) → if Region.wanted oi (yielded l.toArray a.tmps) = true then Oper.wp P oi a w K' Q else K' (a.put oi.dst undef) w)
    (hj : ∀ K' : Act → World → Prop, Shut (∀ a w, (j ≠ late → S w) → ((j ≠ late → S w) → wpLate P .any l.toArray Q S late fuel (listed.setIfInBounds j true) a w) → K' a w) → if Region.wanted oj (yielded l.toArray a.tmps) = true then Oper.wp P oj a w K' Q else K' (a.put oj.dst undef) w)
    (hr : Region.ready .any l.toArray listed = [i, j] := by kernel_rfl) : wpLate P .any l.toArray Q S late (fuel + 1) listed a w :=
  ⟨fun h0 => (by rw [hr] at h0; cases h0), fun k hk => by
    rw [hr] at hk
    rcases List.mem_cons.1 hk with e | hk
    · subst e
      exact wpOp_step hpi.get (fun K' hK => hi K' (fun a w hS hW => hK a w ⟨hS, hW hS⟩))
    · have e : k = j := by simpa using hk
      subst e
      exact wpOp_step hpj.get (fun K' hK => hj K' (fun a w hS hW => hK a w ⟨hS, hW hS⟩))⟩

theorem strOfNums_T (l : List Int) : strOfNums l = strT l := rfl
theorem lf_map (q : List Int) : (List.range q.length).map (lf q) = q := by
  apply List.ext_getElem (by simp)
  intro i h1 h2
  simp at h1 h2 ⊢
  unfold lf
  rw [List.getD_eq_getElem?_getD, List.getElem?_eq_getElem h1]
  rfl
/-- Bytes turned into a string. -/
theorem conv_T {w : World} {a : Option Addr} {q : List Int} (n c : Nat) (hn : n = q.length) (h : Rd .u8 w a n (lf q)) : (convert 33 9 (.slice a n c)).run Try.prog w = .ok (.string (strT q)) w := by
  subst hn
  by_cases h0 : q = []
  · subst h0
    cases a with
    | none => exact run_convert_bytes_nil (P := Try.prog) w 33 5 (by kernel_rfl) (by kernel_rfl) 0 c 9 (by kernel_rfl)
    | some x =>
      show (convert 33 9 (.slice (some x) 0 c)).run Try.prog w = _
      rw [run_convert_bytes_string (P := Try.prog) w 33 9 5 _ 0 c (by kernel_rfl) (by kernel_rfl) (by kernel_rfl)]
      simp [Conv.bytesToString, loadCells]
      rfl
  · rcases h with h1 | ⟨b, off, rfl, hc⟩
    · exact absurd (List.length_eq_zero_iff.1 h1) h0
    · have := run_convert_bytes_arg (P := Try.prog) w 33 5 (by kernel_rfl) (by kernel_rfl) b off q.length c ((List.range q.length).map (lf q)) (by simp) (fun i hi => by rw [hc i hi]; simp [List.getD, hi]) 9 (by kernel_rfl)
      rw [this, lf_map, strOfNums_T]
theorem strT_size (q : List Int) : (strT q).size = q.length := by unfold strT; simp [ByteArray.size]
theorem txS_T (q : List Int) : txS (strT q) = decide (1 ≤ q.length ∧ q.length ≤ 30) := by
  unfold txS
  rw [strT_size]
  by_cases h1 : 1 ≤ q.length <;> by_cases h2 : q.length ≤ 30 <;> simp [h1, h2]

theorem stepT1 {ops : Array Oper} {o : Oper} {a : Act} {w : World} {K : Act → World → Prop} {Q : Exit → Act → World → Prop} {E : Prop} (hgd : o.guard = none) (k : Nat) (i : Nat) (tys : Array TypeId)
    (ho : o.op = .call { callee := .value (.func k), args := #[.tmp i], argTypes := tys }) (u : Value) (hx : a.tmps[i]?.getD undef = u) (heg : ∀ args w, (callFunc k args).run Try.prog w = .ok (.enter k args) w)
    (h : Calls Try.prog k #[u] w fun e w' => ∃ r, e = .returned r ∧ K (a.put o.dst r) w') :
    if Region.wanted o (yielded ops a.tmps) = true then Oper.wp Try.prog o a w K Q else E := by
  have hw : Region.wanted o (yielded ops a.tmps) = true := by simp [Region.wanted, hgd]
  rw [if_pos hw]
  unfold Oper.wp
  simp [execOp, ho, resolve, invoke, hx, go_sem, heg]
  refine h.mono ?_
  rintro e w' ⟨u, rfl, hk⟩
  exact hk
theorem step_appb {ops : Array Oper} {o : Oper} {act : Act} {w : World} {K : Act → World → Prop} {Q : Exit → Act → World → Prop} {E : Prop} (hgd : o.guard = none) (s x : Operand)
    (ho : o.op = .call { callee := .builtin .append, args := #[s, x], argTypes := #[33, 33] })
    (B : Nat) (v : Value) (n : Nat) (l : List Int) (hs : act.eval s = v) (hown : TxA w B v n l)
    (a : Addr) (m c : Nat) (y : List Int) (hx : act.eval x = .slice (some a) m c) (hm : m = y.length) (hm0 : 0 < m) (hrd : ∀ j u, (bv y)[j]? = some u → w.cell? (Addr.add a j) = some u) (hnm : n + m ≤ 1099511627776) (hB : B ≤ w.heap.size)
    (h : ∀ v' w', TxA w' B v' (n + m) (l ++ y) → Below B w w' → K (act.put o.dst v') w') :
    if Region.wanted o (yielded ops act.tmps) = true then Oper.wp Try.prog o act w K Q else E := by
  have hw : Region.wanted o (yielded ops act.tmps) = true := by simp [Region.wanted, hgd]
  rw [if_pos hw]
  obtain ⟨v', w', hrun, r1, r2⟩ := app_run (c := c) o.type hown hm hm0 hrd hnm hB
  unfold Oper.wp
  simp [execOp, ho, resolve, invoke, builtin, hs, hx, hrun, Result.andThen]
  exact h v' w' r1 r2
theorem TxA.drew {w : World} {B n : Nat} {v : Value} {l : List Int} (h : TxA w B v n l) : TxA w.drew B v n l := h

/-- What l6Quoted gives back. -/
def QRet (f : Nat → Int) (n i : Nat) (w : World) (e : Ending) (w' : World) : Prop :=
  ∃ ok s k, e = .returned (.tuple #[.bool ok, .string s, .int .i64 k]) ∧ Below w.heap.size w w' ∧
    ((∃ q k', quoF f n (i + 1) [] = some (q, k') ∧ ok = true ∧ s = strT q ∧ k = (k' : Int)) ∨ (quoF f n (i + 1) [] = none ∧ ok = false))

set_option maxHeartbeats 4000000 in
theorem l6Quoted_any (a : Option Addr) (n c i : Nat) (f : Nat → Int) (w : World) (h : Rd .u8 w a n f) (hn : n ≤ 2000) (hi : i < n) (hf : ∀ i, i < n → 0 ≤ f i ∧ f i < 256) :
    Calls Try.prog 111 #[.slice a n c, .int .i64 (i : Int)] w (QRet f n i w) := by
  rcases h with h | ⟨b, off, rfl, hc⟩
  · omega
  have HC : Hid (∀ i, i < n → w.cell? ⟨b, off + i, none⟩ = some (.int .u8 (f i))) := hc
  have HFB : Hid (∀ i, i < n → 0 ≤ f i ∧ f i < 256) := hf
  have e1 : IntKind.i64.wrap ((i : Int) + 1) = ((i + 1 : Nat) : Int) := by rw [IntKind.wrap_i64]; omega
  obtain ⟨j0, hj0⟩ : ∃ j0, j0 = i + 1 := ⟨_, rfl⟩
  have HJ0 : Hid (j0 = i + 1) := hj0
  rw [← hj0] at e1
  have hj0n : j0 ≤ n := by omega
  clear hc hf hj0 hi
  go_enter Try.func111, Try.ntmps111
  go_wp2
  go_loopw [7, 8] (fun u v wr => ∃ (j : Nat) (q : List Int), v = .int .i64 (j : Int) ∧ j ≤ n ∧ quoF f n j0 [] = quoF f n j q ∧ q.length ≤ j ∧ TxA wr w.heap.size u q.length q ∧ Below w.heap.size w wr) (fun _ v _ => n - (intOf v).toNat)
  case atStart => exact ⟨j0, [], rfl, hj0n, rfl, Nat.zero_le _, ⟨rfl, .inl (World.ownsRow_lit w #[] 0 (Nat.le_refl _) (Nat.zero_le _) rfl)⟩, (Below.refl _ _).alloc (Nat.le_refl _) _⟩
  case round =>
    obtain ⟨j, q, rfl, hj, hq, hql, hown, hbel⟩ := hrel
    have hsz := hbel.size
    have HB : Hid (Below w.heap.size w wr) := hbel
    have HO : Hid (TxA wr w.heap.size u7 q.length q ∧ quoF f n j0 [] = quoF f n j q) := ⟨hown, hq⟩
    clear hown hbel hq
    obtain ⟨j1, hj1⟩ : ∃ j1, j1 = j + 1 := ⟨_, rfl⟩
    obtain ⟨j2, hj2⟩ : ∃ j2, j2 = j + 2 := ⟨_, rfl⟩
    obtain ⟨j3, hj3⟩ : ∃ j3, j3 = j + 3 := ⟨_, rfl⟩
    obtain ⟨j4, hj4⟩ : ∃ j4, j4 = j + 4 := ⟨_, rfl⟩
    have w1 : IntKind.i64.wrap ((j : Int) + 1) = (j1 : Int) := by rw [IntKind.wrap_i64]; omega
    have w2 : IntKind.i64.wrap ((j : Int) + 2) = (j2 : Int) := by rw [IntKind.wrap_i64]; omega
    have w3 : IntKind.i64.wrap ((j : Int) + 3) = (j3 : Int) := by rw [IntKind.wrap_i64]; omega
    have w4 : IntKind.i64.wrap ((j : Int) + 4) = (j4 : Int) := by rw [IntKind.wrap_i64]; omega
    have HJ : Hid (j1 = j + 1 ∧ j2 = j + 2 ∧ j3 = j + 3 ∧ j4 = j + 4) := ⟨hj1, hj2, hj3, hj4⟩
    have nn1 : (0 : Int) ≤ (j1 : Int) := by omega
    have nn2 : (0 : Int) ≤ (j2 : Int) := by omega
    have nn3 : (0 : Int) ≤ (j3 : Int) := by omega
    have CL : ∀ k, k < n → wr.cell? ⟨b, off + k, none⟩ = some (.int .u8 (f k)) := fun k hk => by
      rw [HB.out.cell (p := ⟨b, off + k, none⟩) (World.block_lt_of_cell? _ _ (HC.out k hk))]; exact HC.out k hk
    by_cases hlt : j < n
    · have ij : (j : Int) < (n : Int) := by omega
      have ij0 : ¬ (j : Int) < 0 := by omega
      have ij1 : (0 : Int) ≤ (j : Int) := by omega
      have cj := CL j hlt
      obtain ⟨x, hx⟩ : ∃ x, x = f j := ⟨_, rfl⟩
      have HX : Hid (x = f j) := hx
      have hx0 : 0 ≤ x ∧ x < 256 := by rw [hx]; exact HFB.out j hlt
      obtain ⟨hx0, hx1⟩ := hx0
      rw [← hx] at cj
      clear hx
      by_cases h34 : x = 34
      · subst h34
        obtain ⟨aq, cq, hu, hrd, _⟩ := HO.out.1.rd
        have HE : Hid (quoF f n (i + 1) [] = if 1 ≤ q.length ∧ q.length ≤ 30 then some (q, j1) else none) := by
          show _ = _
          rw [← HJ0.out, HO.out.2, quoF_end (by omega) (by rw [← HX.out]; exact fun e => e.2 rfl), hj1]
          by_cases h : 1 ≤ q.length ∧ q.length ≤ 30
          · rw [if_pos ⟨hlt, h⟩, if_pos h]
          · rw [if_neg (fun e => h e.2), if_neg h]
        have cv1 := conv_T (w := wr) q.length cq rfl hrd
        have cv2 : ∀ k, (convert 33 9 (.slice aq q.length cq)).run Try.prog (wr.drewN k) = .ok (.string (strT q)) (wr.drewN k) := fun k => conv_T (w := wr.drewN k) q.length cq rfl hrd
        have HTX : Hid (∀ W, Calls Try.prog 75 #[.string (strT q)] W fun e w' => e = .returned (.bool (decide (1 ≤ q.length ∧ q.length ≤ 30))) ∧ w' = W) := fun W => by
          rw [← txS_T]
          exact l6Text_any _ W
        have HSS : Hid (∃ Y, Y = strT q) := ⟨_, rfl⟩
        obtain ⟨Y, hY⟩ := HSS.out
        have HYY : Hid (Y = strT q) := hY
        rw [← hY] at cv1 cv2 HTX
        clear hrd CL hj1 hj2 hj3 hj4 hY HSS
        obtain rfl : u7 = .slice aq q.length cq := hu
        obtain ⟨N, hN⟩ : ∃ N, N = q.length := ⟨_, rfl⟩
        have HN : Hid (N = q.length) := hN
        obtain ⟨ok, hok⟩ : ∃ ok, ok = decide (1 ≤ q.length ∧ q.length ≤ 30) := ⟨_, rfl⟩
        have HOK : Hid (ok = decide (1 ≤ q.length ∧ q.length ≤ 30)) := hok
        rw [← hok] at HTX
        rw [← hN] at cv1 cv2 ⊢
        clear hok hN
        have dlt : decide ((j : Int) < (n : Int)) = true := decide_eq_true ij
        go_wp2_with fail
        go_quiet (first | (go_at_call 75; refine Calls.quiet_of_same (HTX.out _)))
        go_wp2
        refine bodyPost_ret (v := .tuple #[.bool ok, .string Y, .int .i64 (j1 : Int)]) (by simp [results, Try.results111, go_sem]) rfl ⟨ok, Y, _, rfl, below_drewN HB.out _, ?_⟩
        by_cases h : 1 ≤ q.length ∧ q.length ≤ 30
        · exact Or.inl ⟨q, j1, by rw [HE.out, if_pos h], by rw [HOK.out]; exact decide_eq_true h, HYY.out, rfl⟩
        · exact Or.inr ⟨by rw [HE.out, if_neg h], by rw [HOK.out]; exact decide_eq_false h⟩
      have d34 : (x == 34) = false := by simp [h34]
      have HNO : Hid (pcB f n j = none → quoF f n (i + 1) [] = none) := fun e => by
        rw [← HJ0.out, HO.out.2]
        exact quoF_bad hlt (by rw [← HX.out]; exact h34) e
      have HGO : Hid (∀ c l, pcB f n j = some (c, l) → quoF f n j0 [] = quoF f n (j + l) (q ++ [c])) := fun c l e => by
        rw [HO.out.2]
        exact quoF_go hlt (by rw [← HX.out]; exact h34) e
      by_cases h32 : x < 32
      · have HP : Hid (pcB f n j = none) := by show _ = _; unfold pcB; rw [← HX.out, if_neg (by omega), if_neg (by omega)]
        have d32 : decide (x < 32) = true := decide_eq_true h32
        clear CL hj1 hj2 hj3 hj4
        go_wp2
        refine bodyPost_ret (v := .tuple #[.bool false, .string { data := #[] }, .int .i64 (j : Int)]) (by simp [results, Try.results111, go_sem]) rfl ⟨false, _, _, rfl, HB.out, Or.inr ⟨HNO.out HP.out, rfl⟩⟩
      have d32 : decide (x < 32) = false := decide_eq_false h32
      by_cases h126 : 126 < x
      · have HP : Hid (pcB f n j = none) := by show _ = _; unfold pcB; rw [← HX.out, if_neg (by omega), if_neg (by omega)]
        have d126 : decide (126 < x) = true := decide_eq_true h126
        clear CL hj1 hj2 hj3 hj4
        go_wp2
        refine bodyPost_ret (v := .tuple #[.bool false, .string { data := #[] }, .int .i64 (j : Int)]) (by simp [results, Try.results111, go_sem]) rfl ⟨false, _, _, rfl, HB.out, Or.inr ⟨HNO.out HP.out, rfl⟩⟩
      have d126 : decide (126 < x) = false := decide_eq_false h126
      by_cases h92 : x = 92
      · subst h92
        have HX92 : Hid (f j = 92) := HX.out.symm
        by_cases hl1 : j1 < n
        · have il1 : (j1 : Int) < (n : Int) := by omega
          have dl1 : decide ((j1 : Int) < (n : Int)) = true := decide_eq_true il1
          have cj1 := CL j1 hl1
          obtain ⟨y, hy⟩ : ∃ y, y = f j1 := ⟨_, rfl⟩
          have HY : Hid (y = f (j + 1)) := by show _ = _; rw [hy, hj1]
          rw [← hy] at cj1
          clear hy
          by_cases hy34 : y = 34
          · subst hy34
            have HP : Hid (pcB f n j = some (34, 2)) := by show _ = _; unfold pcB; rw [HX92.out, if_pos rfl, ← HY.out, if_pos ⟨by omega, Or.inl rfl⟩]
            clear CL hj1 hj2 hj3 hj4
            go_wp2_with (at_builtin; refine app_b rfl _ _ rfl w.heap.size _ q.length q rfl (HO.out.1.below (below_alloc _ _)) ⟨wr.heap.size, 0, none⟩ 1 1 [34] rfl rfl (by omega) (new_cells _ [.int .u8 34] _) (by omega) (by simp; omega) ?_)
            intro v' wq hown' hgrow
            have HX2 : Hid (TxA wq w.heap.size v' (q.length + 1) (q ++ [34]) ∧ Below w.heap.size w wq) := ⟨hown', (HB.out.alloc hsz _).trans hgrow⟩
            clear hown' hgrow
            go_wp2
            go_roundw
            case rel =>
              have hp := pcB_pos HP.out (by omega)
              refine ⟨j2, q ++ [34], rfl, by have := HJ.out; omega, ?_, by rw [List.length_append, List.length_singleton]; have := HJ.out; omega, ?_, HX2.out.2⟩
              · rw [HGO.out _ _ HP.out]
                have := HJ.out
                rw [show j + 2 = j2 by omega]
              · rw [List.length_append]
                exact HX2.out.1
            case measure => have := HJ.out; simp [intOf]; omega
          by_cases hy92 : y = 92
          · subst hy92
            have HP : Hid (pcB f n j = some (92, 2)) := by show _ = _; unfold pcB; rw [HX92.out, if_pos rfl, ← HY.out, if_pos ⟨by omega, Or.inr rfl⟩]
            clear CL hj1 hj2 hj3 hj4
            go_wp2_with (at_builtin; refine app_b rfl _ _ rfl w.heap.size _ q.length q rfl (HO.out.1.below (below_alloc _ _)) ⟨wr.heap.size, 0, none⟩ 1 1 [92] rfl rfl (by omega) (new_cells _ [.int .u8 92] _) (by omega) (by simp; omega) ?_)
            intro v' wq hown' hgrow
            have HX2 : Hid (TxA wq w.heap.size v' (q.length + 1) (q ++ [92]) ∧ Below w.heap.size w wq) := ⟨hown', (HB.out.alloc hsz _).trans hgrow⟩
            clear hown' hgrow
            go_wp2
            go_roundw
            case rel =>
              have hp := pcB_pos HP.out (by omega)
              refine ⟨j2, q ++ [92], rfl, by have := HJ.out; omega, ?_, by rw [List.length_append, List.length_singleton]; have := HJ.out; omega, ?_, HX2.out.2⟩
              · rw [HGO.out _ _ HP.out]
                have := HJ.out
                rw [show j + 2 = j2 by omega]
              · rw [List.length_append]
                exact HX2.out.1
            case measure => have := HJ.out; simp [intOf]; omega
          have dy34 : (y == 34) = false := by simp [hy34]
          have dy92 : (y == 92) = false := by simp [hy92]
          by_cases hl3 : j3 < n
          · have il3 : (j3 : Int) < (n : Int) := by omega
            have il2 : (j2 : Int) < (n : Int) := by omega
            have dl3 : decide ((j3 : Int) < (n : Int)) = true := decide_eq_true il3
            have cj2 := CL j2 (by omega)
            have cj3 := CL j3 hl3
            obtain ⟨y2, hy2⟩ : ∃ y, y = f j2 := ⟨_, rfl⟩
            obtain ⟨y3, hy3⟩ : ∃ y, y = f j3 := ⟨_, rfl⟩
            have HY2 : Hid (y2 = f (j + 2) ∧ y3 = f (j + 3)) := ⟨by rw [hy2, hj2], by rw [hy3, hj3]⟩
            have b2 : 0 ≤ y2 ∧ y2 < 256 := by rw [hy2]; exact HFB.out _ (by omega)
            have b3 : 0 ≤ y3 ∧ y3 < 256 := by rw [hy3]; exact HFB.out _ hl3
            obtain ⟨b20, b21⟩ := b2
            obtain ⟨b30, b31⟩ := b3
            rw [← hy2] at cj2
            rw [← hy3] at cj3
            clear hy2 hy3
            by_cases h120 : y = 120
            · subst h120
              by_cases hv2 : 0 ≤ hxV y2
              · have dv2 : decide (0 ≤ hxV y2) = true := decide_eq_true hv2
                by_cases hv3 : 0 ≤ hxV y3
                · have dv3 : decide (0 ≤ hxV y3) = true := decide_eq_true hv3
                  have hl2 := hxV_lt y2
                  have hl3 := hxV_lt y3
                  have HP : Hid (pcB f n j = some (16 * hxV y2 + hxV y3, 4)) := by
                    show _ = _
                    unfold pcB
                    rw [HX92.out, if_pos rfl, ← HY.out, if_neg (by omega), ← HY2.out.1, ← HY2.out.2, if_pos ⟨by omega, rfl, hv2, hv3⟩]
                  have HF2 : Hid (∀ W, Calls Try.prog 134 #[.int .u8 y2] W fun e w' => e = .returned (.int .i64 (hxV y2)) ∧ w' = W) := fun W => l6Hex_any y2 W b20 b21
                  have HF3 : Hid (∀ W, Calls Try.prog 134 #[.int .u8 y3] W fun e w' => e = .returned (.int .i64 (hxV y3)) ∧ w' = W) := fun W => l6Hex_any y3 W b30 b31
                  clear CL hj1 hj2 hj3 hj4
                  generalize hxV y2 = z2 at *
                  generalize hxV y3 = z3 at *
                  obtain ⟨z, hz⟩ : ∃ z, z = 16 * z2 + z3 := ⟨_, rfl⟩
                  have HZ : Hid (z = 16 * z2 + z3) := hz
                  have m1 : IntKind.i64.wrap (16 * z2) = 16 * z2 := by rw [IntKind.wrap_i64]; omega
                  have m2 : IntKind.i64.wrap (16 * z2 + z3) = z := by rw [IntKind.wrap_i64]; omega
                  have m3 : IntKind.u8.wrap z = z := by simp [IntKind.wrap, IntKind.bits, IntKind.signed]; omega
                  clear hz
                  go_wp2_with fail
                  refine (HF2.out _).mono ?_
                  rintro e w8 ⟨rfl, hw8⟩
                  rw [hw8]
                  clear hw8 w8
                  go_wp2_with fail
                  refine (HF3.out _).mono ?_
                  rintro e w8 ⟨rfl, hw8⟩
                  rw [hw8]
                  clear hw8 w8
                  go_wp2_with fail
                  refine wp_region_late (S := fun W => W.cell? ⟨b, off + j2, none⟩ = some (.int .u8 y2) ∧ W.cell? ⟨b, off + j3, none⟩ = some (.int .u8 y3)) 18 (by kernel_rfl) ⟨cj2, cj3⟩ (fun hHeld => ?_)
                  refine tk 0 .zero (v := ?_) ?_ ?_
                  rotate_left
                  · (intro w0 hSw; obtain ⟨q2, q3⟩ := hSw; go_simp) <;> with_reducible rfl
                  simp only [tkp]
                  refine tk 1 (.succ .zero) (v := ?_) ?_ ?_
                  rotate_left
                  · (intro w0 hSw; obtain ⟨q2, q3⟩ := hSw; go_simp) <;> with_reducible rfl
                  simp only [tkp]
                  refine tk 2 (.succ (.succ .zero)) (v := ?_) ?_ ?_
                  rotate_left
                  · (intro w0 hSw; obtain ⟨q2, q3⟩ := hSw; go_simp) <;> with_reducible rfl
                  simp only [tkp]
                  refine tk 3 (.succ (.succ (.succ .zero))) (v := ?_) ?_ ?_
                  rotate_left
                  · (intro w0 hSw; obtain ⟨q2, q3⟩ := hSw; go_simp) <;> with_reducible rfl
                  simp only [tkp]
                  refine tk 4 (.succ (.succ (.succ (.succ .zero)))) (v := ?_) ?_ ?_
                  rotate_left
                  · (intro w0 hSw; obtain ⟨q2, q3⟩ := hSw; go_simp) <;> with_reducible rfl
                  simp only [tkp]
                  refine tk 5 (.succ (.succ (.succ (.succ (.succ .zero))))) (v := ?_) ?_ ?_
                  rotate_left
                  · (intro w0 hSw; obtain ⟨q2, q3⟩ := hSw; go_simp) <;> with_reducible rfl
                  simp only [tkp]
                  refine tk 8 (.succ (.succ (.succ (.succ (.succ (.succ (.succ (.succ .zero)))))))) (v := ?_) ?_ ?_
                  rotate_left
                  · (intro w0 hSw; obtain ⟨q2, q3⟩ := hSw; go_simp) <;> with_reducible rfl
                  simp only [tkp]
                  refine tk 9 (.succ (.succ (.succ (.succ (.succ (.succ (.succ (.succ (.succ .zero))))))))) (v := ?_) ?_ ?_
                  rotate_left
                  · (intro w0 hSw; obtain ⟨q2, q3⟩ := hSw; go_simp) <;> with_reducible rfl
                  simp only [tkp]
                  refine tk 10 (.succ (.succ (.succ (.succ (.succ (.succ (.succ (.succ (.succ (.succ .zero)))))))))) (v := ?_) ?_ ?_
                  rotate_left
                  · (intro w0 hSw; obtain ⟨q2, q3⟩ := hSw; go_simp) <;> with_reducible rfl
                  simp only [tkp]
                  refine tk 11 (.succ (.succ (.succ (.succ (.succ (.succ (.succ (.succ (.succ (.succ (.succ .zero))))))))))) (v := ?_) ?_ ?_
                  rotate_left
                  · (intro w0 hSw; obtain ⟨q2, q3⟩ := hSw; go_simp) <;> with_reducible rfl
                  simp only [tkp]
                  refine tk 12 (.succ (.succ (.succ (.succ (.succ (.succ (.succ (.succ (.succ (.succ (.succ (.succ .zero)))))))))))) (v := ?_) ?_ ?_
                  rotate_left
                  · (intro w0 hSw; obtain ⟨q2, q3⟩ := hSw; go_simp) <;> with_reducible rfl
                  simp only [tkp]
                  refine tk1 6 (.succ (.succ (.succ (.succ (.succ (.succ .zero)))))) (fun K hK => ?_)
                  refine stepT1 (by rfl) 134 117 _ (by rfl) (.int .u8 y2) (by rfl) (fun _ _ => by rfl) ?_
                  refine (HF2.out _).mono ?_
                  rintro e w8 ⟨rfl, hw8⟩
                  rw [hw8]
                  clear hw8 w8
                  refine ⟨_, rfl, hK.out _ _ (fun _ => hHeld) (fun _ => ?_)⟩
                  clear hK K
                  simp only [tkp]
                  refine tk 7 (.succ (.succ (.succ (.succ (.succ (.succ (.succ .zero))))))) (v := ?_) ?_ ?_
                  rotate_left
                  · (intro w0 hSw; obtain ⟨q2, q3⟩ := hSw; go_simp) <;> with_reducible rfl
                  simp only [tkp]
                  refine tk1 13 (.succ (.succ (.succ (.succ (.succ (.succ (.succ (.succ (.succ (.succ (.succ (.succ (.succ .zero))))))))))))) (fun K hK => ?_)
                  refine stepT1 (by rfl) 134 124 _ (by rfl) (.int .u8 y3) (by rfl) (fun _ _ => by rfl) ?_
                  refine (HF3.out _).mono ?_
                  rintro e w8 ⟨rfl, hw8⟩
                  rw [hw8]
                  clear hw8 w8
                  refine ⟨_, rfl, hK.out _ _ (fun _ => hHeld) (fun _ => ?_)⟩
                  clear hK K
                  simp only [tkp]
                  refine tk 14 (.succ (.succ (.succ (.succ (.succ (.succ (.succ (.succ (.succ (.succ (.succ (.succ (.succ (.succ .zero)))))))))))))) (v := ?_) ?_ ?_
                  rotate_left
                  · (intro w0 hSw; obtain ⟨q2, q3⟩ := hSw; go_simp) <;> with_reducible rfl
                  simp only [tkp]
                  refine tk 15 (.succ (.succ (.succ (.succ (.succ (.succ (.succ (.succ (.succ (.succ (.succ (.succ (.succ (.succ (.succ .zero))))))))))))))) (v := ?_) ?_ ?_
                  rotate_left
                  · (intro w0 hSw; obtain ⟨q2, q3⟩ := hSw; go_simp) <;> with_reducible rfl
                  simp only [tkp]
                  refine tk1 16 (.succ (.succ (.succ (.succ (.succ (.succ (.succ (.succ (.succ (.succ (.succ (.succ (.succ (.succ (.succ (.succ .zero)))))))))))))))) (fun K hK => ?_)
                  go_simp
                  refine hK.out _ _ (fun _ => ⟨?_, ?_⟩) (fun _ => ?_)
                  · exact ((below_alloc wr _).cell (p := ⟨b, off + j2, none⟩) (World.block_lt_of_cell? _ _ cj2)).trans cj2
                  · exact ((below_alloc wr _).cell (p := ⟨b, off + j3, none⟩) (World.block_lt_of_cell? _ _ cj3)).trans cj3
                  clear hK K
                  try simp only [tkp]
                  refine tk1 17 (.succ (.succ (.succ (.succ (.succ (.succ (.succ (.succ (.succ (.succ (.succ (.succ (.succ (.succ (.succ (.succ (.succ .zero))))))))))))))))) (fun K hK => ?_)
                  refine step_appb (by rfl) _ _ (by rfl) w.heap.size _ q.length q (by rfl) (HO.out.1.below (below_alloc _ _)).drew ⟨wr.heap.size, 0, none⟩ 1 1 [z] (by rfl) rfl (by omega) (new_cells _ [.int .u8 z] _) (by omega) (by simp; omega) ?_
                  intro v' wq hown' hgrow
                  have HX2 : Hid (TxA wq w.heap.size v' (q.length + 1) (q ++ [z]) ∧ Below w.heap.size w wq) := ⟨hown', ((HB.out.alloc hsz _).drew).trans hgrow⟩
                  clear hown' hgrow
                  refine hK.out _ _ (fun _ => ⟨?_, ?_⟩) (fun _ => ?_)
                  · rw [HX2.out.2.cell (p := ⟨b, off + j2, none⟩) (World.block_lt_of_cell? _ _ (HC.out j2 (by omega))), HC.out j2 (by omega)]
                    have := HB.out.cell (p := ⟨b, off + j2, none⟩) (World.block_lt_of_cell? _ _ (HC.out j2 (by omega)))
                    rw [← HC.out j2 (by omega), ← this]
                    exact cj2
                  · rw [HX2.out.2.cell (p := ⟨b, off + j3, none⟩) (World.block_lt_of_cell? _ _ (HC.out j3 (by omega))), HC.out j3 (by omega)]
                    have := HB.out.cell (p := ⟨b, off + j3, none⟩) (World.block_lt_of_cell? _ _ (HC.out j3 (by omega)))
                    rw [← HC.out j3 (by omega), ← this]
                    exact cj3
                  clear hK K hHeld
                  try simp only [tkp]
                  refine tk1 18 (.succ (.succ (.succ (.succ (.succ (.succ (.succ (.succ (.succ (.succ (.succ (.succ (.succ (.succ (.succ (.succ (.succ (.succ .zero)))))))))))))))))) (fun K hK => ?_)
                  go_simp
                  refine hK.out _ _ (fun hne => absurd rfl hne) (fun _ => ?_)
                  clear hK K
                  try simp only [tkp]
                  refine wpLate_done (by kernel_rfl) ?_ _
                  go_wp2
                  go_roundw
                  case rel =>
                    have hp := pcB_pos HP.out (by omega)
                    refine ⟨j4, q ++ [z], rfl, by have := HJ.out; omega, ?_, by rw [List.length_append, List.length_singleton]; have := HJ.out; omega, ?_, HX2.out.2⟩
                    · rw [HGO.out _ _ HP.out, ← HZ.out]
                      have := HJ.out
                      rw [show j + 4 = j4 by omega]
                    · rw [List.length_append]
                      exact HX2.out.1
                  case measure => have := HJ.out; simp [intOf]; omega
                have dv3 : decide (0 ≤ hxV y3) = false := decide_eq_false hv3
                have HP : Hid (pcB f n j = none) := by
                  show _ = _
                  unfold pcB
                  rw [HX92.out, if_pos rfl, ← HY.out, if_neg (by omega), ← HY2.out.1, ← HY2.out.2, if_neg (fun e => hv3 e.2.2.2)]
                clear CL hj1 hj2 hj3 hj4
                go_wp2_with fail
                refine (l6Hex_any y2 _ b20 b21).mono ?_
                rintro e w8 ⟨rfl, hw8⟩
                rw [hw8]
                clear hw8 w8
                generalize hxV y2 = z2 at *
                go_wp2_with fail
                refine (l6Hex_any y3 _ b30 b31).mono ?_
                rintro e w8 ⟨rfl, hw8⟩
                rw [hw8]
                clear hw8 w8
                generalize hxV y3 = z3 at *
                go_wp2
                refine bodyPost_ret (v := .tuple #[.bool false, .string { data := #[] }, .int .i64 (j : Int)]) (by simp [results, Try.results111, go_sem]) rfl ⟨false, _, _, rfl, HB.out, Or.inr ⟨HNO.out HP.out, rfl⟩⟩
              have dv2 : decide (0 ≤ hxV y2) = false := decide_eq_false hv2
              have HP : Hid (pcB f n j = none) := by
                show _ = _
                unfold pcB
                rw [HX92.out, if_pos rfl, ← HY.out, if_neg (by omega), ← HY2.out.1, ← HY2.out.2, if_neg (fun e => hv2 e.2.2.1)]
              clear CL hj1 hj2 hj3 hj4
              go_wp2_with fail
              refine (l6Hex_any y2 _ b20 b21).mono ?_
              rintro e w8 ⟨rfl, hw8⟩
              rw [hw8]
              clear hw8 w8
              generalize hxV y2 = z2 at *
              go_wp2
              refine bodyPost_ret (v := .tuple #[.bool false, .string { data := #[] }, .int .i64 (j : Int)]) (by simp [results, Try.results111, go_sem]) rfl ⟨false, _, _, rfl, HB.out, Or.inr ⟨HNO.out HP.out, rfl⟩⟩
            have d120 : (y == 120) = false := by simp [h120]
            have HP : Hid (pcB f n j = none) := by
              show _ = _
              unfold pcB
              rw [HX92.out, if_pos rfl, ← HY.out, if_neg (by omega), if_neg (fun e => h120 e.2.1)]
            clear CL hj1 hj2 hj3 hj4
            go_wp2
            refine bodyPost_ret (v := .tuple #[.bool false, .string { data := #[] }, .int .i64 (j : Int)]) (by simp [results, Try.results111, go_sem]) rfl ⟨false, _, _, rfl, HB.out, Or.inr ⟨HNO.out HP.out, rfl⟩⟩
          have il3 : ¬ (j3 : Int) < (n : Int) := by omega
          have dl3 : decide ((j3 : Int) < (n : Int)) = false := decide_eq_false il3
          have HP : Hid (pcB f n j = none) := by
            show _ = _
            unfold pcB
            rw [HX92.out, if_pos rfl, ← HY.out, if_neg (by omega), if_neg (by omega)]
          clear CL hj1 hj2 hj3 hj4
          go_wp2
          refine bodyPost_ret (v := .tuple #[.bool false, .string { data := #[] }, .int .i64 (j : Int)]) (by simp [results, Try.results111, go_sem]) rfl ⟨false, _, _, rfl, HB.out, Or.inr ⟨HNO.out HP.out, rfl⟩⟩
        have il1 : ¬ (j1 : Int) < (n : Int) := by omega
        have dl1 : decide ((j1 : Int) < (n : Int)) = false := decide_eq_false il1
        have dl3 : decide ((j3 : Int) < (n : Int)) = false := decide_eq_false (by omega)
        have il3 : ¬ (j3 : Int) < (n : Int) := by omega
        have HP : Hid (pcB f n j = none) := by
          show _ = _
          unfold pcB
          rw [HX92.out, if_pos rfl, if_neg (by omega), if_neg (by omega)]
        clear CL hj1 hj2 hj3 hj4
        go_wp2
        refine bodyPost_ret (v := .tuple #[.bool false, .string { data := #[] }, .int .i64 (j : Int)]) (by simp [results, Try.results111, go_sem]) rfl ⟨false, _, _, rfl, HB.out, Or.inr ⟨HNO.out HP.out, rfl⟩⟩
      have d92 : (x == 92) = false := by simp [h92]
      have HP : Hid (pcB f n j = some (x, 1)) := by show _ = _; unfold pcB; rw [← HX.out, if_neg h92, if_pos (by omega)]
      clear CL hj1 hj2 hj3 hj4
      go_wp2_with (at_builtin; refine app_b rfl _ _ rfl w.heap.size _ q.length q rfl (HO.out.1.below (below_alloc _ _)) ⟨wr.heap.size, 0, none⟩ 1 1 [x] rfl rfl (by omega) (new_cells _ [.int .u8 x] _) (by omega) (by simp; omega) ?_)
      intro v' wq hown' hgrow
      have HX2 : Hid (TxA wq w.heap.size v' (q.length + 1) (q ++ [x]) ∧ Below w.heap.size w wq) := ⟨hown', (HB.out.alloc hsz _).trans hgrow⟩
      clear hown' hgrow
      go_wp2
      go_roundw
      case rel =>
        have hp := pcB_pos HP.out (by omega)
        refine ⟨j1, q ++ [x], rfl, by have := HJ.out; omega, ?_, by rw [List.length_append, List.length_singleton]; have := HJ.out; omega, ?_, HX2.out.2⟩
        · rw [HGO.out _ _ HP.out]
          have := HJ.out
          rw [show j + 1 = j1 by omega]
        · rw [List.length_append]
          exact HX2.out.1
      case measure => have := HJ.out; simp [intOf]; omega
    have ij : ¬ (j : Int) < (n : Int) := by omega
    have dlt : decide ((j : Int) < (n : Int)) = false := decide_eq_false ij
    obtain ⟨aq, cq, hu, hrd, _⟩ := HO.out.1.rd
    have HE : Hid (quoF f n (i + 1) [] = none) := by
      show _ = _
      rw [← HJ0.out, HO.out.2, quoF_end hj (fun e => hlt e.1), if_neg (fun e => hlt e.1)]
    have cv1 := conv_T (w := wr) q.length cq rfl hrd
    have cv2 : ∀ k, (convert 33 9 (.slice aq q.length cq)).run Try.prog (wr.drewN k) = .ok (.string (strT q)) (wr.drewN k) := fun k => conv_T (w := wr.drewN k) q.length cq rfl hrd
    obtain ⟨Y, hY⟩ : ∃ Y, Y = strT q := ⟨_, rfl⟩
    rw [← hY] at cv1 cv2
    clear hrd CL hj1 hj2 hj3 hj4 hY
    obtain rfl : u7 = .slice aq q.length cq := hu
    obtain ⟨N, hN⟩ : ∃ N, N = q.length := ⟨_, rfl⟩
    rw [← hN] at cv1 cv2 ⊢
    clear hN
    go_wp2_with fail
    go_quiet (fail)
    go_wp2
    refine bodyPost_ret (v := .tuple #[.bool false, .string Y, .int .i64 (j1 : Int)]) (by simp [results, Try.results111, go_sem]) rfl ⟨false, Y, _, rfl, below_drewN HB.out _, Or.inr ⟨HE.out, rfl⟩⟩
end Go.Proofs.Ytocmbnocdjnfpaa
