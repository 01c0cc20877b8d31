import Derived.Test.YtocmbnocdjnfpaaQbD
import Derived.Test.YtocmbnocdjnfpaaQaD
import Derived.Deep.RegionWith
namespace Go.Proofs.Ytocmbnocdjnfpaa
open Go.RowKit Go.Deep
set_option linter.unusedVariables false
set_option linter.unusedSimpArgs false
set_option maxRecDepth 100000

theorem sym_lt {T : Nat → Tok} {A : Nat → Nat} {m k : Nat} {p : Pr} (hl : LastK T m) (h : p.i < m) (h1 : 1 ≤ k) (h2 : k < 15) : (symP T A p k).i < m := by
  unfold symP
  split
  · rename_i e
    show p.i + 1 < m
    by_cases e2 : p.i = m - 1
    · rw [e2] at e
      have := hl.2; omega
    · omega
  · rw [failP_i]; exact h
theorem str_lt {T : Nat → Tok} {A : Nat → Nat} {m : Nat} {p : Pr} (hl : LastK T m) (h : p.i < m) : (strP T A p).i < m := by
  unfold strP
  split
  · rename_i e
    show p.i + 1 < m
    by_cases e2 : p.i = m - 1
    · rw [e2] at e
      have := hl.2; omega
    · omega
  · rw [failP_i]; exact h
theorem mk_lt {T : Nat → Tok} {A : Nat → Nat} {m : Nat} {p : Pr} (hl : LastK T m) (h : p.i < m) (h1 : 1 ≤ (T p.i).c) (h2 : (T p.i).c < 15) : (mkP T A p).i < m := by
  unfold mkP
  split
  · rw [failP_i]; exact h
  · show p.i + 1 < m
    by_cases e2 : p.i = m - 1
    · rw [e2] at h1 h2
      have := hl.2; omega
    · omega

theorem stepTc {ops : Array Oper} {o : Oper} {a : Act} {w : World} {K : Act → World → Prop} {Q : Exit → Act → World → Prop} {E : Prop} (hgd : o.guard = none) (k : Nat) (i : Nat) (v : Value) (tys : Array TypeId)
    (ho : o.op = .call { callee := .value (.func k), args := #[.tmp i, .const v], argTypes := tys }) (u : Value) (hx : a.tmps[i]?.getD undef = u) (heg : ∀ args w, (callFunc k args).run Try.prog w = .ok (.enter k args) w)
    (h : Calls Try.prog k #[u, v] w fun e w' => ∃ r, e = .returned r ∧ K (a.put o.dst r) w') :
    if Region.wanted o (yielded ops a.tmps) = true then Oper.wp Try.prog o a w K Q else E := by
  have hw : Region.wanted o (yielded ops a.tmps) = true := by simp [Region.wanted, hgd]
  rw [if_pos hw]
  unfold Oper.wp
  simp [execOp, ho, resolve, invoke, hx, go_sem, heg]
  refine h.mono ?_
  rintro e w' ⟨u, rfl, hk⟩
  exact hk
theorem wp_region_lateS {P : Program} {ops : Array Oper} {Q : Exit → Act → World → Prop} {S : World → Prop} {id : Nat} {a : Act} {w : World} (late : Nat) (hm : P.follows .mixedOrders = true) (hS : S w.drew)
    (h : ∀ W, S W → wpLate P .any ops Q S late ops.size (Array.replicate ops.size false) a W) : (Code.region id ops true).wp P Q a w := wp_region_late late hm hS (fun h' => h _ h')
/-- A block's cells. -/
def Cs (W : World) (b : Nat) (L : List Value) : Prop := (∀ o u, L[o]? = some u → W.cell? ⟨b, o, none⟩ = some u) ∧ ∀ o, W.frozen? ⟨b, o, none⟩ = false
theorem Cs.below {W W' : World} {b : Nat} {L : List Value} (h : Cs W b L) (hb : Below W.heap.size W W') (hl : b < W.heap.size) : Cs W' b L :=
  ⟨fun o u hu => (hb.cell (p := ⟨b, o, none⟩) hl).trans (h.1 o u hu), fun o => (hb.frozen (p := ⟨b, o, none⟩) hl).trans (h.2 o)⟩
theorem Cs.six {W : World} {b : Nat} {v0 v1 v2 v3 v4 v5 : Value} (h0 : W.cell? ⟨b, 0, none⟩ = some v0) (h1 : W.cell? ⟨b, 1, none⟩ = some v1) (h2 : W.cell? ⟨b, 2, none⟩ = some v2) (h3 : W.cell? ⟨b, 3, none⟩ = some v3) (h4 : W.cell? ⟨b, 4, none⟩ = some v4) (h5 : W.cell? ⟨b, 5, none⟩ = some v5) (hf : ∀ o, W.frozen? ⟨b, o, none⟩ = false) : Cs W b [v0, v1, v2, v3, v4, v5] := by
  refine ⟨fun o u hu => ?_, hf⟩
  match o, hu with
  | 0, hu => exact h0.trans hu
  | 1, hu => exact h1.trans hu
  | 2, hu => exact h2.trans hu
  | 3, hu => exact h3.trans hu
  | 4, hu => exact h4.trans hu
  | 5, hu => exact h5.trans hu
  | o + 6, hu => simp at hu
theorem Cs.three {W : World} {b : Nat} {v0 v1 v2 : Value} (h0 : W.cell? ⟨b, 0, none⟩ = some v0) (h1 : W.cell? ⟨b, 1, none⟩ = some v1) (h2 : W.cell? ⟨b, 2, none⟩ = some v2) (hf : ∀ o, W.frozen? ⟨b, o, none⟩ = false) : Cs W b [v0, v1, v2] := by
  refine ⟨fun o u hu => ?_, hf⟩
  match o, hu with
  | 0, hu => exact h0.trans hu
  | 1, hu => exact h1.trans hu
  | 2, hu => exact h2.trans hu
  | o + 3, hu => simp at hu
/-- What l6Step's last statement leaves as it is. -/
def SLast (w : World) (z0 z1 z2 z3 z4 z5 n0 n1 n2 : Value) (W : World) : Prop :=
  Cs W w.heap.size [z0, z1, z2, z3, z4, z5] ∧ (∃ v0 v1 v2 v3 v4 v5, Cs W (w.heap.size + 1) [v0, v1, v2, v3, v4, v5]) ∧ (∃ v0 v1 v2, Cs W (w.heap.size + 1 + 1) [v0, v1, v2]) ∧ Cs W (w.heap.size + 1 + 1 + 1) [n0, n1, n2] ∧ Below w.heap.size w W ∧ w.heap.size + 3 < W.heap.size
theorem SLast.below {w W W' : World} {z0 z1 z2 z3 z4 z5 n0 n1 n2 : Value} (h : SLast w z0 z1 z2 z3 z4 z5 n0 n1 n2 W) (hb : Below W.heap.size W W') : SLast w z0 z1 z2 z3 z4 z5 n0 n1 n2 W' := by
  obtain ⟨h1, ⟨v0, v1, v2, v3, v4, v5, h2⟩, ⟨u0, u1, u2, h3⟩, h4, h5, h6⟩ := h
  exact ⟨h1.below hb (by omega), ⟨v0, v1, v2, v3, v4, v5, h2.below hb (by omega)⟩, ⟨u0, u1, u2, h3.below hb (by omega)⟩, h4.below hb (by omega), h5.trans (hb.mono (by omega)), Nat.lt_of_lt_of_le h6 hb.size⟩

/-- What a step gives back. -/
def ndV (x : Nd) : Value := .agg #[.int .i64 (x.k : Int), .string (strT x.s), .string (strT x.t)]

set_option maxHeartbeats 4000000 in
theorem l6Step_in {T : Nat → Tok} {A : Nat → Nat} (hT : ∀ i, (T i).c ≤ 15) (g m c : Nat) (p : Pr) (w : World) (hR : RdK w g m T A) (hl : LastK T m) (h0 : p.er = 0) (hi : p.i + 1 < m) (hm : m ≤ 3000) (hnd : p.nd ≤ 100) (hk : (T (p.i + 1)).c = 4) :
    Calls Try.prog 106 #[prV g m c p] w fun r w' => r = .returned (.tuple #[prV g m c (stepP T A p).1, ndV (stepP T A p).2]) ∧ Below w.heap.size w w' := by
  obtain ⟨er, at_, i, nd, got⟩ := p
  obtain rfl : er = 0 := h0
  have hi2 : i + 1 < m := hi
  obtain ⟨i1, hi1⟩ : ∃ i1, i1 = i + 1 := ⟨_, rfl⟩
  have hk' : (T i1).c = 4 := by rw [hi1]; exact hk
  obtain ⟨p1, hp1⟩ : ∃ p1 : Pr, p1 = ⟨0, at_, i1, nd, got⟩ := ⟨_, rfl⟩
  have hi' : p1.i < m := by rw [hp1]; show i1 < m; rw [hi1]; exact hi
  have hnd' : p1.nd ≤ 100 := by rw [hp1]; exact hnd
  have hkp : (T p1.i).c = (T i1).c := by rw [hp1]
  have HR : Hid (RdK w g m T A) := hR
  have HE : Hid (stepP T A ⟨0, at_, i, nd, got⟩ = (symP T A (strP T A (symP T A (mkP T A p1) 11)) 12, ⟨4, (strP T A (symP T A (mkP T A p1) 11)).got, []⟩)) := by
    show _ = _
    unfold stepP
    rw [show ({ (⟨0, at_, i, nd, got⟩ : Pr) with i := (⟨0, at_, i, nd, got⟩ : Pr).i + 1 } : Pr) = p1 by rw [hp1, hi1]]
    unfold stepQ stepK
    have y : p1.er = 0 ∧ (T p1.i).c = 4 := ⟨by rw [hp1], by rw [hkp]; exact hk'⟩
    rw [if_pos y, if_neg (fun e => by omega), if_neg (by omega)]
  have PV : ∀ S, S = strT got → prV g m c p1 = .agg #[.slice (some ⟨g, 0, none⟩) m c, .int .i64 (i1 : Int), .int .i64 (nd : Int), .int .i64 0, .int .i64 at_, .string S] := fun S hS => by rw [hp1, hS]; rfl
  obtain ⟨S, hS⟩ : ∃ S, S = strT got := ⟨_, rfl⟩
  have PV := PV S hS
  have HI4 : Hid (∀ W, RdK W g m T A → Calls Try.prog 101 #[.agg #[.slice (some ⟨g, 0, none⟩) m c, .int .i64 (i1 : Int), .int .i64 (nd : Int), .int .i64 0, .int .i64 at_, .string S], .int .i64 1, .string { data := #[105, 110] }] W fun r w' => r = .returned (.bool true) ∧ Below W.heap.size W w') := fun W hW => by
    rw [← PV]
    refine (l6Is_c hT 4 1 _ rfl rfl (by omega) (by omega) g m c p1 W hW hi' hm).mono ?_
    rintro e w' ⟨rfl, hb⟩
    exact ⟨by rw [show decide (p1.er = 0 ∧ (T p1.i).c = 4) = true from decide_eq_true ⟨by rw [hp1], by rw [hkp]; exact hk'⟩], hb⟩
  have HI5 : Hid (∀ W, RdK W g m T A → Calls Try.prog 101 #[.agg #[.slice (some ⟨g, 0, none⟩) m c, .int .i64 (i1 : Int), .int .i64 (nd : Int), .int .i64 0, .int .i64 at_, .string S], .int .i64 1, .string { data := #[104, 97, 115] }] W fun r w' => r = .returned (.bool false) ∧ Below W.heap.size W w') := fun W hW => by
    rw [← PV]
    refine (l6Is_c hT 5 1 _ rfl rfl (by omega) (by omega) g m c p1 W hW hi' hm).mono ?_
    rintro e w' ⟨rfl, hb⟩
    exact ⟨by rw [show decide (p1.er = 0 ∧ (T p1.i).c = 5) = false from decide_eq_false (fun e => by rw [hkp] at e; omega)], hb⟩
  have HI3 : Hid (∀ W, RdK W g m T A → Calls Try.prog 101 #[.agg #[.slice (some ⟨g, 0, none⟩) m c, .int .i64 (i1 : Int), .int .i64 (nd : Int), .int .i64 0, .int .i64 at_, .string S], .int .i64 1, .string { data := #[111, 117, 116] }] W fun r w' => r = .returned (.bool false) ∧ Below W.heap.size W w') := fun W hW => by
    rw [← PV]
    refine (l6Is_c hT 3 1 _ rfl rfl (by omega) (by omega) g m c p1 W hW hi' hm).mono ?_
    rintro e w' ⟨rfl, hb⟩
    exact ⟨by rw [show decide (p1.er = 0 ∧ (T p1.i).c = 3) = false from decide_eq_false (fun e => by rw [hkp] at e; omega)], hb⟩
  have HB0 : Hid (∀ o1 o2 o3 o4, Below w.heap.size w ((((w.alloc o1).alloc o2).alloc o3).alloc o4)) := fun o1 o2 o3 o4 => (((below_alloc _ _).alloc (by first | omega | (simp <;> omega)) _).alloc (by first | omega | (simp <;> omega)) _).alloc (by first | omega | (simp <;> omega)) _
  have HM : Hid (∀ W, RdK W g m T A → Calls Try.prog 102 #[.agg #[.slice (some ⟨g, 0, none⟩) m c, .int .i64 (i1 : Int), .int .i64 (nd : Int), .int .i64 0, .int .i64 at_, .string S]] W fun r w' => r = .returned (prV g m c (mkP T A p1)) ∧ Below W.heap.size W w') := fun W hW => by
    rw [← PV]
    exact l6Makes_any hT g m c p1 W hW hi' hm hnd'
  have l2 : (mkP T A p1).i < m := mk_lt hl hi' (by rw [hkp]; omega) (by rw [hkp]; omega)
  have l3 : (symP T A (mkP T A p1) 11).i < m := sym_lt hl l2 (by omega) (by omega)
  have l4 : (strP T A (symP T A (mkP T A p1) 11)).i < m := str_lt hl l3
  obtain ⟨p4, hp4⟩ : ∃ p4, p4 = strP T A (symP T A (mkP T A p1) 11) := ⟨_, rfl⟩
  rw [← hp4] at l4 HE
  have HS3 : Hid (∀ W, RdK W g m T A → Calls Try.prog 103 #[prV g m c (mkP T A p1), .string { data := #[40] }] W fun r w' => r = .returned (prV g m c (symP T A (mkP T A p1) 11)) ∧ Below W.heap.size W w') := fun W hW => l6Sym_any hT 11 _ rfl rfl (by omega) (by omega) g m c _ W hW l2 hm
  have HS4 : Hid (∀ W, RdK W g m T A → Calls Try.prog 104 #[prV g m c (symP T A (mkP T A p1) 11)] W fun r w' => r = .returned (prV g m c p4) ∧ Below W.heap.size W w') := fun W hW => by
    rw [hp4]
    exact l6Str_any hT g m c _ W hW l3 hm
  clear hp4 l2 l3
  generalize mkP T A p1 = p2 at *
  generalize symP T A p2 11 = p3 at *
  obtain ⟨er4, at4, i4, nd4, got4⟩ := p4
  obtain ⟨S4, hS4⟩ : ∃ S4, S4 = strT got4 := ⟨_, rfl⟩
  have HV4 : Hid (prV g m c ⟨er4, at4, i4, nd4, got4⟩ = .agg #[.slice (some ⟨g, 0, none⟩) m c, .int .i64 (i4 : Int), .int .i64 (nd4 : Int), .int .i64 er4, .int .i64 at4, .string S4] ∧ S4 = strT got4) := ⟨by rw [hS4]; rfl, hS4⟩
  have HS7 : Hid (∀ W, RdK W g m T A → Calls Try.prog 103 #[.agg #[.slice (some ⟨g, 0, none⟩) m c, .int .i64 (i4 : Int), .int .i64 (nd4 : Int), .int .i64 er4, .int .i64 at4, .string S4], .string { data := #[41] }] W fun r w' => r = .returned (prV g m c (symP T A ⟨er4, at4, i4, nd4, got4⟩ 12)) ∧ Below W.heap.size W w') := fun W hW => by
    rw [← HV4.out.1]
    exact l6Sym_any hT 12 _ rfl rfl (by omega) (by omega) g m c _ W hW l4 hm
  rw [HV4.out.1] at HS4
  clear hS4 l4
  obtain ⟨p7, hp7⟩ : ∃ p7, p7 = symP T A ⟨er4, at4, i4, nd4, got4⟩ 12 := ⟨_, rfl⟩
  rw [← hp7] at HS7 HE
  clear hp7
  obtain ⟨er7, at7, i7, nd7, got7⟩ := p7
  have HV7 : Hid (prV g m c ⟨er7, at7, i7, nd7, got7⟩ = .agg #[.slice (some ⟨g, 0, none⟩) m c, .int .i64 (i7 : Int), .int .i64 (nd7 : Int), .int .i64 er7, .int .i64 at7, .string (strT got7)]) := rfl
  rw [HV7.out] at HS7
  have e2 : IntKind.i64.wrap ((i : Int) + 1) = (i1 : Int) := by rw [hi1, IntKind.wrap_i64]; omega
  show Calls Try.prog 106 #[.agg #[.slice (some ⟨g, 0, none⟩) m c, .int .i64 (i : Int), .int .i64 (nd : Int), .int .i64 0, .int .i64 at_, .string (strT got)]] w _
  rw [← hS]
  have HP : Hid (p1 = ⟨0, at_, i1, nd, got⟩) := hp1
  clear hS hR PV hp1 hk hk' hkp hi1 hi hnd
  go_enter Try.func106, Try.ntmps106
  go_wp2_with fail
  refine (HI4.out _ (HR.out.below (HB0.out _ _ _ _))).mono ?_
  rintro e w1 ⟨rfl, hb⟩
  have hz1 : w.heap.size + 3 < w1.heap.size := by have := hb.size; (try simp at this); omega
  have HB1 : Hid (Below w.heap.size w w1) := (HB0.out _ _ _ _).trans (hb.mono (by first | omega | (simp <;> omega)))
  have fz0_1 : w1.cell? ⟨w.heap.size, 0, none⟩ = some (.slice (some ⟨g, 0, none⟩) m c) := by rw [hb.cell (p := ⟨w.heap.size, 0, none⟩) (by first | omega | (simp <;> omega))]; simp [go_sem]
  have fz1_1 : w1.cell? ⟨w.heap.size, 1, none⟩ = some (.int .i64 (i1 : Int)) := by rw [hb.cell (p := ⟨w.heap.size, 1, none⟩) (by first | omega | (simp <;> omega))]; simp [go_sem]
  have fz2_1 : w1.cell? ⟨w.heap.size, 2, none⟩ = some (.int .i64 (nd : Int)) := by rw [hb.cell (p := ⟨w.heap.size, 2, none⟩) (by first | omega | (simp <;> omega))]; simp [go_sem]
  have fz3_1 : w1.cell? ⟨w.heap.size, 3, none⟩ = some (.int .i64 0) := by rw [hb.cell (p := ⟨w.heap.size, 3, none⟩) (by first | omega | (simp <;> omega))]; simp [go_sem]
  have fz4_1 : w1.cell? ⟨w.heap.size, 4, none⟩ = some (.int .i64 at_) := by rw [hb.cell (p := ⟨w.heap.size, 4, none⟩) (by first | omega | (simp <;> omega))]; simp [go_sem]
  have fz5_1 : w1.cell? ⟨w.heap.size, 5, none⟩ = some (.string S) := by rw [hb.cell (p := ⟨w.heap.size, 5, none⟩) (by first | omega | (simp <;> omega))]; simp [go_sem]
  have fr0_1 : w1.cell? ⟨w.heap.size + 1, 0, none⟩ = some (.slice none 0 0) := by rw [hb.cell (p := ⟨w.heap.size + 1, 0, none⟩) (by first | omega | (simp <;> omega))]; simp [go_sem]
  have fr1_1 : w1.cell? ⟨w.heap.size + 1, 1, none⟩ = some (.int .i64 0) := by rw [hb.cell (p := ⟨w.heap.size + 1, 1, none⟩) (by first | omega | (simp <;> omega))]; simp [go_sem]
  have fr2_1 : w1.cell? ⟨w.heap.size + 1, 2, none⟩ = some (.int .i64 0) := by rw [hb.cell (p := ⟨w.heap.size + 1, 2, none⟩) (by first | omega | (simp <;> omega))]; simp [go_sem]
  have fr3_1 : w1.cell? ⟨w.heap.size + 1, 3, none⟩ = some (.int .i64 0) := by rw [hb.cell (p := ⟨w.heap.size + 1, 3, none⟩) (by first | omega | (simp <;> omega))]; simp [go_sem]
  have fr4_1 : w1.cell? ⟨w.heap.size + 1, 4, none⟩ = some (.int .i64 0) := by rw [hb.cell (p := ⟨w.heap.size + 1, 4, none⟩) (by first | omega | (simp <;> omega))]; simp [go_sem]
  have fr5_1 : w1.cell? ⟨w.heap.size + 1, 5, none⟩ = some (.string { data := #[] }) := by rw [hb.cell (p := ⟨w.heap.size + 1, 5, none⟩) (by first | omega | (simp <;> omega))]; simp [go_sem]
  have fq0_1 : w1.cell? ⟨w.heap.size + 1 + 1, 0, none⟩ = some (.int .i64 0) := by rw [hb.cell (p := ⟨w.heap.size + 1 + 1, 0, none⟩) (by first | omega | (simp <;> omega))]; simp [go_sem]
  have fq1_1 : w1.cell? ⟨w.heap.size + 1 + 1, 1, none⟩ = some (.string { data := #[] }) := by rw [hb.cell (p := ⟨w.heap.size + 1 + 1, 1, none⟩) (by first | omega | (simp <;> omega))]; simp [go_sem]
  have fq2_1 : w1.cell? ⟨w.heap.size + 1 + 1, 2, none⟩ = some (.string { data := #[] }) := by rw [hb.cell (p := ⟨w.heap.size + 1 + 1, 2, none⟩) (by first | omega | (simp <;> omega))]; simp [go_sem]
  have fn0_1 : w1.cell? ⟨w.heap.size + 1 + 1 + 1, 0, none⟩ = some (.int .i64 3) := by rw [hb.cell (p := ⟨w.heap.size + 1 + 1 + 1, 0, none⟩) (by first | omega | (simp <;> omega))]; simp [go_sem]
  have fn1_1 : w1.cell? ⟨w.heap.size + 1 + 1 + 1, 1, none⟩ = some (.string { data := #[] }) := by rw [hb.cell (p := ⟨w.heap.size + 1 + 1 + 1, 1, none⟩) (by first | omega | (simp <;> omega))]; simp [go_sem]
  have fn2_1 : w1.cell? ⟨w.heap.size + 1 + 1 + 1, 2, none⟩ = some (.string { data := #[] }) := by rw [hb.cell (p := ⟨w.heap.size + 1 + 1 + 1, 2, none⟩) (by first | omega | (simp <;> omega))]; simp [go_sem]
  have gz_1 : ∀ o, w1.frozen? ⟨w.heap.size, o, none⟩ = false := fun o => by rw [hb.frozen (p := ⟨w.heap.size, o, none⟩) (by first | omega | (simp <;> omega))]; simp [go_sem]
  have gr_1 : ∀ o, w1.frozen? ⟨w.heap.size + 1, o, none⟩ = false := fun o => by rw [hb.frozen (p := ⟨w.heap.size + 1, o, none⟩) (by first | omega | (simp <;> omega))]; simp [go_sem]
  have gq_1 : ∀ o, w1.frozen? ⟨w.heap.size + 1 + 1, o, none⟩ = false := fun o => by rw [hb.frozen (p := ⟨w.heap.size + 1 + 1, o, none⟩) (by first | omega | (simp <;> omega))]; simp [go_sem]
  have gn_1 : ∀ o, w1.frozen? ⟨w.heap.size + 1 + 1 + 1, o, none⟩ = false := fun o => by rw [hb.frozen (p := ⟨w.heap.size + 1 + 1 + 1, o, none⟩) (by first | omega | (simp <;> omega))]; simp [go_sem]
  clear hb
  go_wp2_with fail
  refine (HI5.out _ (HR.out.below ((HB1.out).setCell (by first | omega | (simp <;> omega)) _))).mono ?_
  rintro e w2 ⟨rfl, hb⟩
  have hz2 : w.heap.size + 3 < w2.heap.size := by have := hb.size; (try simp at this); omega
  have HB2 : Hid (Below w.heap.size w w2) := ((HB1.out).setCell (by first | omega | (simp <;> omega)) _).trans (hb.mono (by first | omega | (simp <;> omega)))
  have fz0_2 : w2.cell? ⟨w.heap.size, 0, none⟩ = some (.slice (some ⟨g, 0, none⟩) m c) := by rw [hb.cell (p := ⟨w.heap.size, 0, none⟩) (by first | omega | (simp <;> omega))]; simp [go_sem, fz0_1, fz1_1, fz2_1, fz3_1, fz4_1, fz5_1]
  have fz1_2 : w2.cell? ⟨w.heap.size, 1, none⟩ = some (.int .i64 (i1 : Int)) := by rw [hb.cell (p := ⟨w.heap.size, 1, none⟩) (by first | omega | (simp <;> omega))]; simp [go_sem, fz0_1, fz1_1, fz2_1, fz3_1, fz4_1, fz5_1]
  have fz2_2 : w2.cell? ⟨w.heap.size, 2, none⟩ = some (.int .i64 (nd : Int)) := by rw [hb.cell (p := ⟨w.heap.size, 2, none⟩) (by first | omega | (simp <;> omega))]; simp [go_sem, fz0_1, fz1_1, fz2_1, fz3_1, fz4_1, fz5_1]
  have fz3_2 : w2.cell? ⟨w.heap.size, 3, none⟩ = some (.int .i64 0) := by rw [hb.cell (p := ⟨w.heap.size, 3, none⟩) (by first | omega | (simp <;> omega))]; simp [go_sem, fz0_1, fz1_1, fz2_1, fz3_1, fz4_1, fz5_1]
  have fz4_2 : w2.cell? ⟨w.heap.size, 4, none⟩ = some (.int .i64 at_) := by rw [hb.cell (p := ⟨w.heap.size, 4, none⟩) (by first | omega | (simp <;> omega))]; simp [go_sem, fz0_1, fz1_1, fz2_1, fz3_1, fz4_1, fz5_1]
  have fz5_2 : w2.cell? ⟨w.heap.size, 5, none⟩ = some (.string S) := by rw [hb.cell (p := ⟨w.heap.size, 5, none⟩) (by first | omega | (simp <;> omega))]; simp [go_sem, fz0_1, fz1_1, fz2_1, fz3_1, fz4_1, fz5_1]
  have fr0_2 : w2.cell? ⟨w.heap.size + 1, 0, none⟩ = some (.slice none 0 0) := by rw [hb.cell (p := ⟨w.heap.size + 1, 0, none⟩) (by first | omega | (simp <;> omega))]; simp [go_sem, fr0_1, fr1_1, fr2_1, fr3_1, fr4_1, fr5_1]
  have fr1_2 : w2.cell? ⟨w.heap.size + 1, 1, none⟩ = some (.int .i64 0) := by rw [hb.cell (p := ⟨w.heap.size + 1, 1, none⟩) (by first | omega | (simp <;> omega))]; simp [go_sem, fr0_1, fr1_1, fr2_1, fr3_1, fr4_1, fr5_1]
  have fr2_2 : w2.cell? ⟨w.heap.size + 1, 2, none⟩ = some (.int .i64 0) := by rw [hb.cell (p := ⟨w.heap.size + 1, 2, none⟩) (by first | omega | (simp <;> omega))]; simp [go_sem, fr0_1, fr1_1, fr2_1, fr3_1, fr4_1, fr5_1]
  have fr3_2 : w2.cell? ⟨w.heap.size + 1, 3, none⟩ = some (.int .i64 0) := by rw [hb.cell (p := ⟨w.heap.size + 1, 3, none⟩) (by first | omega | (simp <;> omega))]; simp [go_sem, fr0_1, fr1_1, fr2_1, fr3_1, fr4_1, fr5_1]
  have fr4_2 : w2.cell? ⟨w.heap.size + 1, 4, none⟩ = some (.int .i64 0) := by rw [hb.cell (p := ⟨w.heap.size + 1, 4, none⟩) (by first | omega | (simp <;> omega))]; simp [go_sem, fr0_1, fr1_1, fr2_1, fr3_1, fr4_1, fr5_1]
  have fr5_2 : w2.cell? ⟨w.heap.size + 1, 5, none⟩ = some (.string { data := #[] }) := by rw [hb.cell (p := ⟨w.heap.size + 1, 5, none⟩) (by first | omega | (simp <;> omega))]; simp [go_sem, fr0_1, fr1_1, fr2_1, fr3_1, fr4_1, fr5_1]
  have fq0_2 : w2.cell? ⟨w.heap.size + 1 + 1, 0, none⟩ = some (.int .i64 0) := by rw [hb.cell (p := ⟨w.heap.size + 1 + 1, 0, none⟩) (by first | omega | (simp <;> omega))]; simp [go_sem, fq0_1, fq1_1, fq2_1]
  have fq1_2 : w2.cell? ⟨w.heap.size + 1 + 1, 1, none⟩ = some (.string { data := #[] }) := by rw [hb.cell (p := ⟨w.heap.size + 1 + 1, 1, none⟩) (by first | omega | (simp <;> omega))]; simp [go_sem, fq0_1, fq1_1, fq2_1]
  have fq2_2 : w2.cell? ⟨w.heap.size + 1 + 1, 2, none⟩ = some (.string { data := #[] }) := by rw [hb.cell (p := ⟨w.heap.size + 1 + 1, 2, none⟩) (by first | omega | (simp <;> omega))]; simp [go_sem, fq0_1, fq1_1, fq2_1]
  have fn0_2 : w2.cell? ⟨w.heap.size + 1 + 1 + 1, 0, none⟩ = some (.int .i64 4) := by rw [hb.cell (p := ⟨w.heap.size + 1 + 1 + 1, 0, none⟩) (by first | omega | (simp <;> omega))]; simp [go_sem, fn0_1, fn1_1, fn2_1]
  have fn1_2 : w2.cell? ⟨w.heap.size + 1 + 1 + 1, 1, none⟩ = some (.string { data := #[] }) := by rw [hb.cell (p := ⟨w.heap.size + 1 + 1 + 1, 1, none⟩) (by first | omega | (simp <;> omega))]; simp [go_sem, fn0_1, fn1_1, fn2_1]
  have fn2_2 : w2.cell? ⟨w.heap.size + 1 + 1 + 1, 2, none⟩ = some (.string { data := #[] }) := by rw [hb.cell (p := ⟨w.heap.size + 1 + 1 + 1, 2, none⟩) (by first | omega | (simp <;> omega))]; simp [go_sem, fn0_1, fn1_1, fn2_1]
  have gz_2 : ∀ o, w2.frozen? ⟨w.heap.size, o, none⟩ = false := fun o => by rw [hb.frozen (p := ⟨w.heap.size, o, none⟩) (by first | omega | (simp <;> omega))]; simp [go_sem, gz_1]
  have gr_2 : ∀ o, w2.frozen? ⟨w.heap.size + 1, o, none⟩ = false := fun o => by rw [hb.frozen (p := ⟨w.heap.size + 1, o, none⟩) (by first | omega | (simp <;> omega))]; simp [go_sem, gr_1]
  have gq_2 : ∀ o, w2.frozen? ⟨w.heap.size + 1 + 1, o, none⟩ = false := fun o => by rw [hb.frozen (p := ⟨w.heap.size + 1 + 1, o, none⟩) (by first | omega | (simp <;> omega))]; simp [go_sem, gq_1]
  have gn_2 : ∀ o, w2.frozen? ⟨w.heap.size + 1 + 1 + 1, o, none⟩ = false := fun o => by rw [hb.frozen (p := ⟨w.heap.size + 1 + 1 + 1, o, none⟩) (by first | omega | (simp <;> omega))]; simp [go_sem, gn_1]
  clear fz0_1 fz1_1 fz2_1 fz3_1 fz4_1 fz5_1 fr0_1 fr1_1 fr2_1 fr3_1 fr4_1 fr5_1 fq0_1 fq1_1 fq2_1 fn0_1 fn1_1 fn2_1 gz_1 gr_1 gq_1 gn_1
  clear hb
  go_wp2_with fail
  refine (HM.out _ (HR.out.below (HB2.out))).mono ?_
  rintro e w3 ⟨rfl, hb⟩
  have hz3 : w.heap.size + 3 < w3.heap.size := by have := hb.size; (try simp at this); omega
  have HB3 : Hid (Below w.heap.size w w3) := (HB2.out).trans (hb.mono (by first | omega | (simp <;> omega)))
  have fz0_3 : w3.cell? ⟨w.heap.size, 0, none⟩ = some (.slice (some ⟨g, 0, none⟩) m c) := by rw [hb.cell (p := ⟨w.heap.size, 0, none⟩) (by first | omega | (simp <;> omega))]; simp [go_sem, fz0_2, fz1_2, fz2_2, fz3_2, fz4_2, fz5_2]
  have fz1_3 : w3.cell? ⟨w.heap.size, 1, none⟩ = some (.int .i64 (i1 : Int)) := by rw [hb.cell (p := ⟨w.heap.size, 1, none⟩) (by first | omega | (simp <;> omega))]; simp [go_sem, fz0_2, fz1_2, fz2_2, fz3_2, fz4_2, fz5_2]
  have fz2_3 : w3.cell? ⟨w.heap.size, 2, none⟩ = some (.int .i64 (nd : Int)) := by rw [hb.cell (p := ⟨w.heap.size, 2, none⟩) (by first | omega | (simp <;> omega))]; simp [go_sem, fz0_2, fz1_2, fz2_2, fz3_2, fz4_2, fz5_2]
  have fz3_3 : w3.cell? ⟨w.heap.size, 3, none⟩ = some (.int .i64 0) := by rw [hb.cell (p := ⟨w.heap.size, 3, none⟩) (by first | omega | (simp <;> omega))]; simp [go_sem, fz0_2, fz1_2, fz2_2, fz3_2, fz4_2, fz5_2]
  have fz4_3 : w3.cell? ⟨w.heap.size, 4, none⟩ = some (.int .i64 at_) := by rw [hb.cell (p := ⟨w.heap.size, 4, none⟩) (by first | omega | (simp <;> omega))]; simp [go_sem, fz0_2, fz1_2, fz2_2, fz3_2, fz4_2, fz5_2]
  have fz5_3 : w3.cell? ⟨w.heap.size, 5, none⟩ = some (.string S) := by rw [hb.cell (p := ⟨w.heap.size, 5, none⟩) (by first | omega | (simp <;> omega))]; simp [go_sem, fz0_2, fz1_2, fz2_2, fz3_2, fz4_2, fz5_2]
  have fr0_3 : w3.cell? ⟨w.heap.size + 1, 0, none⟩ = some (.slice none 0 0) := by rw [hb.cell (p := ⟨w.heap.size + 1, 0, none⟩) (by first | omega | (simp <;> omega))]; simp [go_sem, fr0_2, fr1_2, fr2_2, fr3_2, fr4_2, fr5_2]
  have fr1_3 : w3.cell? ⟨w.heap.size + 1, 1, none⟩ = some (.int .i64 0) := by rw [hb.cell (p := ⟨w.heap.size + 1, 1, none⟩) (by first | omega | (simp <;> omega))]; simp [go_sem, fr0_2, fr1_2, fr2_2, fr3_2, fr4_2, fr5_2]
  have fr2_3 : w3.cell? ⟨w.heap.size + 1, 2, none⟩ = some (.int .i64 0) := by rw [hb.cell (p := ⟨w.heap.size + 1, 2, none⟩) (by first | omega | (simp <;> omega))]; simp [go_sem, fr0_2, fr1_2, fr2_2, fr3_2, fr4_2, fr5_2]
  have fr3_3 : w3.cell? ⟨w.heap.size + 1, 3, none⟩ = some (.int .i64 0) := by rw [hb.cell (p := ⟨w.heap.size + 1, 3, none⟩) (by first | omega | (simp <;> omega))]; simp [go_sem, fr0_2, fr1_2, fr2_2, fr3_2, fr4_2, fr5_2]
  have fr4_3 : w3.cell? ⟨w.heap.size + 1, 4, none⟩ = some (.int .i64 0) := by rw [hb.cell (p := ⟨w.heap.size + 1, 4, none⟩) (by first | omega | (simp <;> omega))]; simp [go_sem, fr0_2, fr1_2, fr2_2, fr3_2, fr4_2, fr5_2]
  have fr5_3 : w3.cell? ⟨w.heap.size + 1, 5, none⟩ = some (.string { data := #[] }) := by rw [hb.cell (p := ⟨w.heap.size + 1, 5, none⟩) (by first | omega | (simp <;> omega))]; simp [go_sem, fr0_2, fr1_2, fr2_2, fr3_2, fr4_2, fr5_2]
  have fq0_3 : w3.cell? ⟨w.heap.size + 1 + 1, 0, none⟩ = some (.int .i64 0) := by rw [hb.cell (p := ⟨w.heap.size + 1 + 1, 0, none⟩) (by first | omega | (simp <;> omega))]; simp [go_sem, fq0_2, fq1_2, fq2_2]
  have fq1_3 : w3.cell? ⟨w.heap.size + 1 + 1, 1, none⟩ = some (.string { data := #[] }) := by rw [hb.cell (p := ⟨w.heap.size + 1 + 1, 1, none⟩) (by first | omega | (simp <;> omega))]; simp [go_sem, fq0_2, fq1_2, fq2_2]
  have fq2_3 : w3.cell? ⟨w.heap.size + 1 + 1, 2, none⟩ = some (.string { data := #[] }) := by rw [hb.cell (p := ⟨w.heap.size + 1 + 1, 2, none⟩) (by first | omega | (simp <;> omega))]; simp [go_sem, fq0_2, fq1_2, fq2_2]
  have fn0_3 : w3.cell? ⟨w.heap.size + 1 + 1 + 1, 0, none⟩ = some (.int .i64 4) := by rw [hb.cell (p := ⟨w.heap.size + 1 + 1 + 1, 0, none⟩) (by first | omega | (simp <;> omega))]; simp [go_sem, fn0_2, fn1_2, fn2_2]
  have fn1_3 : w3.cell? ⟨w.heap.size + 1 + 1 + 1, 1, none⟩ = some (.string { data := #[] }) := by rw [hb.cell (p := ⟨w.heap.size + 1 + 1 + 1, 1, none⟩) (by first | omega | (simp <;> omega))]; simp [go_sem, fn0_2, fn1_2, fn2_2]
  have fn2_3 : w3.cell? ⟨w.heap.size + 1 + 1 + 1, 2, none⟩ = some (.string { data := #[] }) := by rw [hb.cell (p := ⟨w.heap.size + 1 + 1 + 1, 2, none⟩) (by first | omega | (simp <;> omega))]; simp [go_sem, fn0_2, fn1_2, fn2_2]
  have gz_3 : ∀ o, w3.frozen? ⟨w.heap.size, o, none⟩ = false := fun o => by rw [hb.frozen (p := ⟨w.heap.size, o, none⟩) (by first | omega | (simp <;> omega))]; simp [go_sem, gz_2]
  have gr_3 : ∀ o, w3.frozen? ⟨w.heap.size + 1, o, none⟩ = false := fun o => by rw [hb.frozen (p := ⟨w.heap.size + 1, o, none⟩) (by first | omega | (simp <;> omega))]; simp [go_sem, gr_2]
  have gq_3 : ∀ o, w3.frozen? ⟨w.heap.size + 1 + 1, o, none⟩ = false := fun o => by rw [hb.frozen (p := ⟨w.heap.size + 1 + 1, o, none⟩) (by first | omega | (simp <;> omega))]; simp [go_sem, gq_2]
  have gn_3 : ∀ o, w3.frozen? ⟨w.heap.size + 1 + 1 + 1, o, none⟩ = false := fun o => by rw [hb.frozen (p := ⟨w.heap.size + 1 + 1 + 1, o, none⟩) (by first | omega | (simp <;> omega))]; simp [go_sem, gn_2]
  clear fz0_2 fz1_2 fz2_2 fz3_2 fz4_2 fz5_2 fr0_2 fr1_2 fr2_2 fr3_2 fr4_2 fr5_2 fq0_2 fq1_2 fq2_2 fn0_2 fn1_2 fn2_2 gz_2 gr_2 gq_2 gn_2
  clear hb
  go_wp2_with fail
  refine (HS3.out _ (HR.out.below (HB3.out))).mono ?_
  rintro e w4 ⟨rfl, hb⟩
  have hz4 : w.heap.size + 3 < w4.heap.size := by have := hb.size; (try simp at this); omega
  have HB4 : Hid (Below w.heap.size w w4) := (HB3.out).trans (hb.mono (by first | omega | (simp <;> omega)))
  have fz0_4 : w4.cell? ⟨w.heap.size, 0, none⟩ = some (.slice (some ⟨g, 0, none⟩) m c) := by rw [hb.cell (p := ⟨w.heap.size, 0, none⟩) (by first | omega | (simp <;> omega))]; simp [go_sem, fz0_3, fz1_3, fz2_3, fz3_3, fz4_3, fz5_3]
  have fz1_4 : w4.cell? ⟨w.heap.size, 1, none⟩ = some (.int .i64 (i1 : Int)) := by rw [hb.cell (p := ⟨w.heap.size, 1, none⟩) (by first | omega | (simp <;> omega))]; simp [go_sem, fz0_3, fz1_3, fz2_3, fz3_3, fz4_3, fz5_3]
  have fz2_4 : w4.cell? ⟨w.heap.size, 2, none⟩ = some (.int .i64 (nd : Int)) := by rw [hb.cell (p := ⟨w.heap.size, 2, none⟩) (by first | omega | (simp <;> omega))]; simp [go_sem, fz0_3, fz1_3, fz2_3, fz3_3, fz4_3, fz5_3]
  have fz3_4 : w4.cell? ⟨w.heap.size, 3, none⟩ = some (.int .i64 0) := by rw [hb.cell (p := ⟨w.heap.size, 3, none⟩) (by first | omega | (simp <;> omega))]; simp [go_sem, fz0_3, fz1_3, fz2_3, fz3_3, fz4_3, fz5_3]
  have fz4_4 : w4.cell? ⟨w.heap.size, 4, none⟩ = some (.int .i64 at_) := by rw [hb.cell (p := ⟨w.heap.size, 4, none⟩) (by first | omega | (simp <;> omega))]; simp [go_sem, fz0_3, fz1_3, fz2_3, fz3_3, fz4_3, fz5_3]
  have fz5_4 : w4.cell? ⟨w.heap.size, 5, none⟩ = some (.string S) := by rw [hb.cell (p := ⟨w.heap.size, 5, none⟩) (by first | omega | (simp <;> omega))]; simp [go_sem, fz0_3, fz1_3, fz2_3, fz3_3, fz4_3, fz5_3]
  have fr0_4 : w4.cell? ⟨w.heap.size + 1, 0, none⟩ = some (.slice none 0 0) := by rw [hb.cell (p := ⟨w.heap.size + 1, 0, none⟩) (by first | omega | (simp <;> omega))]; simp [go_sem, fr0_3, fr1_3, fr2_3, fr3_3, fr4_3, fr5_3]
  have fr1_4 : w4.cell? ⟨w.heap.size + 1, 1, none⟩ = some (.int .i64 0) := by rw [hb.cell (p := ⟨w.heap.size + 1, 1, none⟩) (by first | omega | (simp <;> omega))]; simp [go_sem, fr0_3, fr1_3, fr2_3, fr3_3, fr4_3, fr5_3]
  have fr2_4 : w4.cell? ⟨w.heap.size + 1, 2, none⟩ = some (.int .i64 0) := by rw [hb.cell (p := ⟨w.heap.size + 1, 2, none⟩) (by first | omega | (simp <;> omega))]; simp [go_sem, fr0_3, fr1_3, fr2_3, fr3_3, fr4_3, fr5_3]
  have fr3_4 : w4.cell? ⟨w.heap.size + 1, 3, none⟩ = some (.int .i64 0) := by rw [hb.cell (p := ⟨w.heap.size + 1, 3, none⟩) (by first | omega | (simp <;> omega))]; simp [go_sem, fr0_3, fr1_3, fr2_3, fr3_3, fr4_3, fr5_3]
  have fr4_4 : w4.cell? ⟨w.heap.size + 1, 4, none⟩ = some (.int .i64 0) := by rw [hb.cell (p := ⟨w.heap.size + 1, 4, none⟩) (by first | omega | (simp <;> omega))]; simp [go_sem, fr0_3, fr1_3, fr2_3, fr3_3, fr4_3, fr5_3]
  have fr5_4 : w4.cell? ⟨w.heap.size + 1, 5, none⟩ = some (.string { data := #[] }) := by rw [hb.cell (p := ⟨w.heap.size + 1, 5, none⟩) (by first | omega | (simp <;> omega))]; simp [go_sem, fr0_3, fr1_3, fr2_3, fr3_3, fr4_3, fr5_3]
  have fq0_4 : w4.cell? ⟨w.heap.size + 1 + 1, 0, none⟩ = some (.int .i64 0) := by rw [hb.cell (p := ⟨w.heap.size + 1 + 1, 0, none⟩) (by first | omega | (simp <;> omega))]; simp [go_sem, fq0_3, fq1_3, fq2_3]
  have fq1_4 : w4.cell? ⟨w.heap.size + 1 + 1, 1, none⟩ = some (.string { data := #[] }) := by rw [hb.cell (p := ⟨w.heap.size + 1 + 1, 1, none⟩) (by first | omega | (simp <;> omega))]; simp [go_sem, fq0_3, fq1_3, fq2_3]
  have fq2_4 : w4.cell? ⟨w.heap.size + 1 + 1, 2, none⟩ = some (.string { data := #[] }) := by rw [hb.cell (p := ⟨w.heap.size + 1 + 1, 2, none⟩) (by first | omega | (simp <;> omega))]; simp [go_sem, fq0_3, fq1_3, fq2_3]
  have fn0_4 : w4.cell? ⟨w.heap.size + 1 + 1 + 1, 0, none⟩ = some (.int .i64 4) := by rw [hb.cell (p := ⟨w.heap.size + 1 + 1 + 1, 0, none⟩) (by first | omega | (simp <;> omega))]; simp [go_sem, fn0_3, fn1_3, fn2_3]
  have fn1_4 : w4.cell? ⟨w.heap.size + 1 + 1 + 1, 1, none⟩ = some (.string { data := #[] }) := by rw [hb.cell (p := ⟨w.heap.size + 1 + 1 + 1, 1, none⟩) (by first | omega | (simp <;> omega))]; simp [go_sem, fn0_3, fn1_3, fn2_3]
  have fn2_4 : w4.cell? ⟨w.heap.size + 1 + 1 + 1, 2, none⟩ = some (.string { data := #[] }) := by rw [hb.cell (p := ⟨w.heap.size + 1 + 1 + 1, 2, none⟩) (by first | omega | (simp <;> omega))]; simp [go_sem, fn0_3, fn1_3, fn2_3]
  have gz_4 : ∀ o, w4.frozen? ⟨w.heap.size, o, none⟩ = false := fun o => by rw [hb.frozen (p := ⟨w.heap.size, o, none⟩) (by first | omega | (simp <;> omega))]; simp [go_sem, gz_3]
  have gr_4 : ∀ o, w4.frozen? ⟨w.heap.size + 1, o, none⟩ = false := fun o => by rw [hb.frozen (p := ⟨w.heap.size + 1, o, none⟩) (by first | omega | (simp <;> omega))]; simp [go_sem, gr_3]
  have gq_4 : ∀ o, w4.frozen? ⟨w.heap.size + 1 + 1, o, none⟩ = false := fun o => by rw [hb.frozen (p := ⟨w.heap.size + 1 + 1, o, none⟩) (by first | omega | (simp <;> omega))]; simp [go_sem, gq_3]
  have gn_4 : ∀ o, w4.frozen? ⟨w.heap.size + 1 + 1 + 1, o, none⟩ = false := fun o => by rw [hb.frozen (p := ⟨w.heap.size + 1 + 1 + 1, o, none⟩) (by first | omega | (simp <;> omega))]; simp [go_sem, gn_3]
  clear fz0_3 fz1_3 fz2_3 fz3_3 fz4_3 fz5_3 fr0_3 fr1_3 fr2_3 fr3_3 fr4_3 fr5_3 fq0_3 fq1_3 fq2_3 fn0_3 fn1_3 fn2_3 gz_3 gr_3 gq_3 gn_3
  clear hb
  go_wp2_with fail
  refine (HS4.out _ (HR.out.below (HB4.out))).mono ?_
  rintro e w5 ⟨rfl, hb⟩
  have hz5 : w.heap.size + 3 < w5.heap.size := by have := hb.size; (try simp at this); omega
  have HB5 : Hid (Below w.heap.size w w5) := (HB4.out).trans (hb.mono (by first | omega | (simp <;> omega)))
  have fz0_5 : w5.cell? ⟨w.heap.size, 0, none⟩ = some (.slice (some ⟨g, 0, none⟩) m c) := by rw [hb.cell (p := ⟨w.heap.size, 0, none⟩) (by first | omega | (simp <;> omega))]; simp [go_sem, fz0_4, fz1_4, fz2_4, fz3_4, fz4_4, fz5_4]
  have fz1_5 : w5.cell? ⟨w.heap.size, 1, none⟩ = some (.int .i64 (i1 : Int)) := by rw [hb.cell (p := ⟨w.heap.size, 1, none⟩) (by first | omega | (simp <;> omega))]; simp [go_sem, fz0_4, fz1_4, fz2_4, fz3_4, fz4_4, fz5_4]
  have fz2_5 : w5.cell? ⟨w.heap.size, 2, none⟩ = some (.int .i64 (nd : Int)) := by rw [hb.cell (p := ⟨w.heap.size, 2, none⟩) (by first | omega | (simp <;> omega))]; simp [go_sem, fz0_4, fz1_4, fz2_4, fz3_4, fz4_4, fz5_4]
  have fz3_5 : w5.cell? ⟨w.heap.size, 3, none⟩ = some (.int .i64 0) := by rw [hb.cell (p := ⟨w.heap.size, 3, none⟩) (by first | omega | (simp <;> omega))]; simp [go_sem, fz0_4, fz1_4, fz2_4, fz3_4, fz4_4, fz5_4]
  have fz4_5 : w5.cell? ⟨w.heap.size, 4, none⟩ = some (.int .i64 at_) := by rw [hb.cell (p := ⟨w.heap.size, 4, none⟩) (by first | omega | (simp <;> omega))]; simp [go_sem, fz0_4, fz1_4, fz2_4, fz3_4, fz4_4, fz5_4]
  have fz5_5 : w5.cell? ⟨w.heap.size, 5, none⟩ = some (.string S) := by rw [hb.cell (p := ⟨w.heap.size, 5, none⟩) (by first | omega | (simp <;> omega))]; simp [go_sem, fz0_4, fz1_4, fz2_4, fz3_4, fz4_4, fz5_4]
  have fr0_5 : w5.cell? ⟨w.heap.size + 1, 0, none⟩ = some (.slice none 0 0) := by rw [hb.cell (p := ⟨w.heap.size + 1, 0, none⟩) (by first | omega | (simp <;> omega))]; simp [go_sem, fr0_4, fr1_4, fr2_4, fr3_4, fr4_4, fr5_4]
  have fr1_5 : w5.cell? ⟨w.heap.size + 1, 1, none⟩ = some (.int .i64 0) := by rw [hb.cell (p := ⟨w.heap.size + 1, 1, none⟩) (by first | omega | (simp <;> omega))]; simp [go_sem, fr0_4, fr1_4, fr2_4, fr3_4, fr4_4, fr5_4]
  have fr2_5 : w5.cell? ⟨w.heap.size + 1, 2, none⟩ = some (.int .i64 0) := by rw [hb.cell (p := ⟨w.heap.size + 1, 2, none⟩) (by first | omega | (simp <;> omega))]; simp [go_sem, fr0_4, fr1_4, fr2_4, fr3_4, fr4_4, fr5_4]
  have fr3_5 : w5.cell? ⟨w.heap.size + 1, 3, none⟩ = some (.int .i64 0) := by rw [hb.cell (p := ⟨w.heap.size + 1, 3, none⟩) (by first | omega | (simp <;> omega))]; simp [go_sem, fr0_4, fr1_4, fr2_4, fr3_4, fr4_4, fr5_4]
  have fr4_5 : w5.cell? ⟨w.heap.size + 1, 4, none⟩ = some (.int .i64 0) := by rw [hb.cell (p := ⟨w.heap.size + 1, 4, none⟩) (by first | omega | (simp <;> omega))]; simp [go_sem, fr0_4, fr1_4, fr2_4, fr3_4, fr4_4, fr5_4]
  have fr5_5 : w5.cell? ⟨w.heap.size + 1, 5, none⟩ = some (.string { data := #[] }) := by rw [hb.cell (p := ⟨w.heap.size + 1, 5, none⟩) (by first | omega | (simp <;> omega))]; simp [go_sem, fr0_4, fr1_4, fr2_4, fr3_4, fr4_4, fr5_4]
  have fq0_5 : w5.cell? ⟨w.heap.size + 1 + 1, 0, none⟩ = some (.int .i64 0) := by rw [hb.cell (p := ⟨w.heap.size + 1 + 1, 0, none⟩) (by first | omega | (simp <;> omega))]; simp [go_sem, fq0_4, fq1_4, fq2_4]
  have fq1_5 : w5.cell? ⟨w.heap.size + 1 + 1, 1, none⟩ = some (.string { data := #[] }) := by rw [hb.cell (p := ⟨w.heap.size + 1 + 1, 1, none⟩) (by first | omega | (simp <;> omega))]; simp [go_sem, fq0_4, fq1_4, fq2_4]
  have fq2_5 : w5.cell? ⟨w.heap.size + 1 + 1, 2, none⟩ = some (.string { data := #[] }) := by rw [hb.cell (p := ⟨w.heap.size + 1 + 1, 2, none⟩) (by first | omega | (simp <;> omega))]; simp [go_sem, fq0_4, fq1_4, fq2_4]
  have fn0_5 : w5.cell? ⟨w.heap.size + 1 + 1 + 1, 0, none⟩ = some (.int .i64 4) := by rw [hb.cell (p := ⟨w.heap.size + 1 + 1 + 1, 0, none⟩) (by first | omega | (simp <;> omega))]; simp [go_sem, fn0_4, fn1_4, fn2_4]
  have fn1_5 : w5.cell? ⟨w.heap.size + 1 + 1 + 1, 1, none⟩ = some (.string { data := #[] }) := by rw [hb.cell (p := ⟨w.heap.size + 1 + 1 + 1, 1, none⟩) (by first | omega | (simp <;> omega))]; simp [go_sem, fn0_4, fn1_4, fn2_4]
  have fn2_5 : w5.cell? ⟨w.heap.size + 1 + 1 + 1, 2, none⟩ = some (.string { data := #[] }) := by rw [hb.cell (p := ⟨w.heap.size + 1 + 1 + 1, 2, none⟩) (by first | omega | (simp <;> omega))]; simp [go_sem, fn0_4, fn1_4, fn2_4]
  have gz_5 : ∀ o, w5.frozen? ⟨w.heap.size, o, none⟩ = false := fun o => by rw [hb.frozen (p := ⟨w.heap.size, o, none⟩) (by first | omega | (simp <;> omega))]; simp [go_sem, gz_4]
  have gr_5 : ∀ o, w5.frozen? ⟨w.heap.size + 1, o, none⟩ = false := fun o => by rw [hb.frozen (p := ⟨w.heap.size + 1, o, none⟩) (by first | omega | (simp <;> omega))]; simp [go_sem, gr_4]
  have gq_5 : ∀ o, w5.frozen? ⟨w.heap.size + 1 + 1, o, none⟩ = false := fun o => by rw [hb.frozen (p := ⟨w.heap.size + 1 + 1, o, none⟩) (by first | omega | (simp <;> omega))]; simp [go_sem, gq_4]
  have gn_5 : ∀ o, w5.frozen? ⟨w.heap.size + 1 + 1 + 1, o, none⟩ = false := fun o => by rw [hb.frozen (p := ⟨w.heap.size + 1 + 1 + 1, o, none⟩) (by first | omega | (simp <;> omega))]; simp [go_sem, gn_4]
  clear fz0_4 fz1_4 fz2_4 fz3_4 fz4_4 fz5_4 fr0_4 fr1_4 fr2_4 fr3_4 fr4_4 fr5_4 fq0_4 fq1_4 fq2_4 fn0_4 fn1_4 fn2_4 gz_4 gr_4 gq_4 gn_4
  clear hb
  go_wp2_with fail
  refine wp_region_lateS (S := SLast w (.slice (some ⟨g, 0, none⟩) m c) (.int .i64 (i4 : Int)) (.int .i64 (nd4 : Int)) (.int .i64 er4) (.int .i64 at4) (.string S4) (.int .i64 4) (.string S4) (.string { data := #[] })) 4 (by kernel_rfl) ?_ (fun W hHeld => ?_)
  · refine ⟨Cs.six ?_ ?_ ?_ ?_ ?_ ?_ ?_, ⟨_, _, _, _, _, _, Cs.six (v0 := .slice none 0 0) (v1 := .int .i64 0) (v2 := .int .i64 0) (v3 := .int .i64 0) (v4 := .int .i64 0) (v5 := .string { data := #[] }) ?_ ?_ ?_ ?_ ?_ ?_ ?_⟩, ⟨_, _, _, Cs.three (v0 := .int .i64 0) (v1 := .string { data := #[] }) (v2 := .string { data := #[] }) ?_ ?_ ?_ ?_⟩, Cs.three ?_ ?_ ?_ ?_, ?_, ?_⟩
    · simp [go_sem, fz0_5, fz1_5, fz2_5, fz3_5, fz4_5, fz5_5, fr0_5, fr1_5, fr2_5, fr3_5, fr4_5, fr5_5, fq0_5, fq1_5, fq2_5, fn0_5, fn1_5, fn2_5, gz_5, gr_5, gq_5, gn_5]
    · simp [go_sem, fz0_5, fz1_5, fz2_5, fz3_5, fz4_5, fz5_5, fr0_5, fr1_5, fr2_5, fr3_5, fr4_5, fr5_5, fq0_5, fq1_5, fq2_5, fn0_5, fn1_5, fn2_5, gz_5, gr_5, gq_5, gn_5]
    · simp [go_sem, fz0_5, fz1_5, fz2_5, fz3_5, fz4_5, fz5_5, fr0_5, fr1_5, fr2_5, fr3_5, fr4_5, fr5_5, fq0_5, fq1_5, fq2_5, fn0_5, fn1_5, fn2_5, gz_5, gr_5, gq_5, gn_5]
    · simp [go_sem, fz0_5, fz1_5, fz2_5, fz3_5, fz4_5, fz5_5, fr0_5, fr1_5, fr2_5, fr3_5, fr4_5, fr5_5, fq0_5, fq1_5, fq2_5, fn0_5, fn1_5, fn2_5, gz_5, gr_5, gq_5, gn_5]
    · simp [go_sem, fz0_5, fz1_5, fz2_5, fz3_5, fz4_5, fz5_5, fr0_5, fr1_5, fr2_5, fr3_5, fr4_5, fr5_5, fq0_5, fq1_5, fq2_5, fn0_5, fn1_5, fn2_5, gz_5, gr_5, gq_5, gn_5]
    · simp [go_sem, fz0_5, fz1_5, fz2_5, fz3_5, fz4_5, fz5_5, fr0_5, fr1_5, fr2_5, fr3_5, fr4_5, fr5_5, fq0_5, fq1_5, fq2_5, fn0_5, fn1_5, fn2_5, gz_5, gr_5, gq_5, gn_5]
    · intro o; simp [go_sem, fz0_5, fz1_5, fz2_5, fz3_5, fz4_5, fz5_5, fr0_5, fr1_5, fr2_5, fr3_5, fr4_5, fr5_5, fq0_5, fq1_5, fq2_5, fn0_5, fn1_5, fn2_5, gz_5, gr_5, gq_5, gn_5]
    · simp [go_sem, fz0_5, fz1_5, fz2_5, fz3_5, fz4_5, fz5_5, fr0_5, fr1_5, fr2_5, fr3_5, fr4_5, fr5_5, fq0_5, fq1_5, fq2_5, fn0_5, fn1_5, fn2_5, gz_5, gr_5, gq_5, gn_5]
    · simp [go_sem, fz0_5, fz1_5, fz2_5, fz3_5, fz4_5, fz5_5, fr0_5, fr1_5, fr2_5, fr3_5, fr4_5, fr5_5, fq0_5, fq1_5, fq2_5, fn0_5, fn1_5, fn2_5, gz_5, gr_5, gq_5, gn_5]
    · simp [go_sem, fz0_5, fz1_5, fz2_5, fz3_5, fz4_5, fz5_5, fr0_5, fr1_5, fr2_5, fr3_5, fr4_5, fr5_5, fq0_5, fq1_5, fq2_5, fn0_5, fn1_5, fn2_5, gz_5, gr_5, gq_5, gn_5]
    · simp [go_sem, fz0_5, fz1_5, fz2_5, fz3_5, fz4_5, fz5_5, fr0_5, fr1_5, fr2_5, fr3_5, fr4_5, fr5_5, fq0_5, fq1_5, fq2_5, fn0_5, fn1_5, fn2_5, gz_5, gr_5, gq_5, gn_5]
    · simp [go_sem, fz0_5, fz1_5, fz2_5, fz3_5, fz4_5, fz5_5, fr0_5, fr1_5, fr2_5, fr3_5, fr4_5, fr5_5, fq0_5, fq1_5, fq2_5, fn0_5, fn1_5, fn2_5, gz_5, gr_5, gq_5, gn_5]
    · simp [go_sem, fz0_5, fz1_5, fz2_5, fz3_5, fz4_5, fz5_5, fr0_5, fr1_5, fr2_5, fr3_5, fr4_5, fr5_5, fq0_5, fq1_5, fq2_5, fn0_5, fn1_5, fn2_5, gz_5, gr_5, gq_5, gn_5]
    · intro o; simp [go_sem, fz0_5, fz1_5, fz2_5, fz3_5, fz4_5, fz5_5, fr0_5, fr1_5, fr2_5, fr3_5, fr4_5, fr5_5, fq0_5, fq1_5, fq2_5, fn0_5, fn1_5, fn2_5, gz_5, gr_5, gq_5, gn_5]
    · simp [go_sem, fz0_5, fz1_5, fz2_5, fz3_5, fz4_5, fz5_5, fr0_5, fr1_5, fr2_5, fr3_5, fr4_5, fr5_5, fq0_5, fq1_5, fq2_5, fn0_5, fn1_5, fn2_5, gz_5, gr_5, gq_5, gn_5]
    · simp [go_sem, fz0_5, fz1_5, fz2_5, fz3_5, fz4_5, fz5_5, fr0_5, fr1_5, fr2_5, fr3_5, fr4_5, fr5_5, fq0_5, fq1_5, fq2_5, fn0_5, fn1_5, fn2_5, gz_5, gr_5, gq_5, gn_5]
    · simp [go_sem, fz0_5, fz1_5, fz2_5, fz3_5, fz4_5, fz5_5, fr0_5, fr1_5, fr2_5, fr3_5, fr4_5, fr5_5, fq0_5, fq1_5, fq2_5, fn0_5, fn1_5, fn2_5, gz_5, gr_5, gq_5, gn_5]
    · intro o; simp [go_sem, fz0_5, fz1_5, fz2_5, fz3_5, fz4_5, fz5_5, fr0_5, fr1_5, fr2_5, fr3_5, fr4_5, fr5_5, fq0_5, fq1_5, fq2_5, fn0_5, fn1_5, fn2_5, gz_5, gr_5, gq_5, gn_5]
    · simp [go_sem, fz0_5, fz1_5, fz2_5, fz3_5, fz4_5, fz5_5, fr0_5, fr1_5, fr2_5, fr3_5, fr4_5, fr5_5, fq0_5, fq1_5, fq2_5, fn0_5, fn1_5, fn2_5, gz_5, gr_5, gq_5, gn_5]
    · simp [go_sem, fz0_5, fz1_5, fz2_5, fz3_5, fz4_5, fz5_5, fr0_5, fr1_5, fr2_5, fr3_5, fr4_5, fr5_5, fq0_5, fq1_5, fq2_5, fn0_5, fn1_5, fn2_5, gz_5, gr_5, gq_5, gn_5]
    · simp [go_sem, fz0_5, fz1_5, fz2_5, fz3_5, fz4_5, fz5_5, fr0_5, fr1_5, fr2_5, fr3_5, fr4_5, fr5_5, fq0_5, fq1_5, fq2_5, fn0_5, fn1_5, fn2_5, gz_5, gr_5, gq_5, gn_5]
    · intro o; simp [go_sem, fz0_5, fz1_5, fz2_5, fz3_5, fz4_5, fz5_5, fr0_5, fr1_5, fr2_5, fr3_5, fr4_5, fr5_5, fq0_5, fq1_5, fq2_5, fn0_5, fn1_5, fn2_5, gz_5, gr_5, gq_5, gn_5]
    · exact ((((((((HB5.out).setCell (by first | omega | (simp <;> omega)) _).setCell (by first | omega | (simp <;> omega)) _).setCell (by first | omega | (simp <;> omega)) _).setCell (by first | omega | (simp <;> omega)) _).setCell (by first | omega | (simp <;> omega)) _).setCell (by first | omega | (simp <;> omega)) _).setCell (by first | omega | (simp <;> omega)) _).drew
    · simp; omega
  clear fz0_5 fz1_5 fz2_5 fz3_5 fz4_5 fz5_5 fr0_5 fr1_5 fr2_5 fr3_5 fr4_5 fr5_5 fq0_5 fq1_5 fq2_5 fn0_5 fn1_5 fn2_5 gz_5 gr_5 gq_5 gn_5 hz5
  refine tk 0 .zero (v := .agg #[.slice (some ⟨g, 0, none⟩) m c, .int .i64 (i4 : Int), .int .i64 (nd4 : Int), .int .i64 er4, .int .i64 at4, .string S4]) ?_ ?_
  · intro w' h
    have a0 := h.1.1 0 _ rfl
    have a1 := h.1.1 1 _ rfl
    have a2 := h.1.1 2 _ rfl
    have a3 := h.1.1 3 _ rfl
    have a4 := h.1.1 4 _ rfl
    have a5 := h.1.1 5 _ rfl
    clear h
    go_simp
  simp only [tkp]
  refine tk 2 (.succ (.succ .zero)) (v := .agg #[.int .i64 4, .string S4, .string { data := #[] }]) ?_ ?_
  · intro w' h
    have a0 := h.2.2.2.1.1 0 _ rfl
    have a1 := h.2.2.2.1.1 1 _ rfl
    have a2 := h.2.2.2.1.1 2 _ rfl
    clear h
    go_simp
  simp only [tkp]
  refine tk1 1 (.succ .zero) (fun K hK => ?_)
  refine stepTc (by rfl) 103 43 (.string { data := #[41] }) _ (by rfl) (.agg #[.slice (some ⟨g, 0, none⟩) m c, .int .i64 (i4 : Int), .int .i64 (nd4 : Int), .int .i64 er4, .int .i64 at4, .string S4]) (by rfl) (fun _ _ => by rfl) ?_
  refine (HS7.out W (HR.out.below hHeld.2.2.2.2.1)).mono ?_
  rintro e W2 ⟨rfl, hb⟩
  refine ⟨_, rfl, hK.out _ _ (fun _ => hHeld.below hb) (fun hG => ?_)⟩
  clear hK K hHeld hb
  have hHeld := hG (by decide)
  clear hG W
  obtain ⟨hZ, ⟨v0, v1, v2, v3, v4, v5, hr⟩, ⟨u0, u1, u2, hq⟩, hn, hbel, hsz⟩ := hHeld
  have r0 := hr.1 0 _ rfl
  have r1 := hr.1 1 _ rfl
  have r2 := hr.1 2 _ rfl
  have r3 := hr.1 3 _ rfl
  have r4 := hr.1 4 _ rfl
  have r5 := hr.1 5 _ rfl
  have q0 := hq.1 0 _ rfl
  have q1 := hq.1 1 _ rfl
  have q2 := hq.1 2 _ rfl
  have rf := hr.2
  have qf := hq.2
  have HZ : Hid (Cs W2 w.heap.size [.slice (some ⟨g, 0, none⟩) m c, .int .i64 (i4 : Int), .int .i64 (nd4 : Int), .int .i64 er4, .int .i64 at4, .string S4] ∧ Cs W2 (w.heap.size + 1 + 1 + 1) [.int .i64 4, .string S4, .string { data := #[] }] ∧ Below w.heap.size w W2) := ⟨hZ, hn, hbel⟩
  clear hr hq hZ hn hbel
  simp only [tkp]
  refine tk1 3 (.succ (.succ (.succ .zero))) (fun K hK => ?_)
  skip
  go_simp
  refine hK.out _ _ (fun _ => ?_) (fun hG => ?_)
  · refine ⟨⟨fun o u hu => ?_, fun o => ?_⟩, ⟨_, _, _, _, _, _, Cs.six (v0 := .slice (some ⟨g, 0, none⟩) m c) (v1 := .int .i64 (i7 : Int)) (v2 := .int .i64 (nd7 : Int)) (v3 := .int .i64 er7) (v4 := .int .i64 at7) (v5 := .string (strT got7)) ?_ ?_ ?_ ?_ ?_ ?_ ?_⟩, ⟨u0, u1, u2, Cs.three ?_ ?_ ?_ ?_⟩, ⟨fun o u hu => ?_, fun o => ?_⟩, ?_, ?_⟩
    · have := HZ.out.1.1 o u hu
      simpa [go_sem] using this
    · have := HZ.out.1.2 o
      simpa [go_sem] using this
    · simp [go_sem, r0, r1, r2, r3, r4, r5]
    · simp [go_sem, r0, r1, r2, r3, r4, r5]
    · simp [go_sem, r0, r1, r2, r3, r4, r5]
    · simp [go_sem, r0, r1, r2, r3, r4, r5]
    · simp [go_sem, r0, r1, r2, r3, r4, r5]
    · simp [go_sem, r0, r1, r2, r3, r4, r5]
    · intro o; simp [go_sem, rf]
    · simp [go_sem, q0, q1, q2]
    · simp [go_sem, q0, q1, q2]
    · simp [go_sem, q0, q1, q2]
    · intro o; simp [go_sem, qf]
    · have := HZ.out.2.1.1 o u hu
      simpa [go_sem] using this
    · have := HZ.out.2.1.2 o
      simpa [go_sem] using this
    · exact ((((((HZ.out.2.2).setCell (by first | omega | (simp <;> omega)) _).setCell (by first | omega | (simp <;> omega)) _).setCell (by first | omega | (simp <;> omega)) _).setCell (by first | omega | (simp <;> omega)) _).setCell (by first | omega | (simp <;> omega)) _).setCell (by first | omega | (simp <;> omega)) _
    · simp; omega
  clear hK K hG
  try simp only [tkp]
  refine tk1 4 (.succ (.succ (.succ (.succ .zero)))) (fun K hK => ?_)
  go_simp
  refine hK.out _ _ (fun hne => absurd rfl hne) (fun hG => ?_)
  clear hK K hG
  refine wpLate_done (by kernel_rfl) ?_ _
  go_wp2
  refine bodyPost_ret (v := .tuple #[.agg #[.slice (some ⟨g, 0, none⟩) m c, .int .i64 (i7 : Int), .int .i64 (nd7 : Int), .int .i64 er7, .int .i64 at7, .string (strT got7)], .agg #[.int .i64 4, .string S4, .string { data := #[] }]]) (by simp [results, Try.results106, go_sem, r0, r1, r2, r3, r4, r5, q0, q1, q2]) rfl ⟨?_, ?_⟩
  · rw [HE.out]
    rw [HV4.out.2]; rfl
  · exact (((((((((HZ.out.2.2).setCell (by first | omega | (simp <;> omega)) _).setCell (by first | omega | (simp <;> omega)) _).setCell (by first | omega | (simp <;> omega)) _).setCell (by first | omega | (simp <;> omega)) _).setCell (by first | omega | (simp <;> omega)) _).setCell (by first | omega | (simp <;> omega)) _).setCell (by first | omega | (simp <;> omega)) _).setCell (by first | omega | (simp <;> omega)) _).setCell (by first | omega | (simp <;> omega)) _

set_option maxHeartbeats 4000000 in
theorem l6Step_has {T : Nat → Tok} {A : Nat → Nat} (hT : ∀ i, (T i).c ≤ 15) (g m c : Nat) (p : Pr) (w : World) (hR : RdK w g m T A) (hl : LastK T m) (h0 : p.er = 0) (hi : p.i + 1 < m) (hm : m ≤ 3000) (hnd : p.nd ≤ 100) (hk : (T (p.i + 1)).c = 5) :
    Calls Try.prog 106 #[prV g m c p] w fun r w' => r = .returned (.tuple #[prV g m c (stepP T A p).1, ndV (stepP T A p).2]) ∧ Below w.heap.size w w' := by
  obtain ⟨er, at_, i, nd, got⟩ := p
  obtain rfl : er = 0 := h0
  have hi2 : i + 1 < m := hi
  obtain ⟨i1, hi1⟩ : ∃ i1, i1 = i + 1 := ⟨_, rfl⟩
  have hk' : (T i1).c = 5 := by rw [hi1]; exact hk
  obtain ⟨p1, hp1⟩ : ∃ p1 : Pr, p1 = ⟨0, at_, i1, nd, got⟩ := ⟨_, rfl⟩
  have hi' : p1.i < m := by rw [hp1]; show i1 < m; rw [hi1]; exact hi
  have hnd' : p1.nd ≤ 100 := by rw [hp1]; exact hnd
  have hkp : (T p1.i).c = (T i1).c := by rw [hp1]
  have HR : Hid (RdK w g m T A) := hR
  have HE : Hid (stepP T A ⟨0, at_, i, nd, got⟩ = (symP T A (strP T A (symP T A (strP T A (symP T A (mkP T A p1) 11)) 13)) 12, ⟨5, (strP T A (symP T A (mkP T A p1) 11)).got, (strP T A (symP T A (strP T A (symP T A (mkP T A p1) 11)) 13)).got⟩)) := by
    show _ = _
    unfold stepP
    rw [show ({ (⟨0, at_, i, nd, got⟩ : Pr) with i := (⟨0, at_, i, nd, got⟩ : Pr).i + 1 } : Pr) = p1 by rw [hp1, hi1]]
    unfold stepQ stepK
    have y : p1.er = 0 ∧ (T p1.i).c = 5 := ⟨by rw [hp1], by rw [hkp]; exact hk'⟩
    have n4 : ¬ (p1.er = 0 ∧ (T p1.i).c = 4) := fun e => by rw [y.2] at e; omega
    rw [if_neg n4, if_pos y, if_neg (fun e => by omega), if_pos rfl]
  have PV : ∀ S, S = strT got → prV g m c p1 = .agg #[.slice (some ⟨g, 0, none⟩) m c, .int .i64 (i1 : Int), .int .i64 (nd : Int), .int .i64 0, .int .i64 at_, .string S] := fun S hS => by rw [hp1, hS]; rfl
  obtain ⟨S, hS⟩ : ∃ S, S = strT got := ⟨_, rfl⟩
  have PV := PV S hS
  have HI4 : Hid (∀ W, RdK W g m T A → Calls Try.prog 101 #[.agg #[.slice (some ⟨g, 0, none⟩) m c, .int .i64 (i1 : Int), .int .i64 (nd : Int), .int .i64 0, .int .i64 at_, .string S], .int .i64 1, .string { data := #[105, 110] }] W fun r w' => r = .returned (.bool false) ∧ Below W.heap.size W w') := fun W hW => by
    rw [← PV]
    refine (l6Is_c hT 4 1 _ rfl rfl (by omega) (by omega) g m c p1 W hW hi' hm).mono ?_
    rintro e w' ⟨rfl, hb⟩
    exact ⟨by rw [show decide (p1.er = 0 ∧ (T p1.i).c = 4) = false from decide_eq_false (fun e => by rw [hkp] at e; omega)], hb⟩
  have HI5 : Hid (∀ W, RdK W g m T A → Calls Try.prog 101 #[.agg #[.slice (some ⟨g, 0, none⟩) m c, .int .i64 (i1 : Int), .int .i64 (nd : Int), .int .i64 0, .int .i64 at_, .string S], .int .i64 1, .string { data := #[104, 97, 115] }] W fun r w' => r = .returned (.bool true) ∧ Below W.heap.size W w') := fun W hW => by
    rw [← PV]
    refine (l6Is_c hT 5 1 _ rfl rfl (by omega) (by omega) g m c p1 W hW hi' hm).mono ?_
    rintro e w' ⟨rfl, hb⟩
    exact ⟨by rw [show decide (p1.er = 0 ∧ (T p1.i).c = 5) = true from decide_eq_true ⟨by rw [hp1], by rw [hkp]; exact hk'⟩], hb⟩
  have HI3 : Hid (∀ W, RdK W g m T A → Calls Try.prog 101 #[.agg #[.slice (some ⟨g, 0, none⟩) m c, .int .i64 (i1 : Int), .int .i64 (nd : Int), .int .i64 0, .int .i64 at_, .string S], .int .i64 1, .string { data := #[111, 117, 116] }] W fun r w' => r = .returned (.bool false) ∧ Below W.heap.size W w') := fun W hW => by
    rw [← PV]
    refine (l6Is_c hT 3 1 _ rfl rfl (by omega) (by omega) g m c p1 W hW hi' hm).mono ?_
    rintro e w' ⟨rfl, hb⟩
    exact ⟨by rw [show decide (p1.er = 0 ∧ (T p1.i).c = 3) = false from decide_eq_false (fun e => by rw [hkp] at e; omega)], hb⟩
  have HB0 : Hid (∀ o1 o2 o3 o4, Below w.heap.size w ((((w.alloc o1).alloc o2).alloc o3).alloc o4)) := fun o1 o2 o3 o4 => (((below_alloc _ _).alloc (by first | omega | (simp <;> omega)) _).alloc (by first | omega | (simp <;> omega)) _).alloc (by first | omega | (simp <;> omega)) _
  have HM : Hid (∀ W, RdK W g m T A → Calls Try.prog 102 #[.agg #[.slice (some ⟨g, 0, none⟩) m c, .int .i64 (i1 : Int), .int .i64 (nd : Int), .int .i64 0, .int .i64 at_, .string S]] W fun r w' => r = .returned (prV g m c (mkP T A p1)) ∧ Below W.heap.size W w') := fun W hW => by
    rw [← PV]
    exact l6Makes_any hT g m c p1 W hW hi' hm hnd'
  have l2 : (mkP T A p1).i < m := mk_lt hl hi' (by rw [hkp]; omega) (by rw [hkp]; omega)
  have l3 : (symP T A (mkP T A p1) 11).i < m := sym_lt hl l2 (by omega) (by omega)
  have l4 : (strP T A (symP T A (mkP T A p1) 11)).i < m := str_lt hl l3
  obtain ⟨p4, hp4⟩ : ∃ p4, p4 = strP T A (symP T A (mkP T A p1) 11) := ⟨_, rfl⟩
  rw [← hp4] at l4 HE
  have HS3 : Hid (∀ W, RdK W g m T A → Calls Try.prog 103 #[prV g m c (mkP T A p1), .string { data := #[40] }] W fun r w' => r = .returned (prV g m c (symP T A (mkP T A p1) 11)) ∧ Below W.heap.size W w') := fun W hW => l6Sym_any hT 11 _ rfl rfl (by omega) (by omega) g m c _ W hW l2 hm
  have HS4 : Hid (∀ W, RdK W g m T A → Calls Try.prog 104 #[prV g m c (symP T A (mkP T A p1) 11)] W fun r w' => r = .returned (prV g m c p4) ∧ Below W.heap.size W w') := fun W hW => by
    rw [hp4]
    exact l6Str_any hT g m c _ W hW l3 hm
  clear hp4 l2 l3
  generalize mkP T A p1 = p2 at *
  generalize symP T A p2 11 = p3 at *
  have l5 : (symP T A p4 13).i < m := sym_lt hl l4 (by omega) (by omega)
  have l6 : (strP T A (symP T A p4 13)).i < m := str_lt hl l5
  obtain ⟨p6, hp6⟩ : ∃ p6, p6 = strP T A (symP T A p4 13) := ⟨_, rfl⟩
  rw [← hp6] at l6 HE
  obtain ⟨er4, at4, i4, nd4, got4⟩ := p4
  obtain ⟨er6, at6, i6, nd6, got6⟩ := p6
  obtain ⟨S4, hS4⟩ : ∃ S4, S4 = strT got4 := ⟨_, rfl⟩
  obtain ⟨S6, hS6⟩ : ∃ S6, S6 = strT got6 := ⟨_, rfl⟩
  have HV4 : Hid (prV g m c ⟨er4, at4, i4, nd4, got4⟩ = .agg #[.slice (some ⟨g, 0, none⟩) m c, .int .i64 (i4 : Int), .int .i64 (nd4 : Int), .int .i64 er4, .int .i64 at4, .string S4] ∧ S4 = strT got4) := ⟨by rw [hS4]; rfl, hS4⟩
  have HV6 : Hid (prV g m c ⟨er6, at6, i6, nd6, got6⟩ = .agg #[.slice (some ⟨g, 0, none⟩) m c, .int .i64 (i6 : Int), .int .i64 (nd6 : Int), .int .i64 er6, .int .i64 at6, .string S6] ∧ S6 = strT got6) := ⟨by rw [hS6]; rfl, hS6⟩
  have HS5 : Hid (∀ W, RdK W g m T A → Calls Try.prog 103 #[.agg #[.slice (some ⟨g, 0, none⟩) m c, .int .i64 (i4 : Int), .int .i64 (nd4 : Int), .int .i64 er4, .int .i64 at4, .string S4], .string { data := #[44] }] W fun r w' => r = .returned (prV g m c (symP T A ⟨er4, at4, i4, nd4, got4⟩ 13)) ∧ Below W.heap.size W w') := fun W hW => by
    rw [← HV4.out.1]
    exact l6Sym_any hT 13 _ rfl rfl (by omega) (by omega) g m c _ W hW l4 hm
  have HS6 : Hid (∀ W, RdK W g m T A → Calls Try.prog 104 #[prV g m c (symP T A ⟨er4, at4, i4, nd4, got4⟩ 13)] W fun r w' => r = .returned (.agg #[.slice (some ⟨g, 0, none⟩) m c, .int .i64 (i6 : Int), .int .i64 (nd6 : Int), .int .i64 er6, .int .i64 at6, .string S6]) ∧ Below W.heap.size W w') := fun W hW => by
    rw [← HV6.out.1, hp6]
    exact l6Str_any hT g m c _ W hW l5 hm
  have HS7 : Hid (∀ W, RdK W g m T A → Calls Try.prog 103 #[.agg #[.slice (some ⟨g, 0, none⟩) m c, .int .i64 (i6 : Int), .int .i64 (nd6 : Int), .int .i64 er6, .int .i64 at6, .string S6], .string { data := #[41] }] W fun r w' => r = .returned (prV g m c (symP T A ⟨er6, at6, i6, nd6, got6⟩ 12)) ∧ Below W.heap.size W w') := fun W hW => by
    rw [← HV6.out.1]
    exact l6Sym_any hT 12 _ rfl rfl (by omega) (by omega) g m c _ W hW l6 hm
  rw [HV4.out.1] at HS4
  clear hp6 hS4 hS6 l4 l5 l6
  generalize symP T A ⟨er4, at4, i4, nd4, got4⟩ 13 = p5 at *
  obtain ⟨p7, hp7⟩ : ∃ p7, p7 = symP T A ⟨er6, at6, i6, nd6, got6⟩ 12 := ⟨_, rfl⟩
  rw [← hp7] at HS7 HE
  clear hp7
  obtain ⟨er7, at7, i7, nd7, got7⟩ := p7
  have HV7 : Hid (prV g m c ⟨er7, at7, i7, nd7, got7⟩ = .agg #[.slice (some ⟨g, 0, none⟩) m c, .int .i64 (i7 : Int), .int .i64 (nd7 : Int), .int .i64 er7, .int .i64 at7, .string (strT got7)]) := rfl
  rw [HV7.out] at HS7
  have e2 : IntKind.i64.wrap ((i : Int) + 1) = (i1 : Int) := by rw [hi1, IntKind.wrap_i64]; omega
  show Calls Try.prog 106 #[.agg #[.slice (some ⟨g, 0, none⟩) m c, .int .i64 (i : Int), .int .i64 (nd : Int), .int .i64 0, .int .i64 at_, .string (strT got)]] w _
  rw [← hS]
  have HP : Hid (p1 = ⟨0, at_, i1, nd, got⟩) := hp1
  clear hS hR PV hp1 hk hk' hkp hi1 hi hnd
  go_enter Try.func106, Try.ntmps106
  go_wp2_with fail
  refine (HI4.out _ (HR.out.below (HB0.out _ _ _ _))).mono ?_
  rintro e w1 ⟨rfl, hb⟩
  have hz1 : w.heap.size + 3 < w1.heap.size := by have := hb.size; (try simp at this); omega
  have HB1 : Hid (Below w.heap.size w w1) := (HB0.out _ _ _ _).trans (hb.mono (by first | omega | (simp <;> omega)))
  have fz0_1 : w1.cell? ⟨w.heap.size, 0, none⟩ = some (.slice (some ⟨g, 0, none⟩) m c) := by rw [hb.cell (p := ⟨w.heap.size, 0, none⟩) (by first | omega | (simp <;> omega))]; simp [go_sem]
  have fz1_1 : w1.cell? ⟨w.heap.size, 1, none⟩ = some (.int .i64 (i1 : Int)) := by rw [hb.cell (p := ⟨w.heap.size, 1, none⟩) (by first | omega | (simp <;> omega))]; simp [go_sem]
  have fz2_1 : w1.cell? ⟨w.heap.size, 2, none⟩ = some (.int .i64 (nd : Int)) := by rw [hb.cell (p := ⟨w.heap.size, 2, none⟩) (by first | omega | (simp <;> omega))]; simp [go_sem]
  have fz3_1 : w1.cell? ⟨w.heap.size, 3, none⟩ = some (.int .i64 0) := by rw [hb.cell (p := ⟨w.heap.size, 3, none⟩) (by first | omega | (simp <;> omega))]; simp [go_sem]
  have fz4_1 : w1.cell? ⟨w.heap.size, 4, none⟩ = some (.int .i64 at_) := by rw [hb.cell (p := ⟨w.heap.size, 4, none⟩) (by first | omega | (simp <;> omega))]; simp [go_sem]
  have fz5_1 : w1.cell? ⟨w.heap.size, 5, none⟩ = some (.string S) := by rw [hb.cell (p := ⟨w.heap.size, 5, none⟩) (by first | omega | (simp <;> omega))]; simp [go_sem]
  have fr0_1 : w1.cell? ⟨w.heap.size + 1, 0, none⟩ = some (.slice none 0 0) := by rw [hb.cell (p := ⟨w.heap.size + 1, 0, none⟩) (by first | omega | (simp <;> omega))]; simp [go_sem]
  have fr1_1 : w1.cell? ⟨w.heap.size + 1, 1, none⟩ = some (.int .i64 0) := by rw [hb.cell (p := ⟨w.heap.size + 1, 1, none⟩) (by first | omega | (simp <;> omega))]; simp [go_sem]
  have fr2_1 : w1.cell? ⟨w.heap.size + 1, 2, none⟩ = some (.int .i64 0) := by rw [hb.cell (p := ⟨w.heap.size + 1, 2, none⟩) (by first | omega | (simp <;> omega))]; simp [go_sem]
  have fr3_1 : w1.cell? ⟨w.heap.size + 1, 3, none⟩ = some (.int .i64 0) := by rw [hb.cell (p := ⟨w.heap.size + 1, 3, none⟩) (by first | omega | (simp <;> omega))]; simp [go_sem]
  have fr4_1 : w1.cell? ⟨w.heap.size + 1, 4, none⟩ = some (.int .i64 0) := by rw [hb.cell (p := ⟨w.heap.size + 1, 4, none⟩) (by first | omega | (simp <;> omega))]; simp [go_sem]
  have fr5_1 : w1.cell? ⟨w.heap.size + 1, 5, none⟩ = some (.string { data := #[] }) := by rw [hb.cell (p := ⟨w.heap.size + 1, 5, none⟩) (by first | omega | (simp <;> omega))]; simp [go_sem]
  have fq0_1 : w1.cell? ⟨w.heap.size + 1 + 1, 0, none⟩ = some (.int .i64 0) := by rw [hb.cell (p := ⟨w.heap.size + 1 + 1, 0, none⟩) (by first | omega | (simp <;> omega))]; simp [go_sem]
  have fq1_1 : w1.cell? ⟨w.heap.size + 1 + 1, 1, none⟩ = some (.string { data := #[] }) := by rw [hb.cell (p := ⟨w.heap.size + 1 + 1, 1, none⟩) (by first | omega | (simp <;> omega))]; simp [go_sem]
  have fq2_1 : w1.cell? ⟨w.heap.size + 1 + 1, 2, none⟩ = some (.string { data := #[] }) := by rw [hb.cell (p := ⟨w.heap.size + 1 + 1, 2, none⟩) (by first | omega | (simp <;> omega))]; simp [go_sem]
  have fn0_1 : w1.cell? ⟨w.heap.size + 1 + 1 + 1, 0, none⟩ = some (.int .i64 3) := by rw [hb.cell (p := ⟨w.heap.size + 1 + 1 + 1, 0, none⟩) (by first | omega | (simp <;> omega))]; simp [go_sem]
  have fn1_1 : w1.cell? ⟨w.heap.size + 1 + 1 + 1, 1, none⟩ = some (.string { data := #[] }) := by rw [hb.cell (p := ⟨w.heap.size + 1 + 1 + 1, 1, none⟩) (by first | omega | (simp <;> omega))]; simp [go_sem]
  have fn2_1 : w1.cell? ⟨w.heap.size + 1 + 1 + 1, 2, none⟩ = some (.string { data := #[] }) := by rw [hb.cell (p := ⟨w.heap.size + 1 + 1 + 1, 2, none⟩) (by first | omega | (simp <;> omega))]; simp [go_sem]
  have gz_1 : ∀ o, w1.frozen? ⟨w.heap.size, o, none⟩ = false := fun o => by rw [hb.frozen (p := ⟨w.heap.size, o, none⟩) (by first | omega | (simp <;> omega))]; simp [go_sem]
  have gr_1 : ∀ o, w1.frozen? ⟨w.heap.size + 1, o, none⟩ = false := fun o => by rw [hb.frozen (p := ⟨w.heap.size + 1, o, none⟩) (by first | omega | (simp <;> omega))]; simp [go_sem]
  have gq_1 : ∀ o, w1.frozen? ⟨w.heap.size + 1 + 1, o, none⟩ = false := fun o => by rw [hb.frozen (p := ⟨w.heap.size + 1 + 1, o, none⟩) (by first | omega | (simp <;> omega))]; simp [go_sem]
  have gn_1 : ∀ o, w1.frozen? ⟨w.heap.size + 1 + 1 + 1, o, none⟩ = false := fun o => by rw [hb.frozen (p := ⟨w.heap.size + 1 + 1 + 1, o, none⟩) (by first | omega | (simp <;> omega))]; simp [go_sem]
  clear hb
  go_wp2_with fail
  refine (HI5.out _ (HR.out.below (HB1.out))).mono ?_
  rintro e w2 ⟨rfl, hb⟩
  have hz2 : w.heap.size + 3 < w2.heap.size := by have := hb.size; (try simp at this); omega
  have HB2 : Hid (Below w.heap.size w w2) := (HB1.out).trans (hb.mono (by first | omega | (simp <;> omega)))
  have fz0_2 : w2.cell? ⟨w.heap.size, 0, none⟩ = some (.slice (some ⟨g, 0, none⟩) m c) := by rw [hb.cell (p := ⟨w.heap.size, 0, none⟩) (by first | omega | (simp <;> omega))]; simp [go_sem, fz0_1, fz1_1, fz2_1, fz3_1, fz4_1, fz5_1]
  have fz1_2 : w2.cell? ⟨w.heap.size, 1, none⟩ = some (.int .i64 (i1 : Int)) := by rw [hb.cell (p := ⟨w.heap.size, 1, none⟩) (by first | omega | (simp <;> omega))]; simp [go_sem, fz0_1, fz1_1, fz2_1, fz3_1, fz4_1, fz5_1]
  have fz2_2 : w2.cell? ⟨w.heap.size, 2, none⟩ = some (.int .i64 (nd : Int)) := by rw [hb.cell (p := ⟨w.heap.size, 2, none⟩) (by first | omega | (simp <;> omega))]; simp [go_sem, fz0_1, fz1_1, fz2_1, fz3_1, fz4_1, fz5_1]
  have fz3_2 : w2.cell? ⟨w.heap.size, 3, none⟩ = some (.int .i64 0) := by rw [hb.cell (p := ⟨w.heap.size, 3, none⟩) (by first | omega | (simp <;> omega))]; simp [go_sem, fz0_1, fz1_1, fz2_1, fz3_1, fz4_1, fz5_1]
  have fz4_2 : w2.cell? ⟨w.heap.size, 4, none⟩ = some (.int .i64 at_) := by rw [hb.cell (p := ⟨w.heap.size, 4, none⟩) (by first | omega | (simp <;> omega))]; simp [go_sem, fz0_1, fz1_1, fz2_1, fz3_1, fz4_1, fz5_1]
  have fz5_2 : w2.cell? ⟨w.heap.size, 5, none⟩ = some (.string S) := by rw [hb.cell (p := ⟨w.heap.size, 5, none⟩) (by first | omega | (simp <;> omega))]; simp [go_sem, fz0_1, fz1_1, fz2_1, fz3_1, fz4_1, fz5_1]
  have fr0_2 : w2.cell? ⟨w.heap.size + 1, 0, none⟩ = some (.slice none 0 0) := by rw [hb.cell (p := ⟨w.heap.size + 1, 0, none⟩) (by first | omega | (simp <;> omega))]; simp [go_sem, fr0_1, fr1_1, fr2_1, fr3_1, fr4_1, fr5_1]
  have fr1_2 : w2.cell? ⟨w.heap.size + 1, 1, none⟩ = some (.int .i64 0) := by rw [hb.cell (p := ⟨w.heap.size + 1, 1, none⟩) (by first | omega | (simp <;> omega))]; simp [go_sem, fr0_1, fr1_1, fr2_1, fr3_1, fr4_1, fr5_1]
  have fr2_2 : w2.cell? ⟨w.heap.size + 1, 2, none⟩ = some (.int .i64 0) := by rw [hb.cell (p := ⟨w.heap.size + 1, 2, none⟩) (by first | omega | (simp <;> omega))]; simp [go_sem, fr0_1, fr1_1, fr2_1, fr3_1, fr4_1, fr5_1]
  have fr3_2 : w2.cell? ⟨w.heap.size + 1, 3, none⟩ = some (.int .i64 0) := by rw [hb.cell (p := ⟨w.heap.size + 1, 3, none⟩) (by first | omega | (simp <;> omega))]; simp [go_sem, fr0_1, fr1_1, fr2_1, fr3_1, fr4_1, fr5_1]
  have fr4_2 : w2.cell? ⟨w.heap.size + 1, 4, none⟩ = some (.int .i64 0) := by rw [hb.cell (p := ⟨w.heap.size + 1, 4, none⟩) (by first | omega | (simp <;> omega))]; simp [go_sem, fr0_1, fr1_1, fr2_1, fr3_1, fr4_1, fr5_1]
  have fr5_2 : w2.cell? ⟨w.heap.size + 1, 5, none⟩ = some (.string { data := #[] }) := by rw [hb.cell (p := ⟨w.heap.size + 1, 5, none⟩) (by first | omega | (simp <;> omega))]; simp [go_sem, fr0_1, fr1_1, fr2_1, fr3_1, fr4_1, fr5_1]
  have fq0_2 : w2.cell? ⟨w.heap.size + 1 + 1, 0, none⟩ = some (.int .i64 0) := by rw [hb.cell (p := ⟨w.heap.size + 1 + 1, 0, none⟩) (by first | omega | (simp <;> omega))]; simp [go_sem, fq0_1, fq1_1, fq2_1]
  have fq1_2 : w2.cell? ⟨w.heap.size + 1 + 1, 1, none⟩ = some (.string { data := #[] }) := by rw [hb.cell (p := ⟨w.heap.size + 1 + 1, 1, none⟩) (by first | omega | (simp <;> omega))]; simp [go_sem, fq0_1, fq1_1, fq2_1]
  have fq2_2 : w2.cell? ⟨w.heap.size + 1 + 1, 2, none⟩ = some (.string { data := #[] }) := by rw [hb.cell (p := ⟨w.heap.size + 1 + 1, 2, none⟩) (by first | omega | (simp <;> omega))]; simp [go_sem, fq0_1, fq1_1, fq2_1]
  have fn0_2 : w2.cell? ⟨w.heap.size + 1 + 1 + 1, 0, none⟩ = some (.int .i64 3) := by rw [hb.cell (p := ⟨w.heap.size + 1 + 1 + 1, 0, none⟩) (by first | omega | (simp <;> omega))]; simp [go_sem, fn0_1, fn1_1, fn2_1]
  have fn1_2 : w2.cell? ⟨w.heap.size + 1 + 1 + 1, 1, none⟩ = some (.string { data := #[] }) := by rw [hb.cell (p := ⟨w.heap.size + 1 + 1 + 1, 1, none⟩) (by first | omega | (simp <;> omega))]; simp [go_sem, fn0_1, fn1_1, fn2_1]
  have fn2_2 : w2.cell? ⟨w.heap.size + 1 + 1 + 1, 2, none⟩ = some (.string { data := #[] }) := by rw [hb.cell (p := ⟨w.heap.size + 1 + 1 + 1, 2, none⟩) (by first | omega | (simp <;> omega))]; simp [go_sem, fn0_1, fn1_1, fn2_1]
  have gz_2 : ∀ o, w2.frozen? ⟨w.heap.size, o, none⟩ = false := fun o => by rw [hb.frozen (p := ⟨w.heap.size, o, none⟩) (by first | omega | (simp <;> omega))]; simp [go_sem, gz_1]
  have gr_2 : ∀ o, w2.frozen? ⟨w.heap.size + 1, o, none⟩ = false := fun o => by rw [hb.frozen (p := ⟨w.heap.size + 1, o, none⟩) (by first | omega | (simp <;> omega))]; simp [go_sem, gr_1]
  have gq_2 : ∀ o, w2.frozen? ⟨w.heap.size + 1 + 1, o, none⟩ = false := fun o => by rw [hb.frozen (p := ⟨w.heap.size + 1 + 1, o, none⟩) (by first | omega | (simp <;> omega))]; simp [go_sem, gq_1]
  have gn_2 : ∀ o, w2.frozen? ⟨w.heap.size + 1 + 1 + 1, o, none⟩ = false := fun o => by rw [hb.frozen (p := ⟨w.heap.size + 1 + 1 + 1, o, none⟩) (by first | omega | (simp <;> omega))]; simp [go_sem, gn_1]
  clear fz0_1 fz1_1 fz2_1 fz3_1 fz4_1 fz5_1 fr0_1 fr1_1 fr2_1 fr3_1 fr4_1 fr5_1 fq0_1 fq1_1 fq2_1 fn0_1 fn1_1 fn2_1 gz_1 gr_1 gq_1 gn_1
  clear hb
  go_wp2_with fail
  refine (HM.out _ (HR.out.below ((HB2.out).setCell (by first | omega | (simp <;> omega)) _))).mono ?_
  rintro e w3 ⟨rfl, hb⟩
  have hz3 : w.heap.size + 3 < w3.heap.size := by have := hb.size; (try simp at this); omega
  have HB3 : Hid (Below w.heap.size w w3) := ((HB2.out).setCell (by first | omega | (simp <;> omega)) _).trans (hb.mono (by first | omega | (simp <;> omega)))
  have fz0_3 : w3.cell? ⟨w.heap.size, 0, none⟩ = some (.slice (some ⟨g, 0, none⟩) m c) := by rw [hb.cell (p := ⟨w.heap.size, 0, none⟩) (by first | omega | (simp <;> omega))]; simp [go_sem, fz0_2, fz1_2, fz2_2, fz3_2, fz4_2, fz5_2]
  have fz1_3 : w3.cell? ⟨w.heap.size, 1, none⟩ = some (.int .i64 (i1 : Int)) := by rw [hb.cell (p := ⟨w.heap.size, 1, none⟩) (by first | omega | (simp <;> omega))]; simp [go_sem, fz0_2, fz1_2, fz2_2, fz3_2, fz4_2, fz5_2]
  have fz2_3 : w3.cell? ⟨w.heap.size, 2, none⟩ = some (.int .i64 (nd : Int)) := by rw [hb.cell (p := ⟨w.heap.size, 2, none⟩) (by first | omega | (simp <;> omega))]; simp [go_sem, fz0_2, fz1_2, fz2_2, fz3_2, fz4_2, fz5_2]
  have fz3_3 : w3.cell? ⟨w.heap.size, 3, none⟩ = some (.int .i64 0) := by rw [hb.cell (p := ⟨w.heap.size, 3, none⟩) (by first | omega | (simp <;> omega))]; simp [go_sem, fz0_2, fz1_2, fz2_2, fz3_2, fz4_2, fz5_2]
  have fz4_3 : w3.cell? ⟨w.heap.size, 4, none⟩ = some (.int .i64 at_) := by rw [hb.cell (p := ⟨w.heap.size, 4, none⟩) (by first | omega | (simp <;> omega))]; simp [go_sem, fz0_2, fz1_2, fz2_2, fz3_2, fz4_2, fz5_2]
  have fz5_3 : w3.cell? ⟨w.heap.size, 5, none⟩ = some (.string S) := by rw [hb.cell (p := ⟨w.heap.size, 5, none⟩) (by first | omega | (simp <;> omega))]; simp [go_sem, fz0_2, fz1_2, fz2_2, fz3_2, fz4_2, fz5_2]
  have fr0_3 : w3.cell? ⟨w.heap.size + 1, 0, none⟩ = some (.slice none 0 0) := by rw [hb.cell (p := ⟨w.heap.size + 1, 0, none⟩) (by first | omega | (simp <;> omega))]; simp [go_sem, fr0_2, fr1_2, fr2_2, fr3_2, fr4_2, fr5_2]
  have fr1_3 : w3.cell? ⟨w.heap.size + 1, 1, none⟩ = some (.int .i64 0) := by rw [hb.cell (p := ⟨w.heap.size + 1, 1, none⟩) (by first | omega | (simp <;> omega))]; simp [go_sem, fr0_2, fr1_2, fr2_2, fr3_2, fr4_2, fr5_2]
  have fr2_3 : w3.cell? ⟨w.heap.size + 1, 2, none⟩ = some (.int .i64 0) := by rw [hb.cell (p := ⟨w.heap.size + 1, 2, none⟩) (by first | omega | (simp <;> omega))]; simp [go_sem, fr0_2, fr1_2, fr2_2, fr3_2, fr4_2, fr5_2]
  have fr3_3 : w3.cell? ⟨w.heap.size + 1, 3, none⟩ = some (.int .i64 0) := by rw [hb.cell (p := ⟨w.heap.size + 1, 3, none⟩) (by first | omega | (simp <;> omega))]; simp [go_sem, fr0_2, fr1_2, fr2_2, fr3_2, fr4_2, fr5_2]
  have fr4_3 : w3.cell? ⟨w.heap.size + 1, 4, none⟩ = some (.int .i64 0) := by rw [hb.cell (p := ⟨w.heap.size + 1, 4, none⟩) (by first | omega | (simp <;> omega))]; simp [go_sem, fr0_2, fr1_2, fr2_2, fr3_2, fr4_2, fr5_2]
  have fr5_3 : w3.cell? ⟨w.heap.size + 1, 5, none⟩ = some (.string { data := #[] }) := by rw [hb.cell (p := ⟨w.heap.size + 1, 5, none⟩) (by first | omega | (simp <;> omega))]; simp [go_sem, fr0_2, fr1_2, fr2_2, fr3_2, fr4_2, fr5_2]
  have fq0_3 : w3.cell? ⟨w.heap.size + 1 + 1, 0, none⟩ = some (.int .i64 0) := by rw [hb.cell (p := ⟨w.heap.size + 1 + 1, 0, none⟩) (by first | omega | (simp <;> omega))]; simp [go_sem, fq0_2, fq1_2, fq2_2]
  have fq1_3 : w3.cell? ⟨w.heap.size + 1 + 1, 1, none⟩ = some (.string { data := #[] }) := by rw [hb.cell (p := ⟨w.heap.size + 1 + 1, 1, none⟩) (by first | omega | (simp <;> omega))]; simp [go_sem, fq0_2, fq1_2, fq2_2]
  have fq2_3 : w3.cell? ⟨w.heap.size + 1 + 1, 2, none⟩ = some (.string { data := #[] }) := by rw [hb.cell (p := ⟨w.heap.size + 1 + 1, 2, none⟩) (by first | omega | (simp <;> omega))]; simp [go_sem, fq0_2, fq1_2, fq2_2]
  have fn0_3 : w3.cell? ⟨w.heap.size + 1 + 1 + 1, 0, none⟩ = some (.int .i64 5) := by rw [hb.cell (p := ⟨w.heap.size + 1 + 1 + 1, 0, none⟩) (by first | omega | (simp <;> omega))]; simp [go_sem, fn0_2, fn1_2, fn2_2]
  have fn1_3 : w3.cell? ⟨w.heap.size + 1 + 1 + 1, 1, none⟩ = some (.string { data := #[] }) := by rw [hb.cell (p := ⟨w.heap.size + 1 + 1 + 1, 1, none⟩) (by first | omega | (simp <;> omega))]; simp [go_sem, fn0_2, fn1_2, fn2_2]
  have fn2_3 : w3.cell? ⟨w.heap.size + 1 + 1 + 1, 2, none⟩ = some (.string { data := #[] }) := by rw [hb.cell (p := ⟨w.heap.size + 1 + 1 + 1, 2, none⟩) (by first | omega | (simp <;> omega))]; simp [go_sem, fn0_2, fn1_2, fn2_2]
  have gz_3 : ∀ o, w3.frozen? ⟨w.heap.size, o, none⟩ = false := fun o => by rw [hb.frozen (p := ⟨w.heap.size, o, none⟩) (by first | omega | (simp <;> omega))]; simp [go_sem, gz_2]
  have gr_3 : ∀ o, w3.frozen? ⟨w.heap.size + 1, o, none⟩ = false := fun o => by rw [hb.frozen (p := ⟨w.heap.size + 1, o, none⟩) (by first | omega | (simp <;> omega))]; simp [go_sem, gr_2]
  have gq_3 : ∀ o, w3.frozen? ⟨w.heap.size + 1 + 1, o, none⟩ = false := fun o => by rw [hb.frozen (p := ⟨w.heap.size + 1 + 1, o, none⟩) (by first | omega | (simp <;> omega))]; simp [go_sem, gq_2]
  have gn_3 : ∀ o, w3.frozen? ⟨w.heap.size + 1 + 1 + 1, o, none⟩ = false := fun o => by rw [hb.frozen (p := ⟨w.heap.size + 1 + 1 + 1, o, none⟩) (by first | omega | (simp <;> omega))]; simp [go_sem, gn_2]
  clear fz0_2 fz1_2 fz2_2 fz3_2 fz4_2 fz5_2 fr0_2 fr1_2 fr2_2 fr3_2 fr4_2 fr5_2 fq0_2 fq1_2 fq2_2 fn0_2 fn1_2 fn2_2 gz_2 gr_2 gq_2 gn_2
  clear hb
  go_wp2_with fail
  refine (HS3.out _ (HR.out.below (HB3.out))).mono ?_
  rintro e w4 ⟨rfl, hb⟩
  have hz4 : w.heap.size + 3 < w4.heap.size := by have := hb.size; (try simp at this); omega
  have HB4 : Hid (Below w.heap.size w w4) := (HB3.out).trans (hb.mono (by first | omega | (simp <;> omega)))
  have fz0_4 : w4.cell? ⟨w.heap.size, 0, none⟩ = some (.slice (some ⟨g, 0, none⟩) m c) := by rw [hb.cell (p := ⟨w.heap.size, 0, none⟩) (by first | omega | (simp <;> omega))]; simp [go_sem, fz0_3, fz1_3, fz2_3, fz3_3, fz4_3, fz5_3]
  have fz1_4 : w4.cell? ⟨w.heap.size, 1, none⟩ = some (.int .i64 (i1 : Int)) := by rw [hb.cell (p := ⟨w.heap.size, 1, none⟩) (by first | omega | (simp <;> omega))]; simp [go_sem, fz0_3, fz1_3, fz2_3, fz3_3, fz4_3, fz5_3]
  have fz2_4 : w4.cell? ⟨w.heap.size, 2, none⟩ = some (.int .i64 (nd : Int)) := by rw [hb.cell (p := ⟨w.heap.size, 2, none⟩) (by first | omega | (simp <;> omega))]; simp [go_sem, fz0_3, fz1_3, fz2_3, fz3_3, fz4_3, fz5_3]
  have fz3_4 : w4.cell? ⟨w.heap.size, 3, none⟩ = some (.int .i64 0) := by rw [hb.cell (p := ⟨w.heap.size, 3, none⟩) (by first | omega | (simp <;> omega))]; simp [go_sem, fz0_3, fz1_3, fz2_3, fz3_3, fz4_3, fz5_3]
  have fz4_4 : w4.cell? ⟨w.heap.size, 4, none⟩ = some (.int .i64 at_) := by rw [hb.cell (p := ⟨w.heap.size, 4, none⟩) (by first | omega | (simp <;> omega))]; simp [go_sem, fz0_3, fz1_3, fz2_3, fz3_3, fz4_3, fz5_3]
  have fz5_4 : w4.cell? ⟨w.heap.size, 5, none⟩ = some (.string S) := by rw [hb.cell (p := ⟨w.heap.size, 5, none⟩) (by first | omega | (simp <;> omega))]; simp [go_sem, fz0_3, fz1_3, fz2_3, fz3_3, fz4_3, fz5_3]
  have fr0_4 : w4.cell? ⟨w.heap.size + 1, 0, none⟩ = some (.slice none 0 0) := by rw [hb.cell (p := ⟨w.heap.size + 1, 0, none⟩) (by first | omega | (simp <;> omega))]; simp [go_sem, fr0_3, fr1_3, fr2_3, fr3_3, fr4_3, fr5_3]
  have fr1_4 : w4.cell? ⟨w.heap.size + 1, 1, none⟩ = some (.int .i64 0) := by rw [hb.cell (p := ⟨w.heap.size + 1, 1, none⟩) (by first | omega | (simp <;> omega))]; simp [go_sem, fr0_3, fr1_3, fr2_3, fr3_3, fr4_3, fr5_3]
  have fr2_4 : w4.cell? ⟨w.heap.size + 1, 2, none⟩ = some (.int .i64 0) := by rw [hb.cell (p := ⟨w.heap.size + 1, 2, none⟩) (by first | omega | (simp <;> omega))]; simp [go_sem, fr0_3, fr1_3, fr2_3, fr3_3, fr4_3, fr5_3]
  have fr3_4 : w4.cell? ⟨w.heap.size + 1, 3, none⟩ = some (.int .i64 0) := by rw [hb.cell (p := ⟨w.heap.size + 1, 3, none⟩) (by first | omega | (simp <;> omega))]; simp [go_sem, fr0_3, fr1_3, fr2_3, fr3_3, fr4_3, fr5_3]
  have fr4_4 : w4.cell? ⟨w.heap.size + 1, 4, none⟩ = some (.int .i64 0) := by rw [hb.cell (p := ⟨w.heap.size + 1, 4, none⟩) (by first | omega | (simp <;> omega))]; simp [go_sem, fr0_3, fr1_3, fr2_3, fr3_3, fr4_3, fr5_3]
  have fr5_4 : w4.cell? ⟨w.heap.size + 1, 5, none⟩ = some (.string { data := #[] }) := by rw [hb.cell (p := ⟨w.heap.size + 1, 5, none⟩) (by first | omega | (simp <;> omega))]; simp [go_sem, fr0_3, fr1_3, fr2_3, fr3_3, fr4_3, fr5_3]
  have fq0_4 : w4.cell? ⟨w.heap.size + 1 + 1, 0, none⟩ = some (.int .i64 0) := by rw [hb.cell (p := ⟨w.heap.size + 1 + 1, 0, none⟩) (by first | omega | (simp <;> omega))]; simp [go_sem, fq0_3, fq1_3, fq2_3]
  have fq1_4 : w4.cell? ⟨w.heap.size + 1 + 1, 1, none⟩ = some (.string { data := #[] }) := by rw [hb.cell (p := ⟨w.heap.size + 1 + 1, 1, none⟩) (by first | omega | (simp <;> omega))]; simp [go_sem, fq0_3, fq1_3, fq2_3]
  have fq2_4 : w4.cell? ⟨w.heap.size + 1 + 1, 2, none⟩ = some (.string { data := #[] }) := by rw [hb.cell (p := ⟨w.heap.size + 1 + 1, 2, none⟩) (by first | omega | (simp <;> omega))]; simp [go_sem, fq0_3, fq1_3, fq2_3]
  have fn0_4 : w4.cell? ⟨w.heap.size + 1 + 1 + 1, 0, none⟩ = some (.int .i64 5) := by rw [hb.cell (p := ⟨w.heap.size + 1 + 1 + 1, 0, none⟩) (by first | omega | (simp <;> omega))]; simp [go_sem, fn0_3, fn1_3, fn2_3]
  have fn1_4 : w4.cell? ⟨w.heap.size + 1 + 1 + 1, 1, none⟩ = some (.string { data := #[] }) := by rw [hb.cell (p := ⟨w.heap.size + 1 + 1 + 1, 1, none⟩) (by first | omega | (simp <;> omega))]; simp [go_sem, fn0_3, fn1_3, fn2_3]
  have fn2_4 : w4.cell? ⟨w.heap.size + 1 + 1 + 1, 2, none⟩ = some (.string { data := #[] }) := by rw [hb.cell (p := ⟨w.heap.size + 1 + 1 + 1, 2, none⟩) (by first | omega | (simp <;> omega))]; simp [go_sem, fn0_3, fn1_3, fn2_3]
  have gz_4 : ∀ o, w4.frozen? ⟨w.heap.size, o, none⟩ = false := fun o => by rw [hb.frozen (p := ⟨w.heap.size, o, none⟩) (by first | omega | (simp <;> omega))]; simp [go_sem, gz_3]
  have gr_4 : ∀ o, w4.frozen? ⟨w.heap.size + 1, o, none⟩ = false := fun o => by rw [hb.frozen (p := ⟨w.heap.size + 1, o, none⟩) (by first | omega | (simp <;> omega))]; simp [go_sem, gr_3]
  have gq_4 : ∀ o, w4.frozen? ⟨w.heap.size + 1 + 1, o, none⟩ = false := fun o => by rw [hb.frozen (p := ⟨w.heap.size + 1 + 1, o, none⟩) (by first | omega | (simp <;> omega))]; simp [go_sem, gq_3]
  have gn_4 : ∀ o, w4.frozen? ⟨w.heap.size + 1 + 1 + 1, o, none⟩ = false := fun o => by rw [hb.frozen (p := ⟨w.heap.size + 1 + 1 + 1, o, none⟩) (by first | omega | (simp <;> omega))]; simp [go_sem, gn_3]
  clear fz0_3 fz1_3 fz2_3 fz3_3 fz4_3 fz5_3 fr0_3 fr1_3 fr2_3 fr3_3 fr4_3 fr5_3 fq0_3 fq1_3 fq2_3 fn0_3 fn1_3 fn2_3 gz_3 gr_3 gq_3 gn_3
  clear hb
  go_wp2_with fail
  refine (HS4.out _ (HR.out.below (HB4.out))).mono ?_
  rintro e w5 ⟨rfl, hb⟩
  have hz5 : w.heap.size + 3 < w5.heap.size := by have := hb.size; (try simp at this); omega
  have HB5 : Hid (Below w.heap.size w w5) := (HB4.out).trans (hb.mono (by first | omega | (simp <;> omega)))
  have fz0_5 : w5.cell? ⟨w.heap.size, 0, none⟩ = some (.slice (some ⟨g, 0, none⟩) m c) := by rw [hb.cell (p := ⟨w.heap.size, 0, none⟩) (by first | omega | (simp <;> omega))]; simp [go_sem, fz0_4, fz1_4, fz2_4, fz3_4, fz4_4, fz5_4]
  have fz1_5 : w5.cell? ⟨w.heap.size, 1, none⟩ = some (.int .i64 (i1 : Int)) := by rw [hb.cell (p := ⟨w.heap.size, 1, none⟩) (by first | omega | (simp <;> omega))]; simp [go_sem, fz0_4, fz1_4, fz2_4, fz3_4, fz4_4, fz5_4]
  have fz2_5 : w5.cell? ⟨w.heap.size, 2, none⟩ = some (.int .i64 (nd : Int)) := by rw [hb.cell (p := ⟨w.heap.size, 2, none⟩) (by first | omega | (simp <;> omega))]; simp [go_sem, fz0_4, fz1_4, fz2_4, fz3_4, fz4_4, fz5_4]
  have fz3_5 : w5.cell? ⟨w.heap.size, 3, none⟩ = some (.int .i64 0) := by rw [hb.cell (p := ⟨w.heap.size, 3, none⟩) (by first | omega | (simp <;> omega))]; simp [go_sem, fz0_4, fz1_4, fz2_4, fz3_4, fz4_4, fz5_4]
  have fz4_5 : w5.cell? ⟨w.heap.size, 4, none⟩ = some (.int .i64 at_) := by rw [hb.cell (p := ⟨w.heap.size, 4, none⟩) (by first | omega | (simp <;> omega))]; simp [go_sem, fz0_4, fz1_4, fz2_4, fz3_4, fz4_4, fz5_4]
  have fz5_5 : w5.cell? ⟨w.heap.size, 5, none⟩ = some (.string S) := by rw [hb.cell (p := ⟨w.heap.size, 5, none⟩) (by first | omega | (simp <;> omega))]; simp [go_sem, fz0_4, fz1_4, fz2_4, fz3_4, fz4_4, fz5_4]
  have fr0_5 : w5.cell? ⟨w.heap.size + 1, 0, none⟩ = some (.slice none 0 0) := by rw [hb.cell (p := ⟨w.heap.size + 1, 0, none⟩) (by first | omega | (simp <;> omega))]; simp [go_sem, fr0_4, fr1_4, fr2_4, fr3_4, fr4_4, fr5_4]
  have fr1_5 : w5.cell? ⟨w.heap.size + 1, 1, none⟩ = some (.int .i64 0) := by rw [hb.cell (p := ⟨w.heap.size + 1, 1, none⟩) (by first | omega | (simp <;> omega))]; simp [go_sem, fr0_4, fr1_4, fr2_4, fr3_4, fr4_4, fr5_4]
  have fr2_5 : w5.cell? ⟨w.heap.size + 1, 2, none⟩ = some (.int .i64 0) := by rw [hb.cell (p := ⟨w.heap.size + 1, 2, none⟩) (by first | omega | (simp <;> omega))]; simp [go_sem, fr0_4, fr1_4, fr2_4, fr3_4, fr4_4, fr5_4]
  have fr3_5 : w5.cell? ⟨w.heap.size + 1, 3, none⟩ = some (.int .i64 0) := by rw [hb.cell (p := ⟨w.heap.size + 1, 3, none⟩) (by first | omega | (simp <;> omega))]; simp [go_sem, fr0_4, fr1_4, fr2_4, fr3_4, fr4_4, fr5_4]
  have fr4_5 : w5.cell? ⟨w.heap.size + 1, 4, none⟩ = some (.int .i64 0) := by rw [hb.cell (p := ⟨w.heap.size + 1, 4, none⟩) (by first | omega | (simp <;> omega))]; simp [go_sem, fr0_4, fr1_4, fr2_4, fr3_4, fr4_4, fr5_4]
  have fr5_5 : w5.cell? ⟨w.heap.size + 1, 5, none⟩ = some (.string { data := #[] }) := by rw [hb.cell (p := ⟨w.heap.size + 1, 5, none⟩) (by first | omega | (simp <;> omega))]; simp [go_sem, fr0_4, fr1_4, fr2_4, fr3_4, fr4_4, fr5_4]
  have fq0_5 : w5.cell? ⟨w.heap.size + 1 + 1, 0, none⟩ = some (.int .i64 0) := by rw [hb.cell (p := ⟨w.heap.size + 1 + 1, 0, none⟩) (by first | omega | (simp <;> omega))]; simp [go_sem, fq0_4, fq1_4, fq2_4]
  have fq1_5 : w5.cell? ⟨w.heap.size + 1 + 1, 1, none⟩ = some (.string { data := #[] }) := by rw [hb.cell (p := ⟨w.heap.size + 1 + 1, 1, none⟩) (by first | omega | (simp <;> omega))]; simp [go_sem, fq0_4, fq1_4, fq2_4]
  have fq2_5 : w5.cell? ⟨w.heap.size + 1 + 1, 2, none⟩ = some (.string { data := #[] }) := by rw [hb.cell (p := ⟨w.heap.size + 1 + 1, 2, none⟩) (by first | omega | (simp <;> omega))]; simp [go_sem, fq0_4, fq1_4, fq2_4]
  have fn0_5 : w5.cell? ⟨w.heap.size + 1 + 1 + 1, 0, none⟩ = some (.int .i64 5) := by rw [hb.cell (p := ⟨w.heap.size + 1 + 1 + 1, 0, none⟩) (by first | omega | (simp <;> omega))]; simp [go_sem, fn0_4, fn1_4, fn2_4]
  have fn1_5 : w5.cell? ⟨w.heap.size + 1 + 1 + 1, 1, none⟩ = some (.string { data := #[] }) := by rw [hb.cell (p := ⟨w.heap.size + 1 + 1 + 1, 1, none⟩) (by first | omega | (simp <;> omega))]; simp [go_sem, fn0_4, fn1_4, fn2_4]
  have fn2_5 : w5.cell? ⟨w.heap.size + 1 + 1 + 1, 2, none⟩ = some (.string { data := #[] }) := by rw [hb.cell (p := ⟨w.heap.size + 1 + 1 + 1, 2, none⟩) (by first | omega | (simp <;> omega))]; simp [go_sem, fn0_4, fn1_4, fn2_4]
  have gz_5 : ∀ o, w5.frozen? ⟨w.heap.size, o, none⟩ = false := fun o => by rw [hb.frozen (p := ⟨w.heap.size, o, none⟩) (by first | omega | (simp <;> omega))]; simp [go_sem, gz_4]
  have gr_5 : ∀ o, w5.frozen? ⟨w.heap.size + 1, o, none⟩ = false := fun o => by rw [hb.frozen (p := ⟨w.heap.size + 1, o, none⟩) (by first | omega | (simp <;> omega))]; simp [go_sem, gr_4]
  have gq_5 : ∀ o, w5.frozen? ⟨w.heap.size + 1 + 1, o, none⟩ = false := fun o => by rw [hb.frozen (p := ⟨w.heap.size + 1 + 1, o, none⟩) (by first | omega | (simp <;> omega))]; simp [go_sem, gq_4]
  have gn_5 : ∀ o, w5.frozen? ⟨w.heap.size + 1 + 1 + 1, o, none⟩ = false := fun o => by rw [hb.frozen (p := ⟨w.heap.size + 1 + 1 + 1, o, none⟩) (by first | omega | (simp <;> omega))]; simp [go_sem, gn_4]
  clear fz0_4 fz1_4 fz2_4 fz3_4 fz4_4 fz5_4 fr0_4 fr1_4 fr2_4 fr3_4 fr4_4 fr5_4 fq0_4 fq1_4 fq2_4 fn0_4 fn1_4 fn2_4 gz_4 gr_4 gq_4 gn_4
  clear hb
  go_wp2_with fail
  refine (HS5.out _ (HR.out.below ((((((((HB5.out).setCell (by first | omega | (simp <;> omega)) _).setCell (by first | omega | (simp <;> omega)) _).setCell (by first | omega | (simp <;> omega)) _).setCell (by first | omega | (simp <;> omega)) _).setCell (by first | omega | (simp <;> omega)) _).setCell (by first | omega | (simp <;> omega)) _).setCell (by first | omega | (simp <;> omega)) _))).mono ?_
  rintro e w6 ⟨rfl, hb⟩
  have hz6 : w.heap.size + 3 < w6.heap.size := by have := hb.size; (try simp at this); omega
  have HB6 : Hid (Below w.heap.size w w6) := ((((((((HB5.out).setCell (by first | omega | (simp <;> omega)) _).setCell (by first | omega | (simp <;> omega)) _).setCell (by first | omega | (simp <;> omega)) _).setCell (by first | omega | (simp <;> omega)) _).setCell (by first | omega | (simp <;> omega)) _).setCell (by first | omega | (simp <;> omega)) _).setCell (by first | omega | (simp <;> omega)) _).trans (hb.mono (by first | omega | (simp <;> omega)))
  have fz0_6 : w6.cell? ⟨w.heap.size, 0, none⟩ = some (.slice (some ⟨g, 0, none⟩) m c) := by rw [hb.cell (p := ⟨w.heap.size, 0, none⟩) (by first | omega | (simp <;> omega))]; simp [go_sem, fz0_5, fz1_5, fz2_5, fz3_5, fz4_5, fz5_5]
  have fz1_6 : w6.cell? ⟨w.heap.size, 1, none⟩ = some (.int .i64 (i4 : Int)) := by rw [hb.cell (p := ⟨w.heap.size, 1, none⟩) (by first | omega | (simp <;> omega))]; simp [go_sem, fz0_5, fz1_5, fz2_5, fz3_5, fz4_5, fz5_5]
  have fz2_6 : w6.cell? ⟨w.heap.size, 2, none⟩ = some (.int .i64 (nd4 : Int)) := by rw [hb.cell (p := ⟨w.heap.size, 2, none⟩) (by first | omega | (simp <;> omega))]; simp [go_sem, fz0_5, fz1_5, fz2_5, fz3_5, fz4_5, fz5_5]
  have fz3_6 : w6.cell? ⟨w.heap.size, 3, none⟩ = some (.int .i64 er4) := by rw [hb.cell (p := ⟨w.heap.size, 3, none⟩) (by first | omega | (simp <;> omega))]; simp [go_sem, fz0_5, fz1_5, fz2_5, fz3_5, fz4_5, fz5_5]
  have fz4_6 : w6.cell? ⟨w.heap.size, 4, none⟩ = some (.int .i64 at4) := by rw [hb.cell (p := ⟨w.heap.size, 4, none⟩) (by first | omega | (simp <;> omega))]; simp [go_sem, fz0_5, fz1_5, fz2_5, fz3_5, fz4_5, fz5_5]
  have fz5_6 : w6.cell? ⟨w.heap.size, 5, none⟩ = some (.string S4) := by rw [hb.cell (p := ⟨w.heap.size, 5, none⟩) (by first | omega | (simp <;> omega))]; simp [go_sem, fz0_5, fz1_5, fz2_5, fz3_5, fz4_5, fz5_5]
  have fr0_6 : w6.cell? ⟨w.heap.size + 1, 0, none⟩ = some (.slice none 0 0) := by rw [hb.cell (p := ⟨w.heap.size + 1, 0, none⟩) (by first | omega | (simp <;> omega))]; simp [go_sem, fr0_5, fr1_5, fr2_5, fr3_5, fr4_5, fr5_5]
  have fr1_6 : w6.cell? ⟨w.heap.size + 1, 1, none⟩ = some (.int .i64 0) := by rw [hb.cell (p := ⟨w.heap.size + 1, 1, none⟩) (by first | omega | (simp <;> omega))]; simp [go_sem, fr0_5, fr1_5, fr2_5, fr3_5, fr4_5, fr5_5]
  have fr2_6 : w6.cell? ⟨w.heap.size + 1, 2, none⟩ = some (.int .i64 0) := by rw [hb.cell (p := ⟨w.heap.size + 1, 2, none⟩) (by first | omega | (simp <;> omega))]; simp [go_sem, fr0_5, fr1_5, fr2_5, fr3_5, fr4_5, fr5_5]
  have fr3_6 : w6.cell? ⟨w.heap.size + 1, 3, none⟩ = some (.int .i64 0) := by rw [hb.cell (p := ⟨w.heap.size + 1, 3, none⟩) (by first | omega | (simp <;> omega))]; simp [go_sem, fr0_5, fr1_5, fr2_5, fr3_5, fr4_5, fr5_5]
  have fr4_6 : w6.cell? ⟨w.heap.size + 1, 4, none⟩ = some (.int .i64 0) := by rw [hb.cell (p := ⟨w.heap.size + 1, 4, none⟩) (by first | omega | (simp <;> omega))]; simp [go_sem, fr0_5, fr1_5, fr2_5, fr3_5, fr4_5, fr5_5]
  have fr5_6 : w6.cell? ⟨w.heap.size + 1, 5, none⟩ = some (.string { data := #[] }) := by rw [hb.cell (p := ⟨w.heap.size + 1, 5, none⟩) (by first | omega | (simp <;> omega))]; simp [go_sem, fr0_5, fr1_5, fr2_5, fr3_5, fr4_5, fr5_5]
  have fq0_6 : w6.cell? ⟨w.heap.size + 1 + 1, 0, none⟩ = some (.int .i64 0) := by rw [hb.cell (p := ⟨w.heap.size + 1 + 1, 0, none⟩) (by first | omega | (simp <;> omega))]; simp [go_sem, fq0_5, fq1_5, fq2_5]
  have fq1_6 : w6.cell? ⟨w.heap.size + 1 + 1, 1, none⟩ = some (.string { data := #[] }) := by rw [hb.cell (p := ⟨w.heap.size + 1 + 1, 1, none⟩) (by first | omega | (simp <;> omega))]; simp [go_sem, fq0_5, fq1_5, fq2_5]
  have fq2_6 : w6.cell? ⟨w.heap.size + 1 + 1, 2, none⟩ = some (.string { data := #[] }) := by rw [hb.cell (p := ⟨w.heap.size + 1 + 1, 2, none⟩) (by first | omega | (simp <;> omega))]; simp [go_sem, fq0_5, fq1_5, fq2_5]
  have fn0_6 : w6.cell? ⟨w.heap.size + 1 + 1 + 1, 0, none⟩ = some (.int .i64 5) := by rw [hb.cell (p := ⟨w.heap.size + 1 + 1 + 1, 0, none⟩) (by first | omega | (simp <;> omega))]; simp [go_sem, fn0_5, fn1_5, fn2_5]
  have fn1_6 : w6.cell? ⟨w.heap.size + 1 + 1 + 1, 1, none⟩ = some (.string S4) := by rw [hb.cell (p := ⟨w.heap.size + 1 + 1 + 1, 1, none⟩) (by first | omega | (simp <;> omega))]; simp [go_sem, fn0_5, fn1_5, fn2_5]
  have fn2_6 : w6.cell? ⟨w.heap.size + 1 + 1 + 1, 2, none⟩ = some (.string { data := #[] }) := by rw [hb.cell (p := ⟨w.heap.size + 1 + 1 + 1, 2, none⟩) (by first | omega | (simp <;> omega))]; simp [go_sem, fn0_5, fn1_5, fn2_5]
  have gz_6 : ∀ o, w6.frozen? ⟨w.heap.size, o, none⟩ = false := fun o => by rw [hb.frozen (p := ⟨w.heap.size, o, none⟩) (by first | omega | (simp <;> omega))]; simp [go_sem, gz_5]
  have gr_6 : ∀ o, w6.frozen? ⟨w.heap.size + 1, o, none⟩ = false := fun o => by rw [hb.frozen (p := ⟨w.heap.size + 1, o, none⟩) (by first | omega | (simp <;> omega))]; simp [go_sem, gr_5]
  have gq_6 : ∀ o, w6.frozen? ⟨w.heap.size + 1 + 1, o, none⟩ = false := fun o => by rw [hb.frozen (p := ⟨w.heap.size + 1 + 1, o, none⟩) (by first | omega | (simp <;> omega))]; simp [go_sem, gq_5]
  have gn_6 : ∀ o, w6.frozen? ⟨w.heap.size + 1 + 1 + 1, o, none⟩ = false := fun o => by rw [hb.frozen (p := ⟨w.heap.size + 1 + 1 + 1, o, none⟩) (by first | omega | (simp <;> omega))]; simp [go_sem, gn_5]
  clear fz0_5 fz1_5 fz2_5 fz3_5 fz4_5 fz5_5 fr0_5 fr1_5 fr2_5 fr3_5 fr4_5 fr5_5 fq0_5 fq1_5 fq2_5 fn0_5 fn1_5 fn2_5 gz_5 gr_5 gq_5 gn_5
  clear hb
  go_wp2_with fail
  refine (HS6.out _ (HR.out.below (HB6.out))).mono ?_
  rintro e w7 ⟨rfl, hb⟩
  have hz7 : w.heap.size + 3 < w7.heap.size := by have := hb.size; (try simp at this); omega
  have HB7 : Hid (Below w.heap.size w w7) := (HB6.out).trans (hb.mono (by first | omega | (simp <;> omega)))
  have fz0_7 : w7.cell? ⟨w.heap.size, 0, none⟩ = some (.slice (some ⟨g, 0, none⟩) m c) := by rw [hb.cell (p := ⟨w.heap.size, 0, none⟩) (by first | omega | (simp <;> omega))]; simp [go_sem, fz0_6, fz1_6, fz2_6, fz3_6, fz4_6, fz5_6]
  have fz1_7 : w7.cell? ⟨w.heap.size, 1, none⟩ = some (.int .i64 (i4 : Int)) := by rw [hb.cell (p := ⟨w.heap.size, 1, none⟩) (by first | omega | (simp <;> omega))]; simp [go_sem, fz0_6, fz1_6, fz2_6, fz3_6, fz4_6, fz5_6]
  have fz2_7 : w7.cell? ⟨w.heap.size, 2, none⟩ = some (.int .i64 (nd4 : Int)) := by rw [hb.cell (p := ⟨w.heap.size, 2, none⟩) (by first | omega | (simp <;> omega))]; simp [go_sem, fz0_6, fz1_6, fz2_6, fz3_6, fz4_6, fz5_6]
  have fz3_7 : w7.cell? ⟨w.heap.size, 3, none⟩ = some (.int .i64 er4) := by rw [hb.cell (p := ⟨w.heap.size, 3, none⟩) (by first | omega | (simp <;> omega))]; simp [go_sem, fz0_6, fz1_6, fz2_6, fz3_6, fz4_6, fz5_6]
  have fz4_7 : w7.cell? ⟨w.heap.size, 4, none⟩ = some (.int .i64 at4) := by rw [hb.cell (p := ⟨w.heap.size, 4, none⟩) (by first | omega | (simp <;> omega))]; simp [go_sem, fz0_6, fz1_6, fz2_6, fz3_6, fz4_6, fz5_6]
  have fz5_7 : w7.cell? ⟨w.heap.size, 5, none⟩ = some (.string S4) := by rw [hb.cell (p := ⟨w.heap.size, 5, none⟩) (by first | omega | (simp <;> omega))]; simp [go_sem, fz0_6, fz1_6, fz2_6, fz3_6, fz4_6, fz5_6]
  have fr0_7 : w7.cell? ⟨w.heap.size + 1, 0, none⟩ = some (.slice none 0 0) := by rw [hb.cell (p := ⟨w.heap.size + 1, 0, none⟩) (by first | omega | (simp <;> omega))]; simp [go_sem, fr0_6, fr1_6, fr2_6, fr3_6, fr4_6, fr5_6]
  have fr1_7 : w7.cell? ⟨w.heap.size + 1, 1, none⟩ = some (.int .i64 0) := by rw [hb.cell (p := ⟨w.heap.size + 1, 1, none⟩) (by first | omega | (simp <;> omega))]; simp [go_sem, fr0_6, fr1_6, fr2_6, fr3_6, fr4_6, fr5_6]
  have fr2_7 : w7.cell? ⟨w.heap.size + 1, 2, none⟩ = some (.int .i64 0) := by rw [hb.cell (p := ⟨w.heap.size + 1, 2, none⟩) (by first | omega | (simp <;> omega))]; simp [go_sem, fr0_6, fr1_6, fr2_6, fr3_6, fr4_6, fr5_6]
  have fr3_7 : w7.cell? ⟨w.heap.size + 1, 3, none⟩ = some (.int .i64 0) := by rw [hb.cell (p := ⟨w.heap.size + 1, 3, none⟩) (by first | omega | (simp <;> omega))]; simp [go_sem, fr0_6, fr1_6, fr2_6, fr3_6, fr4_6, fr5_6]
  have fr4_7 : w7.cell? ⟨w.heap.size + 1, 4, none⟩ = some (.int .i64 0) := by rw [hb.cell (p := ⟨w.heap.size + 1, 4, none⟩) (by first | omega | (simp <;> omega))]; simp [go_sem, fr0_6, fr1_6, fr2_6, fr3_6, fr4_6, fr5_6]
  have fr5_7 : w7.cell? ⟨w.heap.size + 1, 5, none⟩ = some (.string { data := #[] }) := by rw [hb.cell (p := ⟨w.heap.size + 1, 5, none⟩) (by first | omega | (simp <;> omega))]; simp [go_sem, fr0_6, fr1_6, fr2_6, fr3_6, fr4_6, fr5_6]
  have fq0_7 : w7.cell? ⟨w.heap.size + 1 + 1, 0, none⟩ = some (.int .i64 0) := by rw [hb.cell (p := ⟨w.heap.size + 1 + 1, 0, none⟩) (by first | omega | (simp <;> omega))]; simp [go_sem, fq0_6, fq1_6, fq2_6]
  have fq1_7 : w7.cell? ⟨w.heap.size + 1 + 1, 1, none⟩ = some (.string { data := #[] }) := by rw [hb.cell (p := ⟨w.heap.size + 1 + 1, 1, none⟩) (by first | omega | (simp <;> omega))]; simp [go_sem, fq0_6, fq1_6, fq2_6]
  have fq2_7 : w7.cell? ⟨w.heap.size + 1 + 1, 2, none⟩ = some (.string { data := #[] }) := by rw [hb.cell (p := ⟨w.heap.size + 1 + 1, 2, none⟩) (by first | omega | (simp <;> omega))]; simp [go_sem, fq0_6, fq1_6, fq2_6]
  have fn0_7 : w7.cell? ⟨w.heap.size + 1 + 1 + 1, 0, none⟩ = some (.int .i64 5) := by rw [hb.cell (p := ⟨w.heap.size + 1 + 1 + 1, 0, none⟩) (by first | omega | (simp <;> omega))]; simp [go_sem, fn0_6, fn1_6, fn2_6]
  have fn1_7 : w7.cell? ⟨w.heap.size + 1 + 1 + 1, 1, none⟩ = some (.string S4) := by rw [hb.cell (p := ⟨w.heap.size + 1 + 1 + 1, 1, none⟩) (by first | omega | (simp <;> omega))]; simp [go_sem, fn0_6, fn1_6, fn2_6]
  have fn2_7 : w7.cell? ⟨w.heap.size + 1 + 1 + 1, 2, none⟩ = some (.string { data := #[] }) := by rw [hb.cell (p := ⟨w.heap.size + 1 + 1 + 1, 2, none⟩) (by first | omega | (simp <;> omega))]; simp [go_sem, fn0_6, fn1_6, fn2_6]
  have gz_7 : ∀ o, w7.frozen? ⟨w.heap.size, o, none⟩ = false := fun o => by rw [hb.frozen (p := ⟨w.heap.size, o, none⟩) (by first | omega | (simp <;> omega))]; simp [go_sem, gz_6]
  have gr_7 : ∀ o, w7.frozen? ⟨w.heap.size + 1, o, none⟩ = false := fun o => by rw [hb.frozen (p := ⟨w.heap.size + 1, o, none⟩) (by first | omega | (simp <;> omega))]; simp [go_sem, gr_6]
  have gq_7 : ∀ o, w7.frozen? ⟨w.heap.size + 1 + 1, o, none⟩ = false := fun o => by rw [hb.frozen (p := ⟨w.heap.size + 1 + 1, o, none⟩) (by first | omega | (simp <;> omega))]; simp [go_sem, gq_6]
  have gn_7 : ∀ o, w7.frozen? ⟨w.heap.size + 1 + 1 + 1, o, none⟩ = false := fun o => by rw [hb.frozen (p := ⟨w.heap.size + 1 + 1 + 1, o, none⟩) (by first | omega | (simp <;> omega))]; simp [go_sem, gn_6]
  clear fz0_6 fz1_6 fz2_6 fz3_6 fz4_6 fz5_6 fr0_6 fr1_6 fr2_6 fr3_6 fr4_6 fr5_6 fq0_6 fq1_6 fq2_6 fn0_6 fn1_6 fn2_6 gz_6 gr_6 gq_6 gn_6
  clear hb
  go_wp2_with fail
  refine wp_region_lateS (S := SLast w (.slice (some ⟨g, 0, none⟩) m c) (.int .i64 (i6 : Int)) (.int .i64 (nd6 : Int)) (.int .i64 er6) (.int .i64 at6) (.string S6) (.int .i64 5) (.string S4) (.string S6)) 4 (by kernel_rfl) ?_ (fun W hHeld => ?_)
  · refine ⟨Cs.six ?_ ?_ ?_ ?_ ?_ ?_ ?_, ⟨_, _, _, _, _, _, Cs.six (v0 := .slice none 0 0) (v1 := .int .i64 0) (v2 := .int .i64 0) (v3 := .int .i64 0) (v4 := .int .i64 0) (v5 := .string { data := #[] }) ?_ ?_ ?_ ?_ ?_ ?_ ?_⟩, ⟨_, _, _, Cs.three (v0 := .int .i64 0) (v1 := .string { data := #[] }) (v2 := .string { data := #[] }) ?_ ?_ ?_ ?_⟩, Cs.three ?_ ?_ ?_ ?_, ?_, ?_⟩
    · simp [go_sem, fz0_7, fz1_7, fz2_7, fz3_7, fz4_7, fz5_7, fr0_7, fr1_7, fr2_7, fr3_7, fr4_7, fr5_7, fq0_7, fq1_7, fq2_7, fn0_7, fn1_7, fn2_7, gz_7, gr_7, gq_7, gn_7]
    · simp [go_sem, fz0_7, fz1_7, fz2_7, fz3_7, fz4_7, fz5_7, fr0_7, fr1_7, fr2_7, fr3_7, fr4_7, fr5_7, fq0_7, fq1_7, fq2_7, fn0_7, fn1_7, fn2_7, gz_7, gr_7, gq_7, gn_7]
    · simp [go_sem, fz0_7, fz1_7, fz2_7, fz3_7, fz4_7, fz5_7, fr0_7, fr1_7, fr2_7, fr3_7, fr4_7, fr5_7, fq0_7, fq1_7, fq2_7, fn0_7, fn1_7, fn2_7, gz_7, gr_7, gq_7, gn_7]
    · simp [go_sem, fz0_7, fz1_7, fz2_7, fz3_7, fz4_7, fz5_7, fr0_7, fr1_7, fr2_7, fr3_7, fr4_7, fr5_7, fq0_7, fq1_7, fq2_7, fn0_7, fn1_7, fn2_7, gz_7, gr_7, gq_7, gn_7]
    · simp [go_sem, fz0_7, fz1_7, fz2_7, fz3_7, fz4_7, fz5_7, fr0_7, fr1_7, fr2_7, fr3_7, fr4_7, fr5_7, fq0_7, fq1_7, fq2_7, fn0_7, fn1_7, fn2_7, gz_7, gr_7, gq_7, gn_7]
    · simp [go_sem, fz0_7, fz1_7, fz2_7, fz3_7, fz4_7, fz5_7, fr0_7, fr1_7, fr2_7, fr3_7, fr4_7, fr5_7, fq0_7, fq1_7, fq2_7, fn0_7, fn1_7, fn2_7, gz_7, gr_7, gq_7, gn_7]
    · intro o; simp [go_sem, fz0_7, fz1_7, fz2_7, fz3_7, fz4_7, fz5_7, fr0_7, fr1_7, fr2_7, fr3_7, fr4_7, fr5_7, fq0_7, fq1_7, fq2_7, fn0_7, fn1_7, fn2_7, gz_7, gr_7, gq_7, gn_7]
    · simp [go_sem, fz0_7, fz1_7, fz2_7, fz3_7, fz4_7, fz5_7, fr0_7, fr1_7, fr2_7, fr3_7, fr4_7, fr5_7, fq0_7, fq1_7, fq2_7, fn0_7, fn1_7, fn2_7, gz_7, gr_7, gq_7, gn_7]
    · simp [go_sem, fz0_7, fz1_7, fz2_7, fz3_7, fz4_7, fz5_7, fr0_7, fr1_7, fr2_7, fr3_7, fr4_7, fr5_7, fq0_7, fq1_7, fq2_7, fn0_7, fn1_7, fn2_7, gz_7, gr_7, gq_7, gn_7]
    · simp [go_sem, fz0_7, fz1_7, fz2_7, fz3_7, fz4_7, fz5_7, fr0_7, fr1_7, fr2_7, fr3_7, fr4_7, fr5_7, fq0_7, fq1_7, fq2_7, fn0_7, fn1_7, fn2_7, gz_7, gr_7, gq_7, gn_7]
    · simp [go_sem, fz0_7, fz1_7, fz2_7, fz3_7, fz4_7, fz5_7, fr0_7, fr1_7, fr2_7, fr3_7, fr4_7, fr5_7, fq0_7, fq1_7, fq2_7, fn0_7, fn1_7, fn2_7, gz_7, gr_7, gq_7, gn_7]
    · simp [go_sem, fz0_7, fz1_7, fz2_7, fz3_7, fz4_7, fz5_7, fr0_7, fr1_7, fr2_7, fr3_7, fr4_7, fr5_7, fq0_7, fq1_7, fq2_7, fn0_7, fn1_7, fn2_7, gz_7, gr_7, gq_7, gn_7]
    · simp [go_sem, fz0_7, fz1_7, fz2_7, fz3_7, fz4_7, fz5_7, fr0_7, fr1_7, fr2_7, fr3_7, fr4_7, fr5_7, fq0_7, fq1_7, fq2_7, fn0_7, fn1_7, fn2_7, gz_7, gr_7, gq_7, gn_7]
    · intro o; simp [go_sem, fz0_7, fz1_7, fz2_7, fz3_7, fz4_7, fz5_7, fr0_7, fr1_7, fr2_7, fr3_7, fr4_7, fr5_7, fq0_7, fq1_7, fq2_7, fn0_7, fn1_7, fn2_7, gz_7, gr_7, gq_7, gn_7]
    · simp [go_sem, fz0_7, fz1_7, fz2_7, fz3_7, fz4_7, fz5_7, fr0_7, fr1_7, fr2_7, fr3_7, fr4_7, fr5_7, fq0_7, fq1_7, fq2_7, fn0_7, fn1_7, fn2_7, gz_7, gr_7, gq_7, gn_7]
    · simp [go_sem, fz0_7, fz1_7, fz2_7, fz3_7, fz4_7, fz5_7, fr0_7, fr1_7, fr2_7, fr3_7, fr4_7, fr5_7, fq0_7, fq1_7, fq2_7, fn0_7, fn1_7, fn2_7, gz_7, gr_7, gq_7, gn_7]
    · simp [go_sem, fz0_7, fz1_7, fz2_7, fz3_7, fz4_7, fz5_7, fr0_7, fr1_7, fr2_7, fr3_7, fr4_7, fr5_7, fq0_7, fq1_7, fq2_7, fn0_7, fn1_7, fn2_7, gz_7, gr_7, gq_7, gn_7]
    · intro o; simp [go_sem, fz0_7, fz1_7, fz2_7, fz3_7, fz4_7, fz5_7, fr0_7, fr1_7, fr2_7, fr3_7, fr4_7, fr5_7, fq0_7, fq1_7, fq2_7, fn0_7, fn1_7, fn2_7, gz_7, gr_7, gq_7, gn_7]
    · simp [go_sem, fz0_7, fz1_7, fz2_7, fz3_7, fz4_7, fz5_7, fr0_7, fr1_7, fr2_7, fr3_7, fr4_7, fr5_7, fq0_7, fq1_7, fq2_7, fn0_7, fn1_7, fn2_7, gz_7, gr_7, gq_7, gn_7]
    · simp [go_sem, fz0_7, fz1_7, fz2_7, fz3_7, fz4_7, fz5_7, fr0_7, fr1_7, fr2_7, fr3_7, fr4_7, fr5_7, fq0_7, fq1_7, fq2_7, fn0_7, fn1_7, fn2_7, gz_7, gr_7, gq_7, gn_7]
    · simp [go_sem, fz0_7, fz1_7, fz2_7, fz3_7, fz4_7, fz5_7, fr0_7, fr1_7, fr2_7, fr3_7, fr4_7, fr5_7, fq0_7, fq1_7, fq2_7, fn0_7, fn1_7, fn2_7, gz_7, gr_7, gq_7, gn_7]
    · intro o; simp [go_sem, fz0_7, fz1_7, fz2_7, fz3_7, fz4_7, fz5_7, fr0_7, fr1_7, fr2_7, fr3_7, fr4_7, fr5_7, fq0_7, fq1_7, fq2_7, fn0_7, fn1_7, fn2_7, gz_7, gr_7, gq_7, gn_7]
    · exact ((((((((HB7.out).setCell (by first | omega | (simp <;> omega)) _).setCell (by first | omega | (simp <;> omega)) _).setCell (by first | omega | (simp <;> omega)) _).setCell (by first | omega | (simp <;> omega)) _).setCell (by first | omega | (simp <;> omega)) _).setCell (by first | omega | (simp <;> omega)) _).setCell (by first | omega | (simp <;> omega)) _).drew
    · simp; omega
  clear fz0_7 fz1_7 fz2_7 fz3_7 fz4_7 fz5_7 fr0_7 fr1_7 fr2_7 fr3_7 fr4_7 fr5_7 fq0_7 fq1_7 fq2_7 fn0_7 fn1_7 fn2_7 gz_7 gr_7 gq_7 gn_7 hz7
  refine tk 0 .zero (v := .agg #[.slice (some ⟨g, 0, none⟩) m c, .int .i64 (i6 : Int), .int .i64 (nd6 : Int), .int .i64 er6, .int .i64 at6, .string S6]) ?_ ?_
  · intro w' h
    have a0 := h.1.1 0 _ rfl
    have a1 := h.1.1 1 _ rfl
    have a2 := h.1.1 2 _ rfl
    have a3 := h.1.1 3 _ rfl
    have a4 := h.1.1 4 _ rfl
    have a5 := h.1.1 5 _ rfl
    clear h
    go_simp
  simp only [tkp]
  refine tk 2 (.succ (.succ .zero)) (v := .agg #[.int .i64 5, .string S4, .string S6]) ?_ ?_
  · intro w' h
    have a0 := h.2.2.2.1.1 0 _ rfl
    have a1 := h.2.2.2.1.1 1 _ rfl
    have a2 := h.2.2.2.1.1 2 _ rfl
    clear h
    go_simp
  simp only [tkp]
  refine tk1 1 (.succ .zero) (fun K hK => ?_)
  refine stepTc (by rfl) 103 43 (.string { data := #[41] }) _ (by rfl) (.agg #[.slice (some ⟨g, 0, none⟩) m c, .int .i64 (i6 : Int), .int .i64 (nd6 : Int), .int .i64 er6, .int .i64 at6, .string S6]) (by rfl) (fun _ _ => by rfl) ?_
  refine (HS7.out W (HR.out.below hHeld.2.2.2.2.1)).mono ?_
  rintro e W2 ⟨rfl, hb⟩
  refine ⟨_, rfl, hK.out _ _ (fun _ => hHeld.below hb) (fun hG => ?_)⟩
  clear hK K hHeld hb
  have hHeld := hG (by decide)
  clear hG W
  obtain ⟨hZ, ⟨v0, v1, v2, v3, v4, v5, hr⟩, ⟨u0, u1, u2, hq⟩, hn, hbel, hsz⟩ := hHeld
  have r0 := hr.1 0 _ rfl
  have r1 := hr.1 1 _ rfl
  have r2 := hr.1 2 _ rfl
  have r3 := hr.1 3 _ rfl
  have r4 := hr.1 4 _ rfl
  have r5 := hr.1 5 _ rfl
  have q0 := hq.1 0 _ rfl
  have q1 := hq.1 1 _ rfl
  have q2 := hq.1 2 _ rfl
  have rf := hr.2
  have qf := hq.2
  have HZ : Hid (Cs W2 w.heap.size [.slice (some ⟨g, 0, none⟩) m c, .int .i64 (i6 : Int), .int .i64 (nd6 : Int), .int .i64 er6, .int .i64 at6, .string S6] ∧ Cs W2 (w.heap.size + 1 + 1 + 1) [.int .i64 5, .string S4, .string S6] ∧ Below w.heap.size w W2) := ⟨hZ, hn, hbel⟩
  clear hr hq hZ hn hbel
  simp only [tkp]
  refine tk1 3 (.succ (.succ (.succ .zero))) (fun K hK => ?_)
  skip
  go_simp
  refine hK.out _ _ (fun _ => ?_) (fun hG => ?_)
  · refine ⟨⟨fun o u hu => ?_, fun o => ?_⟩, ⟨_, _, _, _, _, _, Cs.six (v0 := .slice (some ⟨g, 0, none⟩) m c) (v1 := .int .i64 (i7 : Int)) (v2 := .int .i64 (nd7 : Int)) (v3 := .int .i64 er7) (v4 := .int .i64 at7) (v5 := .string (strT got7)) ?_ ?_ ?_ ?_ ?_ ?_ ?_⟩, ⟨u0, u1, u2, Cs.three ?_ ?_ ?_ ?_⟩, ⟨fun o u hu => ?_, fun o => ?_⟩, ?_, ?_⟩
    · have := HZ.out.1.1 o u hu
      simpa [go_sem] using this
    · have := HZ.out.1.2 o
      simpa [go_sem] using this
    · simp [go_sem, r0, r1, r2, r3, r4, r5]
    · simp [go_sem, r0, r1, r2, r3, r4, r5]
    · simp [go_sem, r0, r1, r2, r3, r4, r5]
    · simp [go_sem, r0, r1, r2, r3, r4, r5]
    · simp [go_sem, r0, r1, r2, r3, r4, r5]
    · simp [go_sem, r0, r1, r2, r3, r4, r5]
    · intro o; simp [go_sem, rf]
    · simp [go_sem, q0, q1, q2]
    · simp [go_sem, q0, q1, q2]
    · simp [go_sem, q0, q1, q2]
    · intro o; simp [go_sem, qf]
    · have := HZ.out.2.1.1 o u hu
      simpa [go_sem] using this
    · have := HZ.out.2.1.2 o
      simpa [go_sem] using this
    · exact ((((((HZ.out.2.2).setCell (by first | omega | (simp <;> omega)) _).setCell (by first | omega | (simp <;> omega)) _).setCell (by first | omega | (simp <;> omega)) _).setCell (by first | omega | (simp <;> omega)) _).setCell (by first | omega | (simp <;> omega)) _).setCell (by first | omega | (simp <;> omega)) _
    · simp; omega
  clear hK K hG
  try simp only [tkp]
  refine tk1 4 (.succ (.succ (.succ (.succ .zero)))) (fun K hK => ?_)
  go_simp
  refine hK.out _ _ (fun hne => absurd rfl hne) (fun hG => ?_)
  clear hK K hG
  refine wpLate_done (by kernel_rfl) ?_ _
  go_wp2
  refine bodyPost_ret (v := .tuple #[.agg #[.slice (some ⟨g, 0, none⟩) m c, .int .i64 (i7 : Int), .int .i64 (nd7 : Int), .int .i64 er7, .int .i64 at7, .string (strT got7)], .agg #[.int .i64 5, .string S4, .string S6]]) (by simp [results, Try.results106, go_sem, r0, r1, r2, r3, r4, r5, q0, q1, q2]) rfl ⟨?_, ?_⟩
  · rw [HE.out]
    rw [HV4.out.2, HV6.out.2]; rfl
  · exact (((((((((HZ.out.2.2).setCell (by first | omega | (simp <;> omega)) _).setCell (by first | omega | (simp <;> omega)) _).setCell (by first | omega | (simp <;> omega)) _).setCell (by first | omega | (simp <;> omega)) _).setCell (by first | omega | (simp <;> omega)) _).setCell (by first | omega | (simp <;> omega)) _).setCell (by first | omega | (simp <;> omega)) _).setCell (by first | omega | (simp <;> omega)) _).setCell (by first | omega | (simp <;> omega)) _

set_option maxHeartbeats 4000000 in
theorem l6Step_out {T : Nat → Tok} {A : Nat → Nat} (hT : ∀ i, (T i).c ≤ 15) (g m c : Nat) (p : Pr) (w : World) (hR : RdK w g m T A) (hl : LastK T m) (h0 : p.er = 0) (hi : p.i + 1 < m) (hm : m ≤ 3000) (hnd : p.nd ≤ 100) (hk : (T (p.i + 1)).c = 3) :
    Calls Try.prog 106 #[prV g m c p] w fun r w' => r = .returned (.tuple #[prV g m c (stepP T A p).1, ndV (stepP T A p).2]) ∧ Below w.heap.size w w' := by
  obtain ⟨er, at_, i, nd, got⟩ := p
  obtain rfl : er = 0 := h0
  have hi2 : i + 1 < m := hi
  obtain ⟨i1, hi1⟩ : ∃ i1, i1 = i + 1 := ⟨_, rfl⟩
  have hk' : (T i1).c = 3 := by rw [hi1]; exact hk
  obtain ⟨p1, hp1⟩ : ∃ p1 : Pr, p1 = ⟨0, at_, i1, nd, got⟩ := ⟨_, rfl⟩
  have hi' : p1.i < m := by rw [hp1]; show i1 < m; rw [hi1]; exact hi
  have hnd' : p1.nd ≤ 100 := by rw [hp1]; exact hnd
  have hkp : (T p1.i).c = (T i1).c := by rw [hp1]
  have HR : Hid (RdK w g m T A) := hR
  have HE : Hid (stepP T A ⟨0, at_, i, nd, got⟩ = (symP T A (strP T A (symP T A (mkP T A p1) 11)) 12, ⟨3, (strP T A (symP T A (mkP T A p1) 11)).got, []⟩)) := by
    show _ = _
    unfold stepP
    rw [show ({ (⟨0, at_, i, nd, got⟩ : Pr) with i := (⟨0, at_, i, nd, got⟩ : Pr).i + 1 } : Pr) = p1 by rw [hp1, hi1]]
    unfold stepQ stepK
    have y : p1.er = 0 ∧ (T p1.i).c = 3 := ⟨by rw [hp1], by rw [hkp]; exact hk'⟩
    have n4 : ¬ (p1.er = 0 ∧ (T p1.i).c = 4) := fun e => by rw [y.2] at e; omega
    have n5 : ¬ (p1.er = 0 ∧ (T p1.i).c = 5) := fun e => by rw [y.2] at e; omega
    rw [if_neg n4, if_neg n5, if_neg (fun e => e.2 y), if_neg (by omega)]
  have PV : ∀ S, S = strT got → prV g m c p1 = .agg #[.slice (some ⟨g, 0, none⟩) m c, .int .i64 (i1 : Int), .int .i64 (nd : Int), .int .i64 0, .int .i64 at_, .string S] := fun S hS => by rw [hp1, hS]; rfl
  obtain ⟨S, hS⟩ : ∃ S, S = strT got := ⟨_, rfl⟩
  have PV := PV S hS
  have HI4 : Hid (∀ W, RdK W g m T A → Calls Try.prog 101 #[.agg #[.slice (some ⟨g, 0, none⟩) m c, .int .i64 (i1 : Int), .int .i64 (nd : Int), .int .i64 0, .int .i64 at_, .string S], .int .i64 1, .string { data := #[105, 110] }] W fun r w' => r = .returned (.bool false) ∧ Below W.heap.size W w') := fun W hW => by
    rw [← PV]
    refine (l6Is_c hT 4 1 _ rfl rfl (by omega) (by omega) g m c p1 W hW hi' hm).mono ?_
    rintro e w' ⟨rfl, hb⟩
    exact ⟨by rw [show decide (p1.er = 0 ∧ (T p1.i).c = 4) = false from decide_eq_false (fun e => by rw [hkp] at e; omega)], hb⟩
  have HI5 : Hid (∀ W, RdK W g m T A → Calls Try.prog 101 #[.agg #[.slice (some ⟨g, 0, none⟩) m c, .int .i64 (i1 : Int), .int .i64 (nd : Int), .int .i64 0, .int .i64 at_, .string S], .int .i64 1, .string { data := #[104, 97, 115] }] W fun r w' => r = .returned (.bool false) ∧ Below W.heap.size W w') := fun W hW => by
    rw [← PV]
    refine (l6Is_c hT 5 1 _ rfl rfl (by omega) (by omega) g m c p1 W hW hi' hm).mono ?_
    rintro e w' ⟨rfl, hb⟩
    exact ⟨by rw [show decide (p1.er = 0 ∧ (T p1.i).c = 5) = false from decide_eq_false (fun e => by rw [hkp] at e; omega)], hb⟩
  have HI3 : Hid (∀ W, RdK W g m T A → Calls Try.prog 101 #[.agg #[.slice (some ⟨g, 0, none⟩) m c, .int .i64 (i1 : Int), .int .i64 (nd : Int), .int .i64 0, .int .i64 at_, .string S], .int .i64 1, .string { data := #[111, 117, 116] }] W fun r w' => r = .returned (.bool true) ∧ Below W.heap.size W w') := fun W hW => by
    rw [← PV]
    refine (l6Is_c hT 3 1 _ rfl rfl (by omega) (by omega) g m c p1 W hW hi' hm).mono ?_
    rintro e w' ⟨rfl, hb⟩
    exact ⟨by rw [show decide (p1.er = 0 ∧ (T p1.i).c = 3) = true from decide_eq_true ⟨by rw [hp1], by rw [hkp]; exact hk'⟩], hb⟩
  have HB0 : Hid (∀ o1 o2 o3 o4, Below w.heap.size w ((((w.alloc o1).alloc o2).alloc o3).alloc o4)) := fun o1 o2 o3 o4 => (((below_alloc _ _).alloc (by first | omega | (simp <;> omega)) _).alloc (by first | omega | (simp <;> omega)) _).alloc (by first | omega | (simp <;> omega)) _
  have HM : Hid (∀ W, RdK W g m T A → Calls Try.prog 102 #[.agg #[.slice (some ⟨g, 0, none⟩) m c, .int .i64 (i1 : Int), .int .i64 (nd : Int), .int .i64 0, .int .i64 at_, .string S]] W fun r w' => r = .returned (prV g m c (mkP T A p1)) ∧ Below W.heap.size W w') := fun W hW => by
    rw [← PV]
    exact l6Makes_any hT g m c p1 W hW hi' hm hnd'
  have l2 : (mkP T A p1).i < m := mk_lt hl hi' (by rw [hkp]; omega) (by rw [hkp]; omega)
  have l3 : (symP T A (mkP T A p1) 11).i < m := sym_lt hl l2 (by omega) (by omega)
  have l4 : (strP T A (symP T A (mkP T A p1) 11)).i < m := str_lt hl l3
  obtain ⟨p4, hp4⟩ : ∃ p4, p4 = strP T A (symP T A (mkP T A p1) 11) := ⟨_, rfl⟩
  rw [← hp4] at l4 HE
  have HS3 : Hid (∀ W, RdK W g m T A → Calls Try.prog 103 #[prV g m c (mkP T A p1), .string { data := #[40] }] W fun r w' => r = .returned (prV g m c (symP T A (mkP T A p1) 11)) ∧ Below W.heap.size W w') := fun W hW => l6Sym_any hT 11 _ rfl rfl (by omega) (by omega) g m c _ W hW l2 hm
  have HS4 : Hid (∀ W, RdK W g m T A → Calls Try.prog 104 #[prV g m c (symP T A (mkP T A p1) 11)] W fun r w' => r = .returned (prV g m c p4) ∧ Below W.heap.size W w') := fun W hW => by
    rw [hp4]
    exact l6Str_any hT g m c _ W hW l3 hm
  clear hp4 l2 l3
  generalize mkP T A p1 = p2 at *
  generalize symP T A p2 11 = p3 at *
  obtain ⟨er4, at4, i4, nd4, got4⟩ := p4
  obtain ⟨S4, hS4⟩ : ∃ S4, S4 = strT got4 := ⟨_, rfl⟩
  have HV4 : Hid (prV g m c ⟨er4, at4, i4, nd4, got4⟩ = .agg #[.slice (some ⟨g, 0, none⟩) m c, .int .i64 (i4 : Int), .int .i64 (nd4 : Int), .int .i64 er4, .int .i64 at4, .string S4] ∧ S4 = strT got4) := ⟨by rw [hS4]; rfl, hS4⟩
  have HS7 : Hid (∀ W, RdK W g m T A → Calls Try.prog 103 #[.agg #[.slice (some ⟨g, 0, none⟩) m c, .int .i64 (i4 : Int), .int .i64 (nd4 : Int), .int .i64 er4, .int .i64 at4, .string S4], .string { data := #[41] }] W fun r w' => r = .returned (prV g m c (symP T A ⟨er4, at4, i4, nd4, got4⟩ 12)) ∧ Below W.heap.size W w') := fun W hW => by
    rw [← HV4.out.1]
    exact l6Sym_any hT 12 _ rfl rfl (by omega) (by omega) g m c _ W hW l4 hm
  rw [HV4.out.1] at HS4
  clear hS4 l4
  obtain ⟨p7, hp7⟩ : ∃ p7, p7 = symP T A ⟨er4, at4, i4, nd4, got4⟩ 12 := ⟨_, rfl⟩
  rw [← hp7] at HS7 HE
  clear hp7
  obtain ⟨er7, at7, i7, nd7, got7⟩ := p7
  have HV7 : Hid (prV g m c ⟨er7, at7, i7, nd7, got7⟩ = .agg #[.slice (some ⟨g, 0, none⟩) m c, .int .i64 (i7 : Int), .int .i64 (nd7 : Int), .int .i64 er7, .int .i64 at7, .string (strT got7)]) := rfl
  rw [HV7.out] at HS7
  have e2 : IntKind.i64.wrap ((i : Int) + 1) = (i1 : Int) := by rw [hi1, IntKind.wrap_i64]; omega
  show Calls Try.prog 106 #[.agg #[.slice (some ⟨g, 0, none⟩) m c, .int .i64 (i : Int), .int .i64 (nd : Int), .int .i64 0, .int .i64 at_, .string (strT got)]] w _
  rw [← hS]
  have HP : Hid (p1 = ⟨0, at_, i1, nd, got⟩) := hp1
  clear hS hR PV hp1 hk hk' hkp hi1 hi hnd
  go_enter Try.func106, Try.ntmps106
  go_wp2_with fail
  refine (HI4.out _ (HR.out.below (HB0.out _ _ _ _))).mono ?_
  rintro e w1 ⟨rfl, hb⟩
  have hz1 : w.heap.size + 3 < w1.heap.size := by have := hb.size; (try simp at this); omega
  have HB1 : Hid (Below w.heap.size w w1) := (HB0.out _ _ _ _).trans (hb.mono (by first | omega | (simp <;> omega)))
  have fz0_1 : w1.cell? ⟨w.heap.size, 0, none⟩ = some (.slice (some ⟨g, 0, none⟩) m c) := by rw [hb.cell (p := ⟨w.heap.size, 0, none⟩) (by first | omega | (simp <;> omega))]; simp [go_sem]
  have fz1_1 : w1.cell? ⟨w.heap.size, 1, none⟩ = some (.int .i64 (i1 : Int)) := by rw [hb.cell (p := ⟨w.heap.size, 1, none⟩) (by first | omega | (simp <;> omega))]; simp [go_sem]
  have fz2_1 : w1.cell? ⟨w.heap.size, 2, none⟩ = some (.int .i64 (nd : Int)) := by rw [hb.cell (p := ⟨w.heap.size, 2, none⟩) (by first | omega | (simp <;> omega))]; simp [go_sem]
  have fz3_1 : w1.cell? ⟨w.heap.size, 3, none⟩ = some (.int .i64 0) := by rw [hb.cell (p := ⟨w.heap.size, 3, none⟩) (by first | omega | (simp <;> omega))]; simp [go_sem]
  have fz4_1 : w1.cell? ⟨w.heap.size, 4, none⟩ = some (.int .i64 at_) := by rw [hb.cell (p := ⟨w.heap.size, 4, none⟩) (by first | omega | (simp <;> omega))]; simp [go_sem]
  have fz5_1 : w1.cell? ⟨w.heap.size, 5, none⟩ = some (.string S) := by rw [hb.cell (p := ⟨w.heap.size, 5, none⟩) (by first | omega | (simp <;> omega))]; simp [go_sem]
  have fr0_1 : w1.cell? ⟨w.heap.size + 1, 0, none⟩ = some (.slice none 0 0) := by rw [hb.cell (p := ⟨w.heap.size + 1, 0, none⟩) (by first | omega | (simp <;> omega))]; simp [go_sem]
  have fr1_1 : w1.cell? ⟨w.heap.size + 1, 1, none⟩ = some (.int .i64 0) := by rw [hb.cell (p := ⟨w.heap.size + 1, 1, none⟩) (by first | omega | (simp <;> omega))]; simp [go_sem]
  have fr2_1 : w1.cell? ⟨w.heap.size + 1, 2, none⟩ = some (.int .i64 0) := by rw [hb.cell (p := ⟨w.heap.size + 1, 2, none⟩) (by first | omega | (simp <;> omega))]; simp [go_sem]
  have fr3_1 : w1.cell? ⟨w.heap.size + 1, 3, none⟩ = some (.int .i64 0) := by rw [hb.cell (p := ⟨w.heap.size + 1, 3, none⟩) (by first | omega | (simp <;> omega))]; simp [go_sem]
  have fr4_1 : w1.cell? ⟨w.heap.size + 1, 4, none⟩ = some (.int .i64 0) := by rw [hb.cell (p := ⟨w.heap.size + 1, 4, none⟩) (by first | omega | (simp <;> omega))]; simp [go_sem]
  have fr5_1 : w1.cell? ⟨w.heap.size + 1, 5, none⟩ = some (.string { data := #[] }) := by rw [hb.cell (p := ⟨w.heap.size + 1, 5, none⟩) (by first | omega | (simp <;> omega))]; simp [go_sem]
  have fq0_1 : w1.cell? ⟨w.heap.size + 1 + 1, 0, none⟩ = some (.int .i64 0) := by rw [hb.cell (p := ⟨w.heap.size + 1 + 1, 0, none⟩) (by first | omega | (simp <;> omega))]; simp [go_sem]
  have fq1_1 : w1.cell? ⟨w.heap.size + 1 + 1, 1, none⟩ = some (.string { data := #[] }) := by rw [hb.cell (p := ⟨w.heap.size + 1 + 1, 1, none⟩) (by first | omega | (simp <;> omega))]; simp [go_sem]
  have fq2_1 : w1.cell? ⟨w.heap.size + 1 + 1, 2, none⟩ = some (.string { data := #[] }) := by rw [hb.cell (p := ⟨w.heap.size + 1 + 1, 2, none⟩) (by first | omega | (simp <;> omega))]; simp [go_sem]
  have fn0_1 : w1.cell? ⟨w.heap.size + 1 + 1 + 1, 0, none⟩ = some (.int .i64 3) := by rw [hb.cell (p := ⟨w.heap.size + 1 + 1 + 1, 0, none⟩) (by first | omega | (simp <;> omega))]; simp [go_sem]
  have fn1_1 : w1.cell? ⟨w.heap.size + 1 + 1 + 1, 1, none⟩ = some (.string { data := #[] }) := by rw [hb.cell (p := ⟨w.heap.size + 1 + 1 + 1, 1, none⟩) (by first | omega | (simp <;> omega))]; simp [go_sem]
  have fn2_1 : w1.cell? ⟨w.heap.size + 1 + 1 + 1, 2, none⟩ = some (.string { data := #[] }) := by rw [hb.cell (p := ⟨w.heap.size + 1 + 1 + 1, 2, none⟩) (by first | omega | (simp <;> omega))]; simp [go_sem]
  have gz_1 : ∀ o, w1.frozen? ⟨w.heap.size, o, none⟩ = false := fun o => by rw [hb.frozen (p := ⟨w.heap.size, o, none⟩) (by first | omega | (simp <;> omega))]; simp [go_sem]
  have gr_1 : ∀ o, w1.frozen? ⟨w.heap.size + 1, o, none⟩ = false := fun o => by rw [hb.frozen (p := ⟨w.heap.size + 1, o, none⟩) (by first | omega | (simp <;> omega))]; simp [go_sem]
  have gq_1 : ∀ o, w1.frozen? ⟨w.heap.size + 1 + 1, o, none⟩ = false := fun o => by rw [hb.frozen (p := ⟨w.heap.size + 1 + 1, o, none⟩) (by first | omega | (simp <;> omega))]; simp [go_sem]
  have gn_1 : ∀ o, w1.frozen? ⟨w.heap.size + 1 + 1 + 1, o, none⟩ = false := fun o => by rw [hb.frozen (p := ⟨w.heap.size + 1 + 1 + 1, o, none⟩) (by first | omega | (simp <;> omega))]; simp [go_sem]
  clear hb
  go_wp2_with fail
  refine (HI5.out _ (HR.out.below (HB1.out))).mono ?_
  rintro e w2 ⟨rfl, hb⟩
  have hz2 : w.heap.size + 3 < w2.heap.size := by have := hb.size; (try simp at this); omega
  have HB2 : Hid (Below w.heap.size w w2) := (HB1.out).trans (hb.mono (by first | omega | (simp <;> omega)))
  have fz0_2 : w2.cell? ⟨w.heap.size, 0, none⟩ = some (.slice (some ⟨g, 0, none⟩) m c) := by rw [hb.cell (p := ⟨w.heap.size, 0, none⟩) (by first | omega | (simp <;> omega))]; simp [go_sem, fz0_1, fz1_1, fz2_1, fz3_1, fz4_1, fz5_1]
  have fz1_2 : w2.cell? ⟨w.heap.size, 1, none⟩ = some (.int .i64 (i1 : Int)) := by rw [hb.cell (p := ⟨w.heap.size, 1, none⟩) (by first | omega | (simp <;> omega))]; simp [go_sem, fz0_1, fz1_1, fz2_1, fz3_1, fz4_1, fz5_1]
  have fz2_2 : w2.cell? ⟨w.heap.size, 2, none⟩ = some (.int .i64 (nd : Int)) := by rw [hb.cell (p := ⟨w.heap.size, 2, none⟩) (by first | omega | (simp <;> omega))]; simp [go_sem, fz0_1, fz1_1, fz2_1, fz3_1, fz4_1, fz5_1]
  have fz3_2 : w2.cell? ⟨w.heap.size, 3, none⟩ = some (.int .i64 0) := by rw [hb.cell (p := ⟨w.heap.size, 3, none⟩) (by first | omega | (simp <;> omega))]; simp [go_sem, fz0_1, fz1_1, fz2_1, fz3_1, fz4_1, fz5_1]
  have fz4_2 : w2.cell? ⟨w.heap.size, 4, none⟩ = some (.int .i64 at_) := by rw [hb.cell (p := ⟨w.heap.size, 4, none⟩) (by first | omega | (simp <;> omega))]; simp [go_sem, fz0_1, fz1_1, fz2_1, fz3_1, fz4_1, fz5_1]
  have fz5_2 : w2.cell? ⟨w.heap.size, 5, none⟩ = some (.string S) := by rw [hb.cell (p := ⟨w.heap.size, 5, none⟩) (by first | omega | (simp <;> omega))]; simp [go_sem, fz0_1, fz1_1, fz2_1, fz3_1, fz4_1, fz5_1]
  have fr0_2 : w2.cell? ⟨w.heap.size + 1, 0, none⟩ = some (.slice none 0 0) := by rw [hb.cell (p := ⟨w.heap.size + 1, 0, none⟩) (by first | omega | (simp <;> omega))]; simp [go_sem, fr0_1, fr1_1, fr2_1, fr3_1, fr4_1, fr5_1]
  have fr1_2 : w2.cell? ⟨w.heap.size + 1, 1, none⟩ = some (.int .i64 0) := by rw [hb.cell (p := ⟨w.heap.size + 1, 1, none⟩) (by first | omega | (simp <;> omega))]; simp [go_sem, fr0_1, fr1_1, fr2_1, fr3_1, fr4_1, fr5_1]
  have fr2_2 : w2.cell? ⟨w.heap.size + 1, 2, none⟩ = some (.int .i64 0) := by rw [hb.cell (p := ⟨w.heap.size + 1, 2, none⟩) (by first | omega | (simp <;> omega))]; simp [go_sem, fr0_1, fr1_1, fr2_1, fr3_1, fr4_1, fr5_1]
  have fr3_2 : w2.cell? ⟨w.heap.size + 1, 3, none⟩ = some (.int .i64 0) := by rw [hb.cell (p := ⟨w.heap.size + 1, 3, none⟩) (by first | omega | (simp <;> omega))]; simp [go_sem, fr0_1, fr1_1, fr2_1, fr3_1, fr4_1, fr5_1]
  have fr4_2 : w2.cell? ⟨w.heap.size + 1, 4, none⟩ = some (.int .i64 0) := by rw [hb.cell (p := ⟨w.heap.size + 1, 4, none⟩) (by first | omega | (simp <;> omega))]; simp [go_sem, fr0_1, fr1_1, fr2_1, fr3_1, fr4_1, fr5_1]
  have fr5_2 : w2.cell? ⟨w.heap.size + 1, 5, none⟩ = some (.string { data := #[] }) := by rw [hb.cell (p := ⟨w.heap.size + 1, 5, none⟩) (by first | omega | (simp <;> omega))]; simp [go_sem, fr0_1, fr1_1, fr2_1, fr3_1, fr4_1, fr5_1]
  have fq0_2 : w2.cell? ⟨w.heap.size + 1 + 1, 0, none⟩ = some (.int .i64 0) := by rw [hb.cell (p := ⟨w.heap.size + 1 + 1, 0, none⟩) (by first | omega | (simp <;> omega))]; simp [go_sem, fq0_1, fq1_1, fq2_1]
  have fq1_2 : w2.cell? ⟨w.heap.size + 1 + 1, 1, none⟩ = some (.string { data := #[] }) := by rw [hb.cell (p := ⟨w.heap.size + 1 + 1, 1, none⟩) (by first | omega | (simp <;> omega))]; simp [go_sem, fq0_1, fq1_1, fq2_1]
  have fq2_2 : w2.cell? ⟨w.heap.size + 1 + 1, 2, none⟩ = some (.string { data := #[] }) := by rw [hb.cell (p := ⟨w.heap.size + 1 + 1, 2, none⟩) (by first | omega | (simp <;> omega))]; simp [go_sem, fq0_1, fq1_1, fq2_1]
  have fn0_2 : w2.cell? ⟨w.heap.size + 1 + 1 + 1, 0, none⟩ = some (.int .i64 3) := by rw [hb.cell (p := ⟨w.heap.size + 1 + 1 + 1, 0, none⟩) (by first | omega | (simp <;> omega))]; simp [go_sem, fn0_1, fn1_1, fn2_1]
  have fn1_2 : w2.cell? ⟨w.heap.size + 1 + 1 + 1, 1, none⟩ = some (.string { data := #[] }) := by rw [hb.cell (p := ⟨w.heap.size + 1 + 1 + 1, 1, none⟩) (by first | omega | (simp <;> omega))]; simp [go_sem, fn0_1, fn1_1, fn2_1]
  have fn2_2 : w2.cell? ⟨w.heap.size + 1 + 1 + 1, 2, none⟩ = some (.string { data := #[] }) := by rw [hb.cell (p := ⟨w.heap.size + 1 + 1 + 1, 2, none⟩) (by first | omega | (simp <;> omega))]; simp [go_sem, fn0_1, fn1_1, fn2_1]
  have gz_2 : ∀ o, w2.frozen? ⟨w.heap.size, o, none⟩ = false := fun o => by rw [hb.frozen (p := ⟨w.heap.size, o, none⟩) (by first | omega | (simp <;> omega))]; simp [go_sem, gz_1]
  have gr_2 : ∀ o, w2.frozen? ⟨w.heap.size + 1, o, none⟩ = false := fun o => by rw [hb.frozen (p := ⟨w.heap.size + 1, o, none⟩) (by first | omega | (simp <;> omega))]; simp [go_sem, gr_1]
  have gq_2 : ∀ o, w2.frozen? ⟨w.heap.size + 1 + 1, o, none⟩ = false := fun o => by rw [hb.frozen (p := ⟨w.heap.size + 1 + 1, o, none⟩) (by first | omega | (simp <;> omega))]; simp [go_sem, gq_1]
  have gn_2 : ∀ o, w2.frozen? ⟨w.heap.size + 1 + 1 + 1, o, none⟩ = false := fun o => by rw [hb.frozen (p := ⟨w.heap.size + 1 + 1 + 1, o, none⟩) (by first | omega | (simp <;> omega))]; simp [go_sem, gn_1]
  clear fz0_1 fz1_1 fz2_1 fz3_1 fz4_1 fz5_1 fr0_1 fr1_1 fr2_1 fr3_1 fr4_1 fr5_1 fq0_1 fq1_1 fq2_1 fn0_1 fn1_1 fn2_1 gz_1 gr_1 gq_1 gn_1
  clear hb
  go_wp2_with fail
  refine (HI3.out _ (HR.out.below (HB2.out))).mono ?_
  rintro e w3 ⟨rfl, hb⟩
  have hz3 : w.heap.size + 3 < w3.heap.size := by have := hb.size; (try simp at this); omega
  have HB3 : Hid (Below w.heap.size w w3) := (HB2.out).trans (hb.mono (by first | omega | (simp <;> omega)))
  have fz0_3 : w3.cell? ⟨w.heap.size, 0, none⟩ = some (.slice (some ⟨g, 0, none⟩) m c) := by rw [hb.cell (p := ⟨w.heap.size, 0, none⟩) (by first | omega | (simp <;> omega))]; simp [go_sem, fz0_2, fz1_2, fz2_2, fz3_2, fz4_2, fz5_2]
  have fz1_3 : w3.cell? ⟨w.heap.size, 1, none⟩ = some (.int .i64 (i1 : Int)) := by rw [hb.cell (p := ⟨w.heap.size, 1, none⟩) (by first | omega | (simp <;> omega))]; simp [go_sem, fz0_2, fz1_2, fz2_2, fz3_2, fz4_2, fz5_2]
  have fz2_3 : w3.cell? ⟨w.heap.size, 2, none⟩ = some (.int .i64 (nd : Int)) := by rw [hb.cell (p := ⟨w.heap.size, 2, none⟩) (by first | omega | (simp <;> omega))]; simp [go_sem, fz0_2, fz1_2, fz2_2, fz3_2, fz4_2, fz5_2]
  have fz3_3 : w3.cell? ⟨w.heap.size, 3, none⟩ = some (.int .i64 0) := by rw [hb.cell (p := ⟨w.heap.size, 3, none⟩) (by first | omega | (simp <;> omega))]; simp [go_sem, fz0_2, fz1_2, fz2_2, fz3_2, fz4_2, fz5_2]
  have fz4_3 : w3.cell? ⟨w.heap.size, 4, none⟩ = some (.int .i64 at_) := by rw [hb.cell (p := ⟨w.heap.size, 4, none⟩) (by first | omega | (simp <;> omega))]; simp [go_sem, fz0_2, fz1_2, fz2_2, fz3_2, fz4_2, fz5_2]
  have fz5_3 : w3.cell? ⟨w.heap.size, 5, none⟩ = some (.string S) := by rw [hb.cell (p := ⟨w.heap.size, 5, none⟩) (by first | omega | (simp <;> omega))]; simp [go_sem, fz0_2, fz1_2, fz2_2, fz3_2, fz4_2, fz5_2]
  have fr0_3 : w3.cell? ⟨w.heap.size + 1, 0, none⟩ = some (.slice none 0 0) := by rw [hb.cell (p := ⟨w.heap.size + 1, 0, none⟩) (by first | omega | (simp <;> omega))]; simp [go_sem, fr0_2, fr1_2, fr2_2, fr3_2, fr4_2, fr5_2]
  have fr1_3 : w3.cell? ⟨w.heap.size + 1, 1, none⟩ = some (.int .i64 0) := by rw [hb.cell (p := ⟨w.heap.size + 1, 1, none⟩) (by first | omega | (simp <;> omega))]; simp [go_sem, fr0_2, fr1_2, fr2_2, fr3_2, fr4_2, fr5_2]
  have fr2_3 : w3.cell? ⟨w.heap.size + 1, 2, none⟩ = some (.int .i64 0) := by rw [hb.cell (p := ⟨w.heap.size + 1, 2, none⟩) (by first | omega | (simp <;> omega))]; simp [go_sem, fr0_2, fr1_2, fr2_2, fr3_2, fr4_2, fr5_2]
  have fr3_3 : w3.cell? ⟨w.heap.size + 1, 3, none⟩ = some (.int .i64 0) := by rw [hb.cell (p := ⟨w.heap.size + 1, 3, none⟩) (by first | omega | (simp <;> omega))]; simp [go_sem, fr0_2, fr1_2, fr2_2, fr3_2, fr4_2, fr5_2]
  have fr4_3 : w3.cell? ⟨w.heap.size + 1, 4, none⟩ = some (.int .i64 0) := by rw [hb.cell (p := ⟨w.heap.size + 1, 4, none⟩) (by first | omega | (simp <;> omega))]; simp [go_sem, fr0_2, fr1_2, fr2_2, fr3_2, fr4_2, fr5_2]
  have fr5_3 : w3.cell? ⟨w.heap.size + 1, 5, none⟩ = some (.string { data := #[] }) := by rw [hb.cell (p := ⟨w.heap.size + 1, 5, none⟩) (by first | omega | (simp <;> omega))]; simp [go_sem, fr0_2, fr1_2, fr2_2, fr3_2, fr4_2, fr5_2]
  have fq0_3 : w3.cell? ⟨w.heap.size + 1 + 1, 0, none⟩ = some (.int .i64 0) := by rw [hb.cell (p := ⟨w.heap.size + 1 + 1, 0, none⟩) (by first | omega | (simp <;> omega))]; simp [go_sem, fq0_2, fq1_2, fq2_2]
  have fq1_3 : w3.cell? ⟨w.heap.size + 1 + 1, 1, none⟩ = some (.string { data := #[] }) := by rw [hb.cell (p := ⟨w.heap.size + 1 + 1, 1, none⟩) (by first | omega | (simp <;> omega))]; simp [go_sem, fq0_2, fq1_2, fq2_2]
  have fq2_3 : w3.cell? ⟨w.heap.size + 1 + 1, 2, none⟩ = some (.string { data := #[] }) := by rw [hb.cell (p := ⟨w.heap.size + 1 + 1, 2, none⟩) (by first | omega | (simp <;> omega))]; simp [go_sem, fq0_2, fq1_2, fq2_2]
  have fn0_3 : w3.cell? ⟨w.heap.size + 1 + 1 + 1, 0, none⟩ = some (.int .i64 3) := by rw [hb.cell (p := ⟨w.heap.size + 1 + 1 + 1, 0, none⟩) (by first | omega | (simp <;> omega))]; simp [go_sem, fn0_2, fn1_2, fn2_2]
  have fn1_3 : w3.cell? ⟨w.heap.size + 1 + 1 + 1, 1, none⟩ = some (.string { data := #[] }) := by rw [hb.cell (p := ⟨w.heap.size + 1 + 1 + 1, 1, none⟩) (by first | omega | (simp <;> omega))]; simp [go_sem, fn0_2, fn1_2, fn2_2]
  have fn2_3 : w3.cell? ⟨w.heap.size + 1 + 1 + 1, 2, none⟩ = some (.string { data := #[] }) := by rw [hb.cell (p := ⟨w.heap.size + 1 + 1 + 1, 2, none⟩) (by first | omega | (simp <;> omega))]; simp [go_sem, fn0_2, fn1_2, fn2_2]
  have gz_3 : ∀ o, w3.frozen? ⟨w.heap.size, o, none⟩ = false := fun o => by rw [hb.frozen (p := ⟨w.heap.size, o, none⟩) (by first | omega | (simp <;> omega))]; simp [go_sem, gz_2]
  have gr_3 : ∀ o, w3.frozen? ⟨w.heap.size + 1, o, none⟩ = false := fun o => by rw [hb.frozen (p := ⟨w.heap.size + 1, o, none⟩) (by first | omega | (simp <;> omega))]; simp [go_sem, gr_2]
  have gq_3 : ∀ o, w3.frozen? ⟨w.heap.size + 1 + 1, o, none⟩ = false := fun o => by rw [hb.frozen (p := ⟨w.heap.size + 1 + 1, o, none⟩) (by first | omega | (simp <;> omega))]; simp [go_sem, gq_2]
  have gn_3 : ∀ o, w3.frozen? ⟨w.heap.size + 1 + 1 + 1, o, none⟩ = false := fun o => by rw [hb.frozen (p := ⟨w.heap.size + 1 + 1 + 1, o, none⟩) (by first | omega | (simp <;> omega))]; simp [go_sem, gn_2]
  clear fz0_2 fz1_2 fz2_2 fz3_2 fz4_2 fz5_2 fr0_2 fr1_2 fr2_2 fr3_2 fr4_2 fr5_2 fq0_2 fq1_2 fq2_2 fn0_2 fn1_2 fn2_2 gz_2 gr_2 gq_2 gn_2
  clear hb
  go_wp2_with fail
  refine (HM.out _ (HR.out.below (HB3.out))).mono ?_
  rintro e w4 ⟨rfl, hb⟩
  have hz4 : w.heap.size + 3 < w4.heap.size := by have := hb.size; (try simp at this); omega
  have HB4 : Hid (Below w.heap.size w w4) := (HB3.out).trans (hb.mono (by first | omega | (simp <;> omega)))
  have fz0_4 : w4.cell? ⟨w.heap.size, 0, none⟩ = some (.slice (some ⟨g, 0, none⟩) m c) := by rw [hb.cell (p := ⟨w.heap.size, 0, none⟩) (by first | omega | (simp <;> omega))]; simp [go_sem, fz0_3, fz1_3, fz2_3, fz3_3, fz4_3, fz5_3]
  have fz1_4 : w4.cell? ⟨w.heap.size, 1, none⟩ = some (.int .i64 (i1 : Int)) := by rw [hb.cell (p := ⟨w.heap.size, 1, none⟩) (by first | omega | (simp <;> omega))]; simp [go_sem, fz0_3, fz1_3, fz2_3, fz3_3, fz4_3, fz5_3]
  have fz2_4 : w4.cell? ⟨w.heap.size, 2, none⟩ = some (.int .i64 (nd : Int)) := by rw [hb.cell (p := ⟨w.heap.size, 2, none⟩) (by first | omega | (simp <;> omega))]; simp [go_sem, fz0_3, fz1_3, fz2_3, fz3_3, fz4_3, fz5_3]
  have fz3_4 : w4.cell? ⟨w.heap.size, 3, none⟩ = some (.int .i64 0) := by rw [hb.cell (p := ⟨w.heap.size, 3, none⟩) (by first | omega | (simp <;> omega))]; simp [go_sem, fz0_3, fz1_3, fz2_3, fz3_3, fz4_3, fz5_3]
  have fz4_4 : w4.cell? ⟨w.heap.size, 4, none⟩ = some (.int .i64 at_) := by rw [hb.cell (p := ⟨w.heap.size, 4, none⟩) (by first | omega | (simp <;> omega))]; simp [go_sem, fz0_3, fz1_3, fz2_3, fz3_3, fz4_3, fz5_3]
  have fz5_4 : w4.cell? ⟨w.heap.size, 5, none⟩ = some (.string S) := by rw [hb.cell (p := ⟨w.heap.size, 5, none⟩) (by first | omega | (simp <;> omega))]; simp [go_sem, fz0_3, fz1_3, fz2_3, fz3_3, fz4_3, fz5_3]
  have fr0_4 : w4.cell? ⟨w.heap.size + 1, 0, none⟩ = some (.slice none 0 0) := by rw [hb.cell (p := ⟨w.heap.size + 1, 0, none⟩) (by first | omega | (simp <;> omega))]; simp [go_sem, fr0_3, fr1_3, fr2_3, fr3_3, fr4_3, fr5_3]
  have fr1_4 : w4.cell? ⟨w.heap.size + 1, 1, none⟩ = some (.int .i64 0) := by rw [hb.cell (p := ⟨w.heap.size + 1, 1, none⟩) (by first | omega | (simp <;> omega))]; simp [go_sem, fr0_3, fr1_3, fr2_3, fr3_3, fr4_3, fr5_3]
  have fr2_4 : w4.cell? ⟨w.heap.size + 1, 2, none⟩ = some (.int .i64 0) := by rw [hb.cell (p := ⟨w.heap.size + 1, 2, none⟩) (by first | omega | (simp <;> omega))]; simp [go_sem, fr0_3, fr1_3, fr2_3, fr3_3, fr4_3, fr5_3]
  have fr3_4 : w4.cell? ⟨w.heap.size + 1, 3, none⟩ = some (.int .i64 0) := by rw [hb.cell (p := ⟨w.heap.size + 1, 3, none⟩) (by first | omega | (simp <;> omega))]; simp [go_sem, fr0_3, fr1_3, fr2_3, fr3_3, fr4_3, fr5_3]
  have fr4_4 : w4.cell? ⟨w.heap.size + 1, 4, none⟩ = some (.int .i64 0) := by rw [hb.cell (p := ⟨w.heap.size + 1, 4, none⟩) (by first | omega | (simp <;> omega))]; simp [go_sem, fr0_3, fr1_3, fr2_3, fr3_3, fr4_3, fr5_3]
  have fr5_4 : w4.cell? ⟨w.heap.size + 1, 5, none⟩ = some (.string { data := #[] }) := by rw [hb.cell (p := ⟨w.heap.size + 1, 5, none⟩) (by first | omega | (simp <;> omega))]; simp [go_sem, fr0_3, fr1_3, fr2_3, fr3_3, fr4_3, fr5_3]
  have fq0_4 : w4.cell? ⟨w.heap.size + 1 + 1, 0, none⟩ = some (.int .i64 0) := by rw [hb.cell (p := ⟨w.heap.size + 1 + 1, 0, none⟩) (by first | omega | (simp <;> omega))]; simp [go_sem, fq0_3, fq1_3, fq2_3]
  have fq1_4 : w4.cell? ⟨w.heap.size + 1 + 1, 1, none⟩ = some (.string { data := #[] }) := by rw [hb.cell (p := ⟨w.heap.size + 1 + 1, 1, none⟩) (by first | omega | (simp <;> omega))]; simp [go_sem, fq0_3, fq1_3, fq2_3]
  have fq2_4 : w4.cell? ⟨w.heap.size + 1 + 1, 2, none⟩ = some (.string { data := #[] }) := by rw [hb.cell (p := ⟨w.heap.size + 1 + 1, 2, none⟩) (by first | omega | (simp <;> omega))]; simp [go_sem, fq0_3, fq1_3, fq2_3]
  have fn0_4 : w4.cell? ⟨w.heap.size + 1 + 1 + 1, 0, none⟩ = some (.int .i64 3) := by rw [hb.cell (p := ⟨w.heap.size + 1 + 1 + 1, 0, none⟩) (by first | omega | (simp <;> omega))]; simp [go_sem, fn0_3, fn1_3, fn2_3]
  have fn1_4 : w4.cell? ⟨w.heap.size + 1 + 1 + 1, 1, none⟩ = some (.string { data := #[] }) := by rw [hb.cell (p := ⟨w.heap.size + 1 + 1 + 1, 1, none⟩) (by first | omega | (simp <;> omega))]; simp [go_sem, fn0_3, fn1_3, fn2_3]
  have fn2_4 : w4.cell? ⟨w.heap.size + 1 + 1 + 1, 2, none⟩ = some (.string { data := #[] }) := by rw [hb.cell (p := ⟨w.heap.size + 1 + 1 + 1, 2, none⟩) (by first | omega | (simp <;> omega))]; simp [go_sem, fn0_3, fn1_3, fn2_3]
  have gz_4 : ∀ o, w4.frozen? ⟨w.heap.size, o, none⟩ = false := fun o => by rw [hb.frozen (p := ⟨w.heap.size, o, none⟩) (by first | omega | (simp <;> omega))]; simp [go_sem, gz_3]
  have gr_4 : ∀ o, w4.frozen? ⟨w.heap.size + 1, o, none⟩ = false := fun o => by rw [hb.frozen (p := ⟨w.heap.size + 1, o, none⟩) (by first | omega | (simp <;> omega))]; simp [go_sem, gr_3]
  have gq_4 : ∀ o, w4.frozen? ⟨w.heap.size + 1 + 1, o, none⟩ = false := fun o => by rw [hb.frozen (p := ⟨w.heap.size + 1 + 1, o, none⟩) (by first | omega | (simp <;> omega))]; simp [go_sem, gq_3]
  have gn_4 : ∀ o, w4.frozen? ⟨w.heap.size + 1 + 1 + 1, o, none⟩ = false := fun o => by rw [hb.frozen (p := ⟨w.heap.size + 1 + 1 + 1, o, none⟩) (by first | omega | (simp <;> omega))]; simp [go_sem, gn_3]
  clear fz0_3 fz1_3 fz2_3 fz3_3 fz4_3 fz5_3 fr0_3 fr1_3 fr2_3 fr3_3 fr4_3 fr5_3 fq0_3 fq1_3 fq2_3 fn0_3 fn1_3 fn2_3 gz_3 gr_3 gq_3 gn_3
  clear hb
  go_wp2_with fail
  refine (HS3.out _ (HR.out.below (HB4.out))).mono ?_
  rintro e w5 ⟨rfl, hb⟩
  have hz5 : w.heap.size + 3 < w5.heap.size := by have := hb.size; (try simp at this); omega
  have HB5 : Hid (Below w.heap.size w w5) := (HB4.out).trans (hb.mono (by first | omega | (simp <;> omega)))
  have fz0_5 : w5.cell? ⟨w.heap.size, 0, none⟩ = some (.slice (some ⟨g, 0, none⟩) m c) := by rw [hb.cell (p := ⟨w.heap.size, 0, none⟩) (by first | omega | (simp <;> omega))]; simp [go_sem, fz0_4, fz1_4, fz2_4, fz3_4, fz4_4, fz5_4]
  have fz1_5 : w5.cell? ⟨w.heap.size, 1, none⟩ = some (.int .i64 (i1 : Int)) := by rw [hb.cell (p := ⟨w.heap.size, 1, none⟩) (by first | omega | (simp <;> omega))]; simp [go_sem, fz0_4, fz1_4, fz2_4, fz3_4, fz4_4, fz5_4]
  have fz2_5 : w5.cell? ⟨w.heap.size, 2, none⟩ = some (.int .i64 (nd : Int)) := by rw [hb.cell (p := ⟨w.heap.size, 2, none⟩) (by first | omega | (simp <;> omega))]; simp [go_sem, fz0_4, fz1_4, fz2_4, fz3_4, fz4_4, fz5_4]
  have fz3_5 : w5.cell? ⟨w.heap.size, 3, none⟩ = some (.int .i64 0) := by rw [hb.cell (p := ⟨w.heap.size, 3, none⟩) (by first | omega | (simp <;> omega))]; simp [go_sem, fz0_4, fz1_4, fz2_4, fz3_4, fz4_4, fz5_4]
  have fz4_5 : w5.cell? ⟨w.heap.size, 4, none⟩ = some (.int .i64 at_) := by rw [hb.cell (p := ⟨w.heap.size, 4, none⟩) (by first | omega | (simp <;> omega))]; simp [go_sem, fz0_4, fz1_4, fz2_4, fz3_4, fz4_4, fz5_4]
  have fz5_5 : w5.cell? ⟨w.heap.size, 5, none⟩ = some (.string S) := by rw [hb.cell (p := ⟨w.heap.size, 5, none⟩) (by first | omega | (simp <;> omega))]; simp [go_sem, fz0_4, fz1_4, fz2_4, fz3_4, fz4_4, fz5_4]
  have fr0_5 : w5.cell? ⟨w.heap.size + 1, 0, none⟩ = some (.slice none 0 0) := by rw [hb.cell (p := ⟨w.heap.size + 1, 0, none⟩) (by first | omega | (simp <;> omega))]; simp [go_sem, fr0_4, fr1_4, fr2_4, fr3_4, fr4_4, fr5_4]
  have fr1_5 : w5.cell? ⟨w.heap.size + 1, 1, none⟩ = some (.int .i64 0) := by rw [hb.cell (p := ⟨w.heap.size + 1, 1, none⟩) (by first | omega | (simp <;> omega))]; simp [go_sem, fr0_4, fr1_4, fr2_4, fr3_4, fr4_4, fr5_4]
  have fr2_5 : w5.cell? ⟨w.heap.size + 1, 2, none⟩ = some (.int .i64 0) := by rw [hb.cell (p := ⟨w.heap.size + 1, 2, none⟩) (by first | omega | (simp <;> omega))]; simp [go_sem, fr0_4, fr1_4, fr2_4, fr3_4, fr4_4, fr5_4]
  have fr3_5 : w5.cell? ⟨w.heap.size + 1, 3, none⟩ = some (.int .i64 0) := by rw [hb.cell (p := ⟨w.heap.size + 1, 3, none⟩) (by first | omega | (simp <;> omega))]; simp [go_sem, fr0_4, fr1_4, fr2_4, fr3_4, fr4_4, fr5_4]
  have fr4_5 : w5.cell? ⟨w.heap.size + 1, 4, none⟩ = some (.int .i64 0) := by rw [hb.cell (p := ⟨w.heap.size + 1, 4, none⟩) (by first | omega | (simp <;> omega))]; simp [go_sem, fr0_4, fr1_4, fr2_4, fr3_4, fr4_4, fr5_4]
  have fr5_5 : w5.cell? ⟨w.heap.size + 1, 5, none⟩ = some (.string { data := #[] }) := by rw [hb.cell (p := ⟨w.heap.size + 1, 5, none⟩) (by first | omega | (simp <;> omega))]; simp [go_sem, fr0_4, fr1_4, fr2_4, fr3_4, fr4_4, fr5_4]
  have fq0_5 : w5.cell? ⟨w.heap.size + 1 + 1, 0, none⟩ = some (.int .i64 0) := by rw [hb.cell (p := ⟨w.heap.size + 1 + 1, 0, none⟩) (by first | omega | (simp <;> omega))]; simp [go_sem, fq0_4, fq1_4, fq2_4]
  have fq1_5 : w5.cell? ⟨w.heap.size + 1 + 1, 1, none⟩ = some (.string { data := #[] }) := by rw [hb.cell (p := ⟨w.heap.size + 1 + 1, 1, none⟩) (by first | omega | (simp <;> omega))]; simp [go_sem, fq0_4, fq1_4, fq2_4]
  have fq2_5 : w5.cell? ⟨w.heap.size + 1 + 1, 2, none⟩ = some (.string { data := #[] }) := by rw [hb.cell (p := ⟨w.heap.size + 1 + 1, 2, none⟩) (by first | omega | (simp <;> omega))]; simp [go_sem, fq0_4, fq1_4, fq2_4]
  have fn0_5 : w5.cell? ⟨w.heap.size + 1 + 1 + 1, 0, none⟩ = some (.int .i64 3) := by rw [hb.cell (p := ⟨w.heap.size + 1 + 1 + 1, 0, none⟩) (by first | omega | (simp <;> omega))]; simp [go_sem, fn0_4, fn1_4, fn2_4]
  have fn1_5 : w5.cell? ⟨w.heap.size + 1 + 1 + 1, 1, none⟩ = some (.string { data := #[] }) := by rw [hb.cell (p := ⟨w.heap.size + 1 + 1 + 1, 1, none⟩) (by first | omega | (simp <;> omega))]; simp [go_sem, fn0_4, fn1_4, fn2_4]
  have fn2_5 : w5.cell? ⟨w.heap.size + 1 + 1 + 1, 2, none⟩ = some (.string { data := #[] }) := by rw [hb.cell (p := ⟨w.heap.size + 1 + 1 + 1, 2, none⟩) (by first | omega | (simp <;> omega))]; simp [go_sem, fn0_4, fn1_4, fn2_4]
  have gz_5 : ∀ o, w5.frozen? ⟨w.heap.size, o, none⟩ = false := fun o => by rw [hb.frozen (p := ⟨w.heap.size, o, none⟩) (by first | omega | (simp <;> omega))]; simp [go_sem, gz_4]
  have gr_5 : ∀ o, w5.frozen? ⟨w.heap.size + 1, o, none⟩ = false := fun o => by rw [hb.frozen (p := ⟨w.heap.size + 1, o, none⟩) (by first | omega | (simp <;> omega))]; simp [go_sem, gr_4]
  have gq_5 : ∀ o, w5.frozen? ⟨w.heap.size + 1 + 1, o, none⟩ = false := fun o => by rw [hb.frozen (p := ⟨w.heap.size + 1 + 1, o, none⟩) (by first | omega | (simp <;> omega))]; simp [go_sem, gq_4]
  have gn_5 : ∀ o, w5.frozen? ⟨w.heap.size + 1 + 1 + 1, o, none⟩ = false := fun o => by rw [hb.frozen (p := ⟨w.heap.size + 1 + 1 + 1, o, none⟩) (by first | omega | (simp <;> omega))]; simp [go_sem, gn_4]
  clear fz0_4 fz1_4 fz2_4 fz3_4 fz4_4 fz5_4 fr0_4 fr1_4 fr2_4 fr3_4 fr4_4 fr5_4 fq0_4 fq1_4 fq2_4 fn0_4 fn1_4 fn2_4 gz_4 gr_4 gq_4 gn_4
  clear hb
  go_wp2_with fail
  refine (HS4.out _ (HR.out.below (HB5.out))).mono ?_
  rintro e w6 ⟨rfl, hb⟩
  have hz6 : w.heap.size + 3 < w6.heap.size := by have := hb.size; (try simp at this); omega
  have HB6 : Hid (Below w.heap.size w w6) := (HB5.out).trans (hb.mono (by first | omega | (simp <;> omega)))
  have fz0_6 : w6.cell? ⟨w.heap.size, 0, none⟩ = some (.slice (some ⟨g, 0, none⟩) m c) := by rw [hb.cell (p := ⟨w.heap.size, 0, none⟩) (by first | omega | (simp <;> omega))]; simp [go_sem, fz0_5, fz1_5, fz2_5, fz3_5, fz4_5, fz5_5]
  have fz1_6 : w6.cell? ⟨w.heap.size, 1, none⟩ = some (.int .i64 (i1 : Int)) := by rw [hb.cell (p := ⟨w.heap.size, 1, none⟩) (by first | omega | (simp <;> omega))]; simp [go_sem, fz0_5, fz1_5, fz2_5, fz3_5, fz4_5, fz5_5]
  have fz2_6 : w6.cell? ⟨w.heap.size, 2, none⟩ = some (.int .i64 (nd : Int)) := by rw [hb.cell (p := ⟨w.heap.size, 2, none⟩) (by first | omega | (simp <;> omega))]; simp [go_sem, fz0_5, fz1_5, fz2_5, fz3_5, fz4_5, fz5_5]
  have fz3_6 : w6.cell? ⟨w.heap.size, 3, none⟩ = some (.int .i64 0) := by rw [hb.cell (p := ⟨w.heap.size, 3, none⟩) (by first | omega | (simp <;> omega))]; simp [go_sem, fz0_5, fz1_5, fz2_5, fz3_5, fz4_5, fz5_5]
  have fz4_6 : w6.cell? ⟨w.heap.size, 4, none⟩ = some (.int .i64 at_) := by rw [hb.cell (p := ⟨w.heap.size, 4, none⟩) (by first | omega | (simp <;> omega))]; simp [go_sem, fz0_5, fz1_5, fz2_5, fz3_5, fz4_5, fz5_5]
  have fz5_6 : w6.cell? ⟨w.heap.size, 5, none⟩ = some (.string S) := by rw [hb.cell (p := ⟨w.heap.size, 5, none⟩) (by first | omega | (simp <;> omega))]; simp [go_sem, fz0_5, fz1_5, fz2_5, fz3_5, fz4_5, fz5_5]
  have fr0_6 : w6.cell? ⟨w.heap.size + 1, 0, none⟩ = some (.slice none 0 0) := by rw [hb.cell (p := ⟨w.heap.size + 1, 0, none⟩) (by first | omega | (simp <;> omega))]; simp [go_sem, fr0_5, fr1_5, fr2_5, fr3_5, fr4_5, fr5_5]
  have fr1_6 : w6.cell? ⟨w.heap.size + 1, 1, none⟩ = some (.int .i64 0) := by rw [hb.cell (p := ⟨w.heap.size + 1, 1, none⟩) (by first | omega | (simp <;> omega))]; simp [go_sem, fr0_5, fr1_5, fr2_5, fr3_5, fr4_5, fr5_5]
  have fr2_6 : w6.cell? ⟨w.heap.size + 1, 2, none⟩ = some (.int .i64 0) := by rw [hb.cell (p := ⟨w.heap.size + 1, 2, none⟩) (by first | omega | (simp <;> omega))]; simp [go_sem, fr0_5, fr1_5, fr2_5, fr3_5, fr4_5, fr5_5]
  have fr3_6 : w6.cell? ⟨w.heap.size + 1, 3, none⟩ = some (.int .i64 0) := by rw [hb.cell (p := ⟨w.heap.size + 1, 3, none⟩) (by first | omega | (simp <;> omega))]; simp [go_sem, fr0_5, fr1_5, fr2_5, fr3_5, fr4_5, fr5_5]
  have fr4_6 : w6.cell? ⟨w.heap.size + 1, 4, none⟩ = some (.int .i64 0) := by rw [hb.cell (p := ⟨w.heap.size + 1, 4, none⟩) (by first | omega | (simp <;> omega))]; simp [go_sem, fr0_5, fr1_5, fr2_5, fr3_5, fr4_5, fr5_5]
  have fr5_6 : w6.cell? ⟨w.heap.size + 1, 5, none⟩ = some (.string { data := #[] }) := by rw [hb.cell (p := ⟨w.heap.size + 1, 5, none⟩) (by first | omega | (simp <;> omega))]; simp [go_sem, fr0_5, fr1_5, fr2_5, fr3_5, fr4_5, fr5_5]
  have fq0_6 : w6.cell? ⟨w.heap.size + 1 + 1, 0, none⟩ = some (.int .i64 0) := by rw [hb.cell (p := ⟨w.heap.size + 1 + 1, 0, none⟩) (by first | omega | (simp <;> omega))]; simp [go_sem, fq0_5, fq1_5, fq2_5]
  have fq1_6 : w6.cell? ⟨w.heap.size + 1 + 1, 1, none⟩ = some (.string { data := #[] }) := by rw [hb.cell (p := ⟨w.heap.size + 1 + 1, 1, none⟩) (by first | omega | (simp <;> omega))]; simp [go_sem, fq0_5, fq1_5, fq2_5]
  have fq2_6 : w6.cell? ⟨w.heap.size + 1 + 1, 2, none⟩ = some (.string { data := #[] }) := by rw [hb.cell (p := ⟨w.heap.size + 1 + 1, 2, none⟩) (by first | omega | (simp <;> omega))]; simp [go_sem, fq0_5, fq1_5, fq2_5]
  have fn0_6 : w6.cell? ⟨w.heap.size + 1 + 1 + 1, 0, none⟩ = some (.int .i64 3) := by rw [hb.cell (p := ⟨w.heap.size + 1 + 1 + 1, 0, none⟩) (by first | omega | (simp <;> omega))]; simp [go_sem, fn0_5, fn1_5, fn2_5]
  have fn1_6 : w6.cell? ⟨w.heap.size + 1 + 1 + 1, 1, none⟩ = some (.string { data := #[] }) := by rw [hb.cell (p := ⟨w.heap.size + 1 + 1 + 1, 1, none⟩) (by first | omega | (simp <;> omega))]; simp [go_sem, fn0_5, fn1_5, fn2_5]
  have fn2_6 : w6.cell? ⟨w.heap.size + 1 + 1 + 1, 2, none⟩ = some (.string { data := #[] }) := by rw [hb.cell (p := ⟨w.heap.size + 1 + 1 + 1, 2, none⟩) (by first | omega | (simp <;> omega))]; simp [go_sem, fn0_5, fn1_5, fn2_5]
  have gz_6 : ∀ o, w6.frozen? ⟨w.heap.size, o, none⟩ = false := fun o => by rw [hb.frozen (p := ⟨w.heap.size, o, none⟩) (by first | omega | (simp <;> omega))]; simp [go_sem, gz_5]
  have gr_6 : ∀ o, w6.frozen? ⟨w.heap.size + 1, o, none⟩ = false := fun o => by rw [hb.frozen (p := ⟨w.heap.size + 1, o, none⟩) (by first | omega | (simp <;> omega))]; simp [go_sem, gr_5]
  have gq_6 : ∀ o, w6.frozen? ⟨w.heap.size + 1 + 1, o, none⟩ = false := fun o => by rw [hb.frozen (p := ⟨w.heap.size + 1 + 1, o, none⟩) (by first | omega | (simp <;> omega))]; simp [go_sem, gq_5]
  have gn_6 : ∀ o, w6.frozen? ⟨w.heap.size + 1 + 1 + 1, o, none⟩ = false := fun o => by rw [hb.frozen (p := ⟨w.heap.size + 1 + 1 + 1, o, none⟩) (by first | omega | (simp <;> omega))]; simp [go_sem, gn_5]
  clear fz0_5 fz1_5 fz2_5 fz3_5 fz4_5 fz5_5 fr0_5 fr1_5 fr2_5 fr3_5 fr4_5 fr5_5 fq0_5 fq1_5 fq2_5 fn0_5 fn1_5 fn2_5 gz_5 gr_5 gq_5 gn_5
  clear hb
  go_wp2_with fail
  refine wp_region_lateS (S := SLast w (.slice (some ⟨g, 0, none⟩) m c) (.int .i64 (i4 : Int)) (.int .i64 (nd4 : Int)) (.int .i64 er4) (.int .i64 at4) (.string S4) (.int .i64 3) (.string S4) (.string { data := #[] })) 4 (by kernel_rfl) ?_ (fun W hHeld => ?_)
  · refine ⟨Cs.six ?_ ?_ ?_ ?_ ?_ ?_ ?_, ⟨_, _, _, _, _, _, Cs.six (v0 := .slice none 0 0) (v1 := .int .i64 0) (v2 := .int .i64 0) (v3 := .int .i64 0) (v4 := .int .i64 0) (v5 := .string { data := #[] }) ?_ ?_ ?_ ?_ ?_ ?_ ?_⟩, ⟨_, _, _, Cs.three (v0 := .int .i64 0) (v1 := .string { data := #[] }) (v2 := .string { data := #[] }) ?_ ?_ ?_ ?_⟩, Cs.three ?_ ?_ ?_ ?_, ?_, ?_⟩
    · simp [go_sem, fz0_6, fz1_6, fz2_6, fz3_6, fz4_6, fz5_6, fr0_6, fr1_6, fr2_6, fr3_6, fr4_6, fr5_6, fq0_6, fq1_6, fq2_6, fn0_6, fn1_6, fn2_6, gz_6, gr_6, gq_6, gn_6]
    · simp [go_sem, fz0_6, fz1_6, fz2_6, fz3_6, fz4_6, fz5_6, fr0_6, fr1_6, fr2_6, fr3_6, fr4_6, fr5_6, fq0_6, fq1_6, fq2_6, fn0_6, fn1_6, fn2_6, gz_6, gr_6, gq_6, gn_6]
    · simp [go_sem, fz0_6, fz1_6, fz2_6, fz3_6, fz4_6, fz5_6, fr0_6, fr1_6, fr2_6, fr3_6, fr4_6, fr5_6, fq0_6, fq1_6, fq2_6, fn0_6, fn1_6, fn2_6, gz_6, gr_6, gq_6, gn_6]
    · simp [go_sem, fz0_6, fz1_6, fz2_6, fz3_6, fz4_6, fz5_6, fr0_6, fr1_6, fr2_6, fr3_6, fr4_6, fr5_6, fq0_6, fq1_6, fq2_6, fn0_6, fn1_6, fn2_6, gz_6, gr_6, gq_6, gn_6]
    · simp [go_sem, fz0_6, fz1_6, fz2_6, fz3_6, fz4_6, fz5_6, fr0_6, fr1_6, fr2_6, fr3_6, fr4_6, fr5_6, fq0_6, fq1_6, fq2_6, fn0_6, fn1_6, fn2_6, gz_6, gr_6, gq_6, gn_6]
    · simp [go_sem, fz0_6, fz1_6, fz2_6, fz3_6, fz4_6, fz5_6, fr0_6, fr1_6, fr2_6, fr3_6, fr4_6, fr5_6, fq0_6, fq1_6, fq2_6, fn0_6, fn1_6, fn2_6, gz_6, gr_6, gq_6, gn_6]
    · intro o; simp [go_sem, fz0_6, fz1_6, fz2_6, fz3_6, fz4_6, fz5_6, fr0_6, fr1_6, fr2_6, fr3_6, fr4_6, fr5_6, fq0_6, fq1_6, fq2_6, fn0_6, fn1_6, fn2_6, gz_6, gr_6, gq_6, gn_6]
    · simp [go_sem, fz0_6, fz1_6, fz2_6, fz3_6, fz4_6, fz5_6, fr0_6, fr1_6, fr2_6, fr3_6, fr4_6, fr5_6, fq0_6, fq1_6, fq2_6, fn0_6, fn1_6, fn2_6, gz_6, gr_6, gq_6, gn_6]
    · simp [go_sem, fz0_6, fz1_6, fz2_6, fz3_6, fz4_6, fz5_6, fr0_6, fr1_6, fr2_6, fr3_6, fr4_6, fr5_6, fq0_6, fq1_6, fq2_6, fn0_6, fn1_6, fn2_6, gz_6, gr_6, gq_6, gn_6]
    · simp [go_sem, fz0_6, fz1_6, fz2_6, fz3_6, fz4_6, fz5_6, fr0_6, fr1_6, fr2_6, fr3_6, fr4_6, fr5_6, fq0_6, fq1_6, fq2_6, fn0_6, fn1_6, fn2_6, gz_6, gr_6, gq_6, gn_6]
    · simp [go_sem, fz0_6, fz1_6, fz2_6, fz3_6, fz4_6, fz5_6, fr0_6, fr1_6, fr2_6, fr3_6, fr4_6, fr5_6, fq0_6, fq1_6, fq2_6, fn0_6, fn1_6, fn2_6, gz_6, gr_6, gq_6, gn_6]
    · simp [go_sem, fz0_6, fz1_6, fz2_6, fz3_6, fz4_6, fz5_6, fr0_6, fr1_6, fr2_6, fr3_6, fr4_6, fr5_6, fq0_6, fq1_6, fq2_6, fn0_6, fn1_6, fn2_6, gz_6, gr_6, gq_6, gn_6]
    · simp [go_sem, fz0_6, fz1_6, fz2_6, fz3_6, fz4_6, fz5_6, fr0_6, fr1_6, fr2_6, fr3_6, fr4_6, fr5_6, fq0_6, fq1_6, fq2_6, fn0_6, fn1_6, fn2_6, gz_6, gr_6, gq_6, gn_6]
    · intro o; simp [go_sem, fz0_6, fz1_6, fz2_6, fz3_6, fz4_6, fz5_6, fr0_6, fr1_6, fr2_6, fr3_6, fr4_6, fr5_6, fq0_6, fq1_6, fq2_6, fn0_6, fn1_6, fn2_6, gz_6, gr_6, gq_6, gn_6]
    · simp [go_sem, fz0_6, fz1_6, fz2_6, fz3_6, fz4_6, fz5_6, fr0_6, fr1_6, fr2_6, fr3_6, fr4_6, fr5_6, fq0_6, fq1_6, fq2_6, fn0_6, fn1_6, fn2_6, gz_6, gr_6, gq_6, gn_6]
    · simp [go_sem, fz0_6, fz1_6, fz2_6, fz3_6, fz4_6, fz5_6, fr0_6, fr1_6, fr2_6, fr3_6, fr4_6, fr5_6, fq0_6, fq1_6, fq2_6, fn0_6, fn1_6, fn2_6, gz_6, gr_6, gq_6, gn_6]
    · simp [go_sem, fz0_6, fz1_6, fz2_6, fz3_6, fz4_6, fz5_6, fr0_6, fr1_6, fr2_6, fr3_6, fr4_6, fr5_6, fq0_6, fq1_6, fq2_6, fn0_6, fn1_6, fn2_6, gz_6, gr_6, gq_6, gn_6]
    · intro o; simp [go_sem, fz0_6, fz1_6, fz2_6, fz3_6, fz4_6, fz5_6, fr0_6, fr1_6, fr2_6, fr3_6, fr4_6, fr5_6, fq0_6, fq1_6, fq2_6, fn0_6, fn1_6, fn2_6, gz_6, gr_6, gq_6, gn_6]
    · simp [go_sem, fz0_6, fz1_6, fz2_6, fz3_6, fz4_6, fz5_6, fr0_6, fr1_6, fr2_6, fr3_6, fr4_6, fr5_6, fq0_6, fq1_6, fq2_6, fn0_6, fn1_6, fn2_6, gz_6, gr_6, gq_6, gn_6]
    · simp [go_sem, fz0_6, fz1_6, fz2_6, fz3_6, fz4_6, fz5_6, fr0_6, fr1_6, fr2_6, fr3_6, fr4_6, fr5_6, fq0_6, fq1_6, fq2_6, fn0_6, fn1_6, fn2_6, gz_6, gr_6, gq_6, gn_6]
    · simp [go_sem, fz0_6, fz1_6, fz2_6, fz3_6, fz4_6, fz5_6, fr0_6, fr1_6, fr2_6, fr3_6, fr4_6, fr5_6, fq0_6, fq1_6, fq2_6, fn0_6, fn1_6, fn2_6, gz_6, gr_6, gq_6, gn_6]
    · intro o; simp [go_sem, fz0_6, fz1_6, fz2_6, fz3_6, fz4_6, fz5_6, fr0_6, fr1_6, fr2_6, fr3_6, fr4_6, fr5_6, fq0_6, fq1_6, fq2_6, fn0_6, fn1_6, fn2_6, gz_6, gr_6, gq_6, gn_6]
    · exact ((((((((HB6.out).setCell (by first | omega | (simp <;> omega)) _).setCell (by first | omega | (simp <;> omega)) _).setCell (by first | omega | (simp <;> omega)) _).setCell (by first | omega | (simp <;> omega)) _).setCell (by first | omega | (simp <;> omega)) _).setCell (by first | omega | (simp <;> omega)) _).setCell (by first | omega | (simp <;> omega)) _).drew
    · simp; omega
  clear fz0_6 fz1_6 fz2_6 fz3_6 fz4_6 fz5_6 fr0_6 fr1_6 fr2_6 fr3_6 fr4_6 fr5_6 fq0_6 fq1_6 fq2_6 fn0_6 fn1_6 fn2_6 gz_6 gr_6 gq_6 gn_6 hz6
  refine tk 0 .zero (v := .agg #[.slice (some ⟨g, 0, none⟩) m c, .int .i64 (i4 : Int), .int .i64 (nd4 : Int), .int .i64 er4, .int .i64 at4, .string S4]) ?_ ?_
  · intro w' h
    have a0 := h.1.1 0 _ rfl
    have a1 := h.1.1 1 _ rfl
    have a2 := h.1.1 2 _ rfl
    have a3 := h.1.1 3 _ rfl
    have a4 := h.1.1 4 _ rfl
    have a5 := h.1.1 5 _ rfl
    clear h
    go_simp
  simp only [tkp]
  refine tk 2 (.succ (.succ .zero)) (v := .agg #[.int .i64 3, .string S4, .string { data := #[] }]) ?_ ?_
  · intro w' h
    have a0 := h.2.2.2.1.1 0 _ rfl
    have a1 := h.2.2.2.1.1 1 _ rfl
    have a2 := h.2.2.2.1.1 2 _ rfl
    clear h
    go_simp
  simp only [tkp]
  refine tk1 1 (.succ .zero) (fun K hK => ?_)
  refine stepTc (by rfl) 103 43 (.string { data := #[41] }) _ (by rfl) (.agg #[.slice (some ⟨g, 0, none⟩) m c, .int .i64 (i4 : Int), .int .i64 (nd4 : Int), .int .i64 er4, .int .i64 at4, .string S4]) (by rfl) (fun _ _ => by rfl) ?_
  refine (HS7.out W (HR.out.below hHeld.2.2.2.2.1)).mono ?_
  rintro e W2 ⟨rfl, hb⟩
  refine ⟨_, rfl, hK.out _ _ (fun _ => hHeld.below hb) (fun hG => ?_)⟩
  clear hK K hHeld hb
  have hHeld := hG (by decide)
  clear hG W
  obtain ⟨hZ, ⟨v0, v1, v2, v3, v4, v5, hr⟩, ⟨u0, u1, u2, hq⟩, hn, hbel, hsz⟩ := hHeld
  have r0 := hr.1 0 _ rfl
  have r1 := hr.1 1 _ rfl
  have r2 := hr.1 2 _ rfl
  have r3 := hr.1 3 _ rfl
  have r4 := hr.1 4 _ rfl
  have r5 := hr.1 5 _ rfl
  have q0 := hq.1 0 _ rfl
  have q1 := hq.1 1 _ rfl
  have q2 := hq.1 2 _ rfl
  have rf := hr.2
  have qf := hq.2
  have HZ : Hid (Cs W2 w.heap.size [.slice (some ⟨g, 0, none⟩) m c, .int .i64 (i4 : Int), .int .i64 (nd4 : Int), .int .i64 er4, .int .i64 at4, .string S4] ∧ Cs W2 (w.heap.size + 1 + 1 + 1) [.int .i64 3, .string S4, .string { data := #[] }] ∧ Below w.heap.size w W2) := ⟨hZ, hn, hbel⟩
  clear hr hq hZ hn hbel
  simp only [tkp]
  refine tk1 3 (.succ (.succ (.succ .zero))) (fun K hK => ?_)
  skip
  go_simp
  refine hK.out _ _ (fun _ => ?_) (fun hG => ?_)
  · refine ⟨⟨fun o u hu => ?_, fun o => ?_⟩, ⟨_, _, _, _, _, _, Cs.six (v0 := .slice (some ⟨g, 0, none⟩) m c) (v1 := .int .i64 (i7 : Int)) (v2 := .int .i64 (nd7 : Int)) (v3 := .int .i64 er7) (v4 := .int .i64 at7) (v5 := .string (strT got7)) ?_ ?_ ?_ ?_ ?_ ?_ ?_⟩, ⟨u0, u1, u2, Cs.three ?_ ?_ ?_ ?_⟩, ⟨fun o u hu => ?_, fun o => ?_⟩, ?_, ?_⟩
    · have := HZ.out.1.1 o u hu
      simpa [go_sem] using this
    · have := HZ.out.1.2 o
      simpa [go_sem] using this
    · simp [go_sem, r0, r1, r2, r3, r4, r5]
    · simp [go_sem, r0, r1, r2, r3, r4, r5]
    · simp [go_sem, r0, r1, r2, r3, r4, r5]
    · simp [go_sem, r0, r1, r2, r3, r4, r5]
    · simp [go_sem, r0, r1, r2, r3, r4, r5]
    · simp [go_sem, r0, r1, r2, r3, r4, r5]
    · intro o; simp [go_sem, rf]
    · simp [go_sem, q0, q1, q2]
    · simp [go_sem, q0, q1, q2]
    · simp [go_sem, q0, q1, q2]
    · intro o; simp [go_sem, qf]
    · have := HZ.out.2.1.1 o u hu
      simpa [go_sem] using this
    · have := HZ.out.2.1.2 o
      simpa [go_sem] using this
    · exact ((((((HZ.out.2.2).setCell (by first | omega | (simp <;> omega)) _).setCell (by first | omega | (simp <;> omega)) _).setCell (by first | omega | (simp <;> omega)) _).setCell (by first | omega | (simp <;> omega)) _).setCell (by first | omega | (simp <;> omega)) _).setCell (by first | omega | (simp <;> omega)) _
    · simp; omega
  clear hK K hG
  try simp only [tkp]
  refine tk1 4 (.succ (.succ (.succ (.succ .zero)))) (fun K hK => ?_)
  go_simp
  refine hK.out _ _ (fun hne => absurd rfl hne) (fun hG => ?_)
  clear hK K hG
  refine wpLate_done (by kernel_rfl) ?_ _
  go_wp2
  refine bodyPost_ret (v := .tuple #[.agg #[.slice (some ⟨g, 0, none⟩) m c, .int .i64 (i7 : Int), .int .i64 (nd7 : Int), .int .i64 er7, .int .i64 at7, .string (strT got7)], .agg #[.int .i64 3, .string S4, .string { data := #[] }]]) (by simp [results, Try.results106, go_sem, r0, r1, r2, r3, r4, r5, q0, q1, q2]) rfl ⟨?_, ?_⟩
  · rw [HE.out]
    rw [HV4.out.2]; rfl
  · exact (((((((((HZ.out.2.2).setCell (by first | omega | (simp <;> omega)) _).setCell (by first | omega | (simp <;> omega)) _).setCell (by first | omega | (simp <;> omega)) _).setCell (by first | omega | (simp <;> omega)) _).setCell (by first | omega | (simp <;> omega)) _).setCell (by first | omega | (simp <;> omega)) _).setCell (by first | omega | (simp <;> omega)) _).setCell (by first | omega | (simp <;> omega)) _).setCell (by first | omega | (simp <;> omega)) _

set_option maxHeartbeats 4000000 in
theorem l6Step_none {T : Nat → Tok} {A : Nat → Nat} (hT : ∀ i, (T i).c ≤ 15) (g m c : Nat) (p : Pr) (w : World) (hR : RdK w g m T A) (hl : LastK T m) (h0 : p.er = 0) (hi : p.i + 1 < m) (hm : m ≤ 3000) (hnd : p.nd ≤ 100) (hk : (T (p.i + 1)).c ≠ 3 ∧ (T (p.i + 1)).c ≠ 4 ∧ (T (p.i + 1)).c ≠ 5) :
    Calls Try.prog 106 #[prV g m c p] w fun r w' => r = .returned (.tuple #[prV g m c (stepP T A p).1, ndV (stepP T A p).2]) ∧ Below w.heap.size w w' := by
  obtain ⟨er, at_, i, nd, got⟩ := p
  obtain rfl : er = 0 := h0
  have hi2 : i + 1 < m := hi
  obtain ⟨i1, hi1⟩ : ∃ i1, i1 = i + 1 := ⟨_, rfl⟩
  have hk' : (T i1).c ≠ 3 ∧ (T i1).c ≠ 4 ∧ (T i1).c ≠ 5 := by rw [hi1]; exact hk
  obtain ⟨p1, hp1⟩ : ∃ p1 : Pr, p1 = ⟨0, at_, i1, nd, got⟩ := ⟨_, rfl⟩
  have hi' : p1.i < m := by rw [hp1]; show i1 < m; rw [hi1]; exact hi
  have hnd' : p1.nd ≤ 100 := by rw [hp1]; exact hnd
  have hkp : (T p1.i).c = (T i1).c := by rw [hp1]
  have HR : Hid (RdK w g m T A) := hR
  have HE : Hid (stepP T A ⟨0, at_, i, nd, got⟩ = (failP T A p1 3, ⟨3, [], []⟩)) := by
    show _ = _
    unfold stepP
    rw [show ({ (⟨0, at_, i, nd, got⟩ : Pr) with i := (⟨0, at_, i, nd, got⟩ : Pr).i + 1 } : Pr) = p1 by rw [hp1, hi1]]
    unfold stepQ stepK
    have n3 : ¬ (p1.er = 0 ∧ (T p1.i).c = 3) := fun e => by rw [hkp] at e; omega
    have n4 : ¬ (p1.er = 0 ∧ (T p1.i).c = 4) := fun e => by rw [hkp] at e; omega
    have n5 : ¬ (p1.er = 0 ∧ (T p1.i).c = 5) := fun e => by rw [hkp] at e; omega
    rw [if_neg n4, if_neg n5, if_pos ⟨rfl, n3⟩]
  have PV : ∀ S, S = strT got → prV g m c p1 = .agg #[.slice (some ⟨g, 0, none⟩) m c, .int .i64 (i1 : Int), .int .i64 (nd : Int), .int .i64 0, .int .i64 at_, .string S] := fun S hS => by rw [hp1, hS]; rfl
  obtain ⟨S, hS⟩ : ∃ S, S = strT got := ⟨_, rfl⟩
  have PV := PV S hS
  have HI4 : Hid (∀ W, RdK W g m T A → Calls Try.prog 101 #[.agg #[.slice (some ⟨g, 0, none⟩) m c, .int .i64 (i1 : Int), .int .i64 (nd : Int), .int .i64 0, .int .i64 at_, .string S], .int .i64 1, .string { data := #[105, 110] }] W fun r w' => r = .returned (.bool false) ∧ Below W.heap.size W w') := fun W hW => by
    rw [← PV]
    refine (l6Is_c hT 4 1 _ rfl rfl (by omega) (by omega) g m c p1 W hW hi' hm).mono ?_
    rintro e w' ⟨rfl, hb⟩
    exact ⟨by rw [show decide (p1.er = 0 ∧ (T p1.i).c = 4) = false from decide_eq_false (fun e => by rw [hkp] at e; omega)], hb⟩
  have HI5 : Hid (∀ W, RdK W g m T A → Calls Try.prog 101 #[.agg #[.slice (some ⟨g, 0, none⟩) m c, .int .i64 (i1 : Int), .int .i64 (nd : Int), .int .i64 0, .int .i64 at_, .string S], .int .i64 1, .string { data := #[104, 97, 115] }] W fun r w' => r = .returned (.bool false) ∧ Below W.heap.size W w') := fun W hW => by
    rw [← PV]
    refine (l6Is_c hT 5 1 _ rfl rfl (by omega) (by omega) g m c p1 W hW hi' hm).mono ?_
    rintro e w' ⟨rfl, hb⟩
    exact ⟨by rw [show decide (p1.er = 0 ∧ (T p1.i).c = 5) = false from decide_eq_false (fun e => by rw [hkp] at e; omega)], hb⟩
  have HI3 : Hid (∀ W, RdK W g m T A → Calls Try.prog 101 #[.agg #[.slice (some ⟨g, 0, none⟩) m c, .int .i64 (i1 : Int), .int .i64 (nd : Int), .int .i64 0, .int .i64 at_, .string S], .int .i64 1, .string { data := #[111, 117, 116] }] W fun r w' => r = .returned (.bool false) ∧ Below W.heap.size W w') := fun W hW => by
    rw [← PV]
    refine (l6Is_c hT 3 1 _ rfl rfl (by omega) (by omega) g m c p1 W hW hi' hm).mono ?_
    rintro e w' ⟨rfl, hb⟩
    exact ⟨by rw [show decide (p1.er = 0 ∧ (T p1.i).c = 3) = false from decide_eq_false (fun e => by rw [hkp] at e; omega)], hb⟩
  have HB0 : Hid (∀ o1 o2 o3 o4, Below w.heap.size w ((((w.alloc o1).alloc o2).alloc o3).alloc o4)) := fun o1 o2 o3 o4 => (((below_alloc _ _).alloc (by first | omega | (simp <;> omega)) _).alloc (by first | omega | (simp <;> omega)) _).alloc (by first | omega | (simp <;> omega)) _
  have HF : Hid (∀ W, RdK W g m T A → Calls Try.prog 105 #[.agg #[.slice (some ⟨g, 0, none⟩) m c, .int .i64 (i1 : Int), .int .i64 (nd : Int), .int .i64 0, .int .i64 at_, .string S], .int .i64 3] W fun r w' => r = .returned (prV g m c (failP T A p1 3)) ∧ Below W.heap.size W w') := fun W hW => by
    rw [← PV]
    exact l6Fail_any hT g m c p1 3 W hW hi' hm
  obtain ⟨p7, hp7⟩ : ∃ p7, p7 = failP T A p1 3 := ⟨_, rfl⟩
  rw [← hp7] at HF HE
  clear hp7
  obtain ⟨er7, at7, i7, nd7, got7⟩ := p7
  have HV7 : Hid (prV g m c ⟨er7, at7, i7, nd7, got7⟩ = .agg #[.slice (some ⟨g, 0, none⟩) m c, .int .i64 (i7 : Int), .int .i64 (nd7 : Int), .int .i64 er7, .int .i64 at7, .string (strT got7)]) := rfl
  rw [HV7.out] at HF
  have e2 : IntKind.i64.wrap ((i : Int) + 1) = (i1 : Int) := by rw [hi1, IntKind.wrap_i64]; omega
  show Calls Try.prog 106 #[.agg #[.slice (some ⟨g, 0, none⟩) m c, .int .i64 (i : Int), .int .i64 (nd : Int), .int .i64 0, .int .i64 at_, .string (strT got)]] w _
  rw [← hS]
  have HP : Hid (p1 = ⟨0, at_, i1, nd, got⟩) := hp1
  clear hS hR PV hp1 hk hk' hkp hi1 hi hnd
  go_enter Try.func106, Try.ntmps106
  go_wp2_with fail
  refine (HI4.out _ (HR.out.below (HB0.out _ _ _ _))).mono ?_
  rintro e w1 ⟨rfl, hb⟩
  have hz1 : w.heap.size + 3 < w1.heap.size := by have := hb.size; (try simp at this); omega
  have HB1 : Hid (Below w.heap.size w w1) := (HB0.out _ _ _ _).trans (hb.mono (by first | omega | (simp <;> omega)))
  have fz0_1 : w1.cell? ⟨w.heap.size, 0, none⟩ = some (.slice (some ⟨g, 0, none⟩) m c) := by rw [hb.cell (p := ⟨w.heap.size, 0, none⟩) (by first | omega | (simp <;> omega))]; simp [go_sem]
  have fz1_1 : w1.cell? ⟨w.heap.size, 1, none⟩ = some (.int .i64 (i1 : Int)) := by rw [hb.cell (p := ⟨w.heap.size, 1, none⟩) (by first | omega | (simp <;> omega))]; simp [go_sem]
  have fz2_1 : w1.cell? ⟨w.heap.size, 2, none⟩ = some (.int .i64 (nd : Int)) := by rw [hb.cell (p := ⟨w.heap.size, 2, none⟩) (by first | omega | (simp <;> omega))]; simp [go_sem]
  have fz3_1 : w1.cell? ⟨w.heap.size, 3, none⟩ = some (.int .i64 0) := by rw [hb.cell (p := ⟨w.heap.size, 3, none⟩) (by first | omega | (simp <;> omega))]; simp [go_sem]
  have fz4_1 : w1.cell? ⟨w.heap.size, 4, none⟩ = some (.int .i64 at_) := by rw [hb.cell (p := ⟨w.heap.size, 4, none⟩) (by first | omega | (simp <;> omega))]; simp [go_sem]
  have fz5_1 : w1.cell? ⟨w.heap.size, 5, none⟩ = some (.string S) := by rw [hb.cell (p := ⟨w.heap.size, 5, none⟩) (by first | omega | (simp <;> omega))]; simp [go_sem]
  have fr0_1 : w1.cell? ⟨w.heap.size + 1, 0, none⟩ = some (.slice none 0 0) := by rw [hb.cell (p := ⟨w.heap.size + 1, 0, none⟩) (by first | omega | (simp <;> omega))]; simp [go_sem]
  have fr1_1 : w1.cell? ⟨w.heap.size + 1, 1, none⟩ = some (.int .i64 0) := by rw [hb.cell (p := ⟨w.heap.size + 1, 1, none⟩) (by first | omega | (simp <;> omega))]; simp [go_sem]
  have fr2_1 : w1.cell? ⟨w.heap.size + 1, 2, none⟩ = some (.int .i64 0) := by rw [hb.cell (p := ⟨w.heap.size + 1, 2, none⟩) (by first | omega | (simp <;> omega))]; simp [go_sem]
  have fr3_1 : w1.cell? ⟨w.heap.size + 1, 3, none⟩ = some (.int .i64 0) := by rw [hb.cell (p := ⟨w.heap.size + 1, 3, none⟩) (by first | omega | (simp <;> omega))]; simp [go_sem]
  have fr4_1 : w1.cell? ⟨w.heap.size + 1, 4, none⟩ = some (.int .i64 0) := by rw [hb.cell (p := ⟨w.heap.size + 1, 4, none⟩) (by first | omega | (simp <;> omega))]; simp [go_sem]
  have fr5_1 : w1.cell? ⟨w.heap.size + 1, 5, none⟩ = some (.string { data := #[] }) := by rw [hb.cell (p := ⟨w.heap.size + 1, 5, none⟩) (by first | omega | (simp <;> omega))]; simp [go_sem]
  have fq0_1 : w1.cell? ⟨w.heap.size + 1 + 1, 0, none⟩ = some (.int .i64 0) := by rw [hb.cell (p := ⟨w.heap.size + 1 + 1, 0, none⟩) (by first | omega | (simp <;> omega))]; simp [go_sem]
  have fq1_1 : w1.cell? ⟨w.heap.size + 1 + 1, 1, none⟩ = some (.string { data := #[] }) := by rw [hb.cell (p := ⟨w.heap.size + 1 + 1, 1, none⟩) (by first | omega | (simp <;> omega))]; simp [go_sem]
  have fq2_1 : w1.cell? ⟨w.heap.size + 1 + 1, 2, none⟩ = some (.string { data := #[] }) := by rw [hb.cell (p := ⟨w.heap.size + 1 + 1, 2, none⟩) (by first | omega | (simp <;> omega))]; simp [go_sem]
  have fn0_1 : w1.cell? ⟨w.heap.size + 1 + 1 + 1, 0, none⟩ = some (.int .i64 3) := by rw [hb.cell (p := ⟨w.heap.size + 1 + 1 + 1, 0, none⟩) (by first | omega | (simp <;> omega))]; simp [go_sem]
  have fn1_1 : w1.cell? ⟨w.heap.size + 1 + 1 + 1, 1, none⟩ = some (.string { data := #[] }) := by rw [hb.cell (p := ⟨w.heap.size + 1 + 1 + 1, 1, none⟩) (by first | omega | (simp <;> omega))]; simp [go_sem]
  have fn2_1 : w1.cell? ⟨w.heap.size + 1 + 1 + 1, 2, none⟩ = some (.string { data := #[] }) := by rw [hb.cell (p := ⟨w.heap.size + 1 + 1 + 1, 2, none⟩) (by first | omega | (simp <;> omega))]; simp [go_sem]
  have gz_1 : ∀ o, w1.frozen? ⟨w.heap.size, o, none⟩ = false := fun o => by rw [hb.frozen (p := ⟨w.heap.size, o, none⟩) (by first | omega | (simp <;> omega))]; simp [go_sem]
  have gr_1 : ∀ o, w1.frozen? ⟨w.heap.size + 1, o, none⟩ = false := fun o => by rw [hb.frozen (p := ⟨w.heap.size + 1, o, none⟩) (by first | omega | (simp <;> omega))]; simp [go_sem]
  have gq_1 : ∀ o, w1.frozen? ⟨w.heap.size + 1 + 1, o, none⟩ = false := fun o => by rw [hb.frozen (p := ⟨w.heap.size + 1 + 1, o, none⟩) (by first | omega | (simp <;> omega))]; simp [go_sem]
  have gn_1 : ∀ o, w1.frozen? ⟨w.heap.size + 1 + 1 + 1, o, none⟩ = false := fun o => by rw [hb.frozen (p := ⟨w.heap.size + 1 + 1 + 1, o, none⟩) (by first | omega | (simp <;> omega))]; simp [go_sem]
  clear hb
  go_wp2_with fail
  refine (HI5.out _ (HR.out.below (HB1.out))).mono ?_
  rintro e w2 ⟨rfl, hb⟩
  have hz2 : w.heap.size + 3 < w2.heap.size := by have := hb.size; (try simp at this); omega
  have HB2 : Hid (Below w.heap.size w w2) := (HB1.out).trans (hb.mono (by first | omega | (simp <;> omega)))
  have fz0_2 : w2.cell? ⟨w.heap.size, 0, none⟩ = some (.slice (some ⟨g, 0, none⟩) m c) := by rw [hb.cell (p := ⟨w.heap.size, 0, none⟩) (by first | omega | (simp <;> omega))]; simp [go_sem, fz0_1, fz1_1, fz2_1, fz3_1, fz4_1, fz5_1]
  have fz1_2 : w2.cell? ⟨w.heap.size, 1, none⟩ = some (.int .i64 (i1 : Int)) := by rw [hb.cell (p := ⟨w.heap.size, 1, none⟩) (by first | omega | (simp <;> omega))]; simp [go_sem, fz0_1, fz1_1, fz2_1, fz3_1, fz4_1, fz5_1]
  have fz2_2 : w2.cell? ⟨w.heap.size, 2, none⟩ = some (.int .i64 (nd : Int)) := by rw [hb.cell (p := ⟨w.heap.size, 2, none⟩) (by first | omega | (simp <;> omega))]; simp [go_sem, fz0_1, fz1_1, fz2_1, fz3_1, fz4_1, fz5_1]
  have fz3_2 : w2.cell? ⟨w.heap.size, 3, none⟩ = some (.int .i64 0) := by rw [hb.cell (p := ⟨w.heap.size, 3, none⟩) (by first | omega | (simp <;> omega))]; simp [go_sem, fz0_1, fz1_1, fz2_1, fz3_1, fz4_1, fz5_1]
  have fz4_2 : w2.cell? ⟨w.heap.size, 4, none⟩ = some (.int .i64 at_) := by rw [hb.cell (p := ⟨w.heap.size, 4, none⟩) (by first | omega | (simp <;> omega))]; simp [go_sem, fz0_1, fz1_1, fz2_1, fz3_1, fz4_1, fz5_1]
  have fz5_2 : w2.cell? ⟨w.heap.size, 5, none⟩ = some (.string S) := by rw [hb.cell (p := ⟨w.heap.size, 5, none⟩) (by first | omega | (simp <;> omega))]; simp [go_sem, fz0_1, fz1_1, fz2_1, fz3_1, fz4_1, fz5_1]
  have fr0_2 : w2.cell? ⟨w.heap.size + 1, 0, none⟩ = some (.slice none 0 0) := by rw [hb.cell (p := ⟨w.heap.size + 1, 0, none⟩) (by first | omega | (simp <;> omega))]; simp [go_sem, fr0_1, fr1_1, fr2_1, fr3_1, fr4_1, fr5_1]
  have fr1_2 : w2.cell? ⟨w.heap.size + 1, 1, none⟩ = some (.int .i64 0) := by rw [hb.cell (p := ⟨w.heap.size + 1, 1, none⟩) (by first | omega | (simp <;> omega))]; simp [go_sem, fr0_1, fr1_1, fr2_1, fr3_1, fr4_1, fr5_1]
  have fr2_2 : w2.cell? ⟨w.heap.size + 1, 2, none⟩ = some (.int .i64 0) := by rw [hb.cell (p := ⟨w.heap.size + 1, 2, none⟩) (by first | omega | (simp <;> omega))]; simp [go_sem, fr0_1, fr1_1, fr2_1, fr3_1, fr4_1, fr5_1]
  have fr3_2 : w2.cell? ⟨w.heap.size + 1, 3, none⟩ = some (.int .i64 0) := by rw [hb.cell (p := ⟨w.heap.size + 1, 3, none⟩) (by first | omega | (simp <;> omega))]; simp [go_sem, fr0_1, fr1_1, fr2_1, fr3_1, fr4_1, fr5_1]
  have fr4_2 : w2.cell? ⟨w.heap.size + 1, 4, none⟩ = some (.int .i64 0) := by rw [hb.cell (p := ⟨w.heap.size + 1, 4, none⟩) (by first | omega | (simp <;> omega))]; simp [go_sem, fr0_1, fr1_1, fr2_1, fr3_1, fr4_1, fr5_1]
  have fr5_2 : w2.cell? ⟨w.heap.size + 1, 5, none⟩ = some (.string { data := #[] }) := by rw [hb.cell (p := ⟨w.heap.size + 1, 5, none⟩) (by first | omega | (simp <;> omega))]; simp [go_sem, fr0_1, fr1_1, fr2_1, fr3_1, fr4_1, fr5_1]
  have fq0_2 : w2.cell? ⟨w.heap.size + 1 + 1, 0, none⟩ = some (.int .i64 0) := by rw [hb.cell (p := ⟨w.heap.size + 1 + 1, 0, none⟩) (by first | omega | (simp <;> omega))]; simp [go_sem, fq0_1, fq1_1, fq2_1]
  have fq1_2 : w2.cell? ⟨w.heap.size + 1 + 1, 1, none⟩ = some (.string { data := #[] }) := by rw [hb.cell (p := ⟨w.heap.size + 1 + 1, 1, none⟩) (by first | omega | (simp <;> omega))]; simp [go_sem, fq0_1, fq1_1, fq2_1]
  have fq2_2 : w2.cell? ⟨w.heap.size + 1 + 1, 2, none⟩ = some (.string { data := #[] }) := by rw [hb.cell (p := ⟨w.heap.size + 1 + 1, 2, none⟩) (by first | omega | (simp <;> omega))]; simp [go_sem, fq0_1, fq1_1, fq2_1]
  have fn0_2 : w2.cell? ⟨w.heap.size + 1 + 1 + 1, 0, none⟩ = some (.int .i64 3) := by rw [hb.cell (p := ⟨w.heap.size + 1 + 1 + 1, 0, none⟩) (by first | omega | (simp <;> omega))]; simp [go_sem, fn0_1, fn1_1, fn2_1]
  have fn1_2 : w2.cell? ⟨w.heap.size + 1 + 1 + 1, 1, none⟩ = some (.string { data := #[] }) := by rw [hb.cell (p := ⟨w.heap.size + 1 + 1 + 1, 1, none⟩) (by first | omega | (simp <;> omega))]; simp [go_sem, fn0_1, fn1_1, fn2_1]
  have fn2_2 : w2.cell? ⟨w.heap.size + 1 + 1 + 1, 2, none⟩ = some (.string { data := #[] }) := by rw [hb.cell (p := ⟨w.heap.size + 1 + 1 + 1, 2, none⟩) (by first | omega | (simp <;> omega))]; simp [go_sem, fn0_1, fn1_1, fn2_1]
  have gz_2 : ∀ o, w2.frozen? ⟨w.heap.size, o, none⟩ = false := fun o => by rw [hb.frozen (p := ⟨w.heap.size, o, none⟩) (by first | omega | (simp <;> omega))]; simp [go_sem, gz_1]
  have gr_2 : ∀ o, w2.frozen? ⟨w.heap.size + 1, o, none⟩ = false := fun o => by rw [hb.frozen (p := ⟨w.heap.size + 1, o, none⟩) (by first | omega | (simp <;> omega))]; simp [go_sem, gr_1]
  have gq_2 : ∀ o, w2.frozen? ⟨w.heap.size + 1 + 1, o, none⟩ = false := fun o => by rw [hb.frozen (p := ⟨w.heap.size + 1 + 1, o, none⟩) (by first | omega | (simp <;> omega))]; simp [go_sem, gq_1]
  have gn_2 : ∀ o, w2.frozen? ⟨w.heap.size + 1 + 1 + 1, o, none⟩ = false := fun o => by rw [hb.frozen (p := ⟨w.heap.size + 1 + 1 + 1, o, none⟩) (by first | omega | (simp <;> omega))]; simp [go_sem, gn_1]
  clear fz0_1 fz1_1 fz2_1 fz3_1 fz4_1 fz5_1 fr0_1 fr1_1 fr2_1 fr3_1 fr4_1 fr5_1 fq0_1 fq1_1 fq2_1 fn0_1 fn1_1 fn2_1 gz_1 gr_1 gq_1 gn_1
  clear hb
  go_wp2_with fail
  refine (HI3.out _ (HR.out.below (HB2.out))).mono ?_
  rintro e w3 ⟨rfl, hb⟩
  have hz3 : w.heap.size + 3 < w3.heap.size := by have := hb.size; (try simp at this); omega
  have HB3 : Hid (Below w.heap.size w w3) := (HB2.out).trans (hb.mono (by first | omega | (simp <;> omega)))
  have fz0_3 : w3.cell? ⟨w.heap.size, 0, none⟩ = some (.slice (some ⟨g, 0, none⟩) m c) := by rw [hb.cell (p := ⟨w.heap.size, 0, none⟩) (by first | omega | (simp <;> omega))]; simp [go_sem, fz0_2, fz1_2, fz2_2, fz3_2, fz4_2, fz5_2]
  have fz1_3 : w3.cell? ⟨w.heap.size, 1, none⟩ = some (.int .i64 (i1 : Int)) := by rw [hb.cell (p := ⟨w.heap.size, 1, none⟩) (by first | omega | (simp <;> omega))]; simp [go_sem, fz0_2, fz1_2, fz2_2, fz3_2, fz4_2, fz5_2]
  have fz2_3 : w3.cell? ⟨w.heap.size, 2, none⟩ = some (.int .i64 (nd : Int)) := by rw [hb.cell (p := ⟨w.heap.size, 2, none⟩) (by first | omega | (simp <;> omega))]; simp [go_sem, fz0_2, fz1_2, fz2_2, fz3_2, fz4_2, fz5_2]
  have fz3_3 : w3.cell? ⟨w.heap.size, 3, none⟩ = some (.int .i64 0) := by rw [hb.cell (p := ⟨w.heap.size, 3, none⟩) (by first | omega | (simp <;> omega))]; simp [go_sem, fz0_2, fz1_2, fz2_2, fz3_2, fz4_2, fz5_2]
  have fz4_3 : w3.cell? ⟨w.heap.size, 4, none⟩ = some (.int .i64 at_) := by rw [hb.cell (p := ⟨w.heap.size, 4, none⟩) (by first | omega | (simp <;> omega))]; simp [go_sem, fz0_2, fz1_2, fz2_2, fz3_2, fz4_2, fz5_2]
  have fz5_3 : w3.cell? ⟨w.heap.size, 5, none⟩ = some (.string S) := by rw [hb.cell (p := ⟨w.heap.size, 5, none⟩) (by first | omega | (simp <;> omega))]; simp [go_sem, fz0_2, fz1_2, fz2_2, fz3_2, fz4_2, fz5_2]
  have fr0_3 : w3.cell? ⟨w.heap.size + 1, 0, none⟩ = some (.slice none 0 0) := by rw [hb.cell (p := ⟨w.heap.size + 1, 0, none⟩) (by first | omega | (simp <;> omega))]; simp [go_sem, fr0_2, fr1_2, fr2_2, fr3_2, fr4_2, fr5_2]
  have fr1_3 : w3.cell? ⟨w.heap.size + 1, 1, none⟩ = some (.int .i64 0) := by rw [hb.cell (p := ⟨w.heap.size + 1, 1, none⟩) (by first | omega | (simp <;> omega))]; simp [go_sem, fr0_2, fr1_2, fr2_2, fr3_2, fr4_2, fr5_2]
  have fr2_3 : w3.cell? ⟨w.heap.size + 1, 2, none⟩ = some (.int .i64 0) := by rw [hb.cell (p := ⟨w.heap.size + 1, 2, none⟩) (by first | omega | (simp <;> omega))]; simp [go_sem, fr0_2, fr1_2, fr2_2, fr3_2, fr4_2, fr5_2]
  have fr3_3 : w3.cell? ⟨w.heap.size + 1, 3, none⟩ = some (.int .i64 0) := by rw [hb.cell (p := ⟨w.heap.size + 1, 3, none⟩) (by first | omega | (simp <;> omega))]; simp [go_sem, fr0_2, fr1_2, fr2_2, fr3_2, fr4_2, fr5_2]
  have fr4_3 : w3.cell? ⟨w.heap.size + 1, 4, none⟩ = some (.int .i64 0) := by rw [hb.cell (p := ⟨w.heap.size + 1, 4, none⟩) (by first | omega | (simp <;> omega))]; simp [go_sem, fr0_2, fr1_2, fr2_2, fr3_2, fr4_2, fr5_2]
  have fr5_3 : w3.cell? ⟨w.heap.size + 1, 5, none⟩ = some (.string { data := #[] }) := by rw [hb.cell (p := ⟨w.heap.size + 1, 5, none⟩) (by first | omega | (simp <;> omega))]; simp [go_sem, fr0_2, fr1_2, fr2_2, fr3_2, fr4_2, fr5_2]
  have fq0_3 : w3.cell? ⟨w.heap.size + 1 + 1, 0, none⟩ = some (.int .i64 0) := by rw [hb.cell (p := ⟨w.heap.size + 1 + 1, 0, none⟩) (by first | omega | (simp <;> omega))]; simp [go_sem, fq0_2, fq1_2, fq2_2]
  have fq1_3 : w3.cell? ⟨w.heap.size + 1 + 1, 1, none⟩ = some (.string { data := #[] }) := by rw [hb.cell (p := ⟨w.heap.size + 1 + 1, 1, none⟩) (by first | omega | (simp <;> omega))]; simp [go_sem, fq0_2, fq1_2, fq2_2]
  have fq2_3 : w3.cell? ⟨w.heap.size + 1 + 1, 2, none⟩ = some (.string { data := #[] }) := by rw [hb.cell (p := ⟨w.heap.size + 1 + 1, 2, none⟩) (by first | omega | (simp <;> omega))]; simp [go_sem, fq0_2, fq1_2, fq2_2]
  have fn0_3 : w3.cell? ⟨w.heap.size + 1 + 1 + 1, 0, none⟩ = some (.int .i64 3) := by rw [hb.cell (p := ⟨w.heap.size + 1 + 1 + 1, 0, none⟩) (by first | omega | (simp <;> omega))]; simp [go_sem, fn0_2, fn1_2, fn2_2]
  have fn1_3 : w3.cell? ⟨w.heap.size + 1 + 1 + 1, 1, none⟩ = some (.string { data := #[] }) := by rw [hb.cell (p := ⟨w.heap.size + 1 + 1 + 1, 1, none⟩) (by first | omega | (simp <;> omega))]; simp [go_sem, fn0_2, fn1_2, fn2_2]
  have fn2_3 : w3.cell? ⟨w.heap.size + 1 + 1 + 1, 2, none⟩ = some (.string { data := #[] }) := by rw [hb.cell (p := ⟨w.heap.size + 1 + 1 + 1, 2, none⟩) (by first | omega | (simp <;> omega))]; simp [go_sem, fn0_2, fn1_2, fn2_2]
  have gz_3 : ∀ o, w3.frozen? ⟨w.heap.size, o, none⟩ = false := fun o => by rw [hb.frozen (p := ⟨w.heap.size, o, none⟩) (by first | omega | (simp <;> omega))]; simp [go_sem, gz_2]
  have gr_3 : ∀ o, w3.frozen? ⟨w.heap.size + 1, o, none⟩ = false := fun o => by rw [hb.frozen (p := ⟨w.heap.size + 1, o, none⟩) (by first | omega | (simp <;> omega))]; simp [go_sem, gr_2]
  have gq_3 : ∀ o, w3.frozen? ⟨w.heap.size + 1 + 1, o, none⟩ = false := fun o => by rw [hb.frozen (p := ⟨w.heap.size + 1 + 1, o, none⟩) (by first | omega | (simp <;> omega))]; simp [go_sem, gq_2]
  have gn_3 : ∀ o, w3.frozen? ⟨w.heap.size + 1 + 1 + 1, o, none⟩ = false := fun o => by rw [hb.frozen (p := ⟨w.heap.size + 1 + 1 + 1, o, none⟩) (by first | omega | (simp <;> omega))]; simp [go_sem, gn_2]
  clear fz0_2 fz1_2 fz2_2 fz3_2 fz4_2 fz5_2 fr0_2 fr1_2 fr2_2 fr3_2 fr4_2 fr5_2 fq0_2 fq1_2 fq2_2 fn0_2 fn1_2 fn2_2 gz_2 gr_2 gq_2 gn_2
  clear hb
  go_wp2_with fail
  refine wp_region_lateS (S := SLast w (.slice (some ⟨g, 0, none⟩) m c) (.int .i64 (i1 : Int)) (.int .i64 (nd : Int)) (.int .i64 0) (.int .i64 at_) (.string S) (.int .i64 3) (.string { data := #[] }) (.string { data := #[] })) 4 (by kernel_rfl) ?_ (fun W hHeld => ?_)
  · refine ⟨Cs.six ?_ ?_ ?_ ?_ ?_ ?_ ?_, ⟨_, _, _, _, _, _, Cs.six (v0 := .slice none 0 0) (v1 := .int .i64 0) (v2 := .int .i64 0) (v3 := .int .i64 0) (v4 := .int .i64 0) (v5 := .string { data := #[] }) ?_ ?_ ?_ ?_ ?_ ?_ ?_⟩, ⟨_, _, _, Cs.three (v0 := .int .i64 0) (v1 := .string { data := #[] }) (v2 := .string { data := #[] }) ?_ ?_ ?_ ?_⟩, Cs.three ?_ ?_ ?_ ?_, ?_, ?_⟩
    · simp [go_sem, fz0_3, fz1_3, fz2_3, fz3_3, fz4_3, fz5_3, fr0_3, fr1_3, fr2_3, fr3_3, fr4_3, fr5_3, fq0_3, fq1_3, fq2_3, fn0_3, fn1_3, fn2_3, gz_3, gr_3, gq_3, gn_3]
    · simp [go_sem, fz0_3, fz1_3, fz2_3, fz3_3, fz4_3, fz5_3, fr0_3, fr1_3, fr2_3, fr3_3, fr4_3, fr5_3, fq0_3, fq1_3, fq2_3, fn0_3, fn1_3, fn2_3, gz_3, gr_3, gq_3, gn_3]
    · simp [go_sem, fz0_3, fz1_3, fz2_3, fz3_3, fz4_3, fz5_3, fr0_3, fr1_3, fr2_3, fr3_3, fr4_3, fr5_3, fq0_3, fq1_3, fq2_3, fn0_3, fn1_3, fn2_3, gz_3, gr_3, gq_3, gn_3]
    · simp [go_sem, fz0_3, fz1_3, fz2_3, fz3_3, fz4_3, fz5_3, fr0_3, fr1_3, fr2_3, fr3_3, fr4_3, fr5_3, fq0_3, fq1_3, fq2_3, fn0_3, fn1_3, fn2_3, gz_3, gr_3, gq_3, gn_3]
    · simp [go_sem, fz0_3, fz1_3, fz2_3, fz3_3, fz4_3, fz5_3, fr0_3, fr1_3, fr2_3, fr3_3, fr4_3, fr5_3, fq0_3, fq1_3, fq2_3, fn0_3, fn1_3, fn2_3, gz_3, gr_3, gq_3, gn_3]
    · simp [go_sem, fz0_3, fz1_3, fz2_3, fz3_3, fz4_3, fz5_3, fr0_3, fr1_3, fr2_3, fr3_3, fr4_3, fr5_3, fq0_3, fq1_3, fq2_3, fn0_3, fn1_3, fn2_3, gz_3, gr_3, gq_3, gn_3]
    · intro o; simp [go_sem, fz0_3, fz1_3, fz2_3, fz3_3, fz4_3, fz5_3, fr0_3, fr1_3, fr2_3, fr3_3, fr4_3, fr5_3, fq0_3, fq1_3, fq2_3, fn0_3, fn1_3, fn2_3, gz_3, gr_3, gq_3, gn_3]
    · simp [go_sem, fz0_3, fz1_3, fz2_3, fz3_3, fz4_3, fz5_3, fr0_3, fr1_3, fr2_3, fr3_3, fr4_3, fr5_3, fq0_3, fq1_3, fq2_3, fn0_3, fn1_3, fn2_3, gz_3, gr_3, gq_3, gn_3]
    · simp [go_sem, fz0_3, fz1_3, fz2_3, fz3_3, fz4_3, fz5_3, fr0_3, fr1_3, fr2_3, fr3_3, fr4_3, fr5_3, fq0_3, fq1_3, fq2_3, fn0_3, fn1_3, fn2_3, gz_3, gr_3, gq_3, gn_3]
    · simp [go_sem, fz0_3, fz1_3, fz2_3, fz3_3, fz4_3, fz5_3, fr0_3, fr1_3, fr2_3, fr3_3, fr4_3, fr5_3, fq0_3, fq1_3, fq2_3, fn0_3, fn1_3, fn2_3, gz_3, gr_3, gq_3, gn_3]
    · simp [go_sem, fz0_3, fz1_3, fz2_3, fz3_3, fz4_3, fz5_3, fr0_3, fr1_3, fr2_3, fr3_3, fr4_3, fr5_3, fq0_3, fq1_3, fq2_3, fn0_3, fn1_3, fn2_3, gz_3, gr_3, gq_3, gn_3]
    · simp [go_sem, fz0_3, fz1_3, fz2_3, fz3_3, fz4_3, fz5_3, fr0_3, fr1_3, fr2_3, fr3_3, fr4_3, fr5_3, fq0_3, fq1_3, fq2_3, fn0_3, fn1_3, fn2_3, gz_3, gr_3, gq_3, gn_3]
    · simp [go_sem, fz0_3, fz1_3, fz2_3, fz3_3, fz4_3, fz5_3, fr0_3, fr1_3, fr2_3, fr3_3, fr4_3, fr5_3, fq0_3, fq1_3, fq2_3, fn0_3, fn1_3, fn2_3, gz_3, gr_3, gq_3, gn_3]
    · intro o; simp [go_sem, fz0_3, fz1_3, fz2_3, fz3_3, fz4_3, fz5_3, fr0_3, fr1_3, fr2_3, fr3_3, fr4_3, fr5_3, fq0_3, fq1_3, fq2_3, fn0_3, fn1_3, fn2_3, gz_3, gr_3, gq_3, gn_3]
    · simp [go_sem, fz0_3, fz1_3, fz2_3, fz3_3, fz4_3, fz5_3, fr0_3, fr1_3, fr2_3, fr3_3, fr4_3, fr5_3, fq0_3, fq1_3, fq2_3, fn0_3, fn1_3, fn2_3, gz_3, gr_3, gq_3, gn_3]
    · simp [go_sem, fz0_3, fz1_3, fz2_3, fz3_3, fz4_3, fz5_3, fr0_3, fr1_3, fr2_3, fr3_3, fr4_3, fr5_3, fq0_3, fq1_3, fq2_3, fn0_3, fn1_3, fn2_3, gz_3, gr_3, gq_3, gn_3]
    · simp [go_sem, fz0_3, fz1_3, fz2_3, fz3_3, fz4_3, fz5_3, fr0_3, fr1_3, fr2_3, fr3_3, fr4_3, fr5_3, fq0_3, fq1_3, fq2_3, fn0_3, fn1_3, fn2_3, gz_3, gr_3, gq_3, gn_3]
    · intro o; simp [go_sem, fz0_3, fz1_3, fz2_3, fz3_3, fz4_3, fz5_3, fr0_3, fr1_3, fr2_3, fr3_3, fr4_3, fr5_3, fq0_3, fq1_3, fq2_3, fn0_3, fn1_3, fn2_3, gz_3, gr_3, gq_3, gn_3]
    · simp [go_sem, fz0_3, fz1_3, fz2_3, fz3_3, fz4_3, fz5_3, fr0_3, fr1_3, fr2_3, fr3_3, fr4_3, fr5_3, fq0_3, fq1_3, fq2_3, fn0_3, fn1_3, fn2_3, gz_3, gr_3, gq_3, gn_3]
    · simp [go_sem, fz0_3, fz1_3, fz2_3, fz3_3, fz4_3, fz5_3, fr0_3, fr1_3, fr2_3, fr3_3, fr4_3, fr5_3, fq0_3, fq1_3, fq2_3, fn0_3, fn1_3, fn2_3, gz_3, gr_3, gq_3, gn_3]
    · simp [go_sem, fz0_3, fz1_3, fz2_3, fz3_3, fz4_3, fz5_3, fr0_3, fr1_3, fr2_3, fr3_3, fr4_3, fr5_3, fq0_3, fq1_3, fq2_3, fn0_3, fn1_3, fn2_3, gz_3, gr_3, gq_3, gn_3]
    · intro o; simp [go_sem, fz0_3, fz1_3, fz2_3, fz3_3, fz4_3, fz5_3, fr0_3, fr1_3, fr2_3, fr3_3, fr4_3, fr5_3, fq0_3, fq1_3, fq2_3, fn0_3, fn1_3, fn2_3, gz_3, gr_3, gq_3, gn_3]
    · exact (HB3.out).drew
    · simp; omega
  clear fz0_3 fz1_3 fz2_3 fz3_3 fz4_3 fz5_3 fr0_3 fr1_3 fr2_3 fr3_3 fr4_3 fr5_3 fq0_3 fq1_3 fq2_3 fn0_3 fn1_3 fn2_3 gz_3 gr_3 gq_3 gn_3 hz3
  refine tk 0 .zero (v := .agg #[.slice (some ⟨g, 0, none⟩) m c, .int .i64 (i1 : Int), .int .i64 (nd : Int), .int .i64 0, .int .i64 at_, .string S]) ?_ ?_
  · intro w' h
    have a0 := h.1.1 0 _ rfl
    have a1 := h.1.1 1 _ rfl
    have a2 := h.1.1 2 _ rfl
    have a3 := h.1.1 3 _ rfl
    have a4 := h.1.1 4 _ rfl
    have a5 := h.1.1 5 _ rfl
    clear h
    go_simp
  simp only [tkp]
  refine tk 2 (.succ (.succ .zero)) (v := .agg #[.int .i64 3, .string { data := #[] }, .string { data := #[] }]) ?_ ?_
  · intro w' h
    have a0 := h.2.2.2.1.1 0 _ rfl
    have a1 := h.2.2.2.1.1 1 _ rfl
    have a2 := h.2.2.2.1.1 2 _ rfl
    clear h
    go_simp
  simp only [tkp]
  refine tk1 1 (.succ .zero) (fun K hK => ?_)
  refine stepTc (by rfl) 105 24 (.int .i64 3) _ (by rfl) (.agg #[.slice (some ⟨g, 0, none⟩) m c, .int .i64 (i1 : Int), .int .i64 (nd : Int), .int .i64 0, .int .i64 at_, .string S]) (by rfl) (fun _ _ => by rfl) ?_
  refine (HF.out W (HR.out.below hHeld.2.2.2.2.1)).mono ?_
  rintro e W2 ⟨rfl, hb⟩
  refine ⟨_, rfl, hK.out _ _ (fun _ => hHeld.below hb) (fun hG => ?_)⟩
  clear hK K hHeld hb
  have hHeld := hG (by decide)
  clear hG W
  obtain ⟨hZ, ⟨v0, v1, v2, v3, v4, v5, hr⟩, ⟨u0, u1, u2, hq⟩, hn, hbel, hsz⟩ := hHeld
  have r0 := hr.1 0 _ rfl
  have r1 := hr.1 1 _ rfl
  have r2 := hr.1 2 _ rfl
  have r3 := hr.1 3 _ rfl
  have r4 := hr.1 4 _ rfl
  have r5 := hr.1 5 _ rfl
  have q0 := hq.1 0 _ rfl
  have q1 := hq.1 1 _ rfl
  have q2 := hq.1 2 _ rfl
  have rf := hr.2
  have qf := hq.2
  have HZ : Hid (Cs W2 w.heap.size [.slice (some ⟨g, 0, none⟩) m c, .int .i64 (i1 : Int), .int .i64 (nd : Int), .int .i64 0, .int .i64 at_, .string S] ∧ Cs W2 (w.heap.size + 1 + 1 + 1) [.int .i64 3, .string { data := #[] }, .string { data := #[] }] ∧ Below w.heap.size w W2) := ⟨hZ, hn, hbel⟩
  clear hr hq hZ hn hbel
  simp only [tkp]
  refine tk1 3 (.succ (.succ (.succ .zero))) (fun K hK => ?_)
  skip
  go_simp
  refine hK.out _ _ (fun _ => ?_) (fun hG => ?_)
  · refine ⟨⟨fun o u hu => ?_, fun o => ?_⟩, ⟨_, _, _, _, _, _, Cs.six (v0 := .slice (some ⟨g, 0, none⟩) m c) (v1 := .int .i64 (i7 : Int)) (v2 := .int .i64 (nd7 : Int)) (v3 := .int .i64 er7) (v4 := .int .i64 at7) (v5 := .string (strT got7)) ?_ ?_ ?_ ?_ ?_ ?_ ?_⟩, ⟨u0, u1, u2, Cs.three ?_ ?_ ?_ ?_⟩, ⟨fun o u hu => ?_, fun o => ?_⟩, ?_, ?_⟩
    · have := HZ.out.1.1 o u hu
      simpa [go_sem] using this
    · have := HZ.out.1.2 o
      simpa [go_sem] using this
    · simp [go_sem, r0, r1, r2, r3, r4, r5]
    · simp [go_sem, r0, r1, r2, r3, r4, r5]
    · simp [go_sem, r0, r1, r2, r3, r4, r5]
    · simp [go_sem, r0, r1, r2, r3, r4, r5]
    · simp [go_sem, r0, r1, r2, r3, r4, r5]
    · simp [go_sem, r0, r1, r2, r3, r4, r5]
    · intro o; simp [go_sem, rf]
    · simp [go_sem, q0, q1, q2]
    · simp [go_sem, q0, q1, q2]
    · simp [go_sem, q0, q1, q2]
    · intro o; simp [go_sem, qf]
    · have := HZ.out.2.1.1 o u hu
      simpa [go_sem] using this
    · have := HZ.out.2.1.2 o
      simpa [go_sem] using this
    · exact ((((((HZ.out.2.2).setCell (by first | omega | (simp <;> omega)) _).setCell (by first | omega | (simp <;> omega)) _).setCell (by first | omega | (simp <;> omega)) _).setCell (by first | omega | (simp <;> omega)) _).setCell (by first | omega | (simp <;> omega)) _).setCell (by first | omega | (simp <;> omega)) _
    · simp; omega
  clear hK K hG
  try simp only [tkp]
  refine tk1 4 (.succ (.succ (.succ (.succ .zero)))) (fun K hK => ?_)
  go_simp
  refine hK.out _ _ (fun hne => absurd rfl hne) (fun hG => ?_)
  clear hK K hG
  refine wpLate_done (by kernel_rfl) ?_ _
  go_wp2
  refine bodyPost_ret (v := .tuple #[.agg #[.slice (some ⟨g, 0, none⟩) m c, .int .i64 (i7 : Int), .int .i64 (nd7 : Int), .int .i64 er7, .int .i64 at7, .string (strT got7)], .agg #[.int .i64 3, .string { data := #[] }, .string { data := #[] }]]) (by simp [results, Try.results106, go_sem, r0, r1, r2, r3, r4, r5, q0, q1, q2]) rfl ⟨?_, ?_⟩
  · rw [HE.out]
    rfl
  · exact (((((((((HZ.out.2.2).setCell (by first | omega | (simp <;> omega)) _).setCell (by first | omega | (simp <;> omega)) _).setCell (by first | omega | (simp <;> omega)) _).setCell (by first | omega | (simp <;> omega)) _).setCell (by first | omega | (simp <;> omega)) _).setCell (by first | omega | (simp <;> omega)) _).setCell (by first | omega | (simp <;> omega)) _).setCell (by first | omega | (simp <;> omega)) _).setCell (by first | omega | (simp <;> omega)) _

end Go.Proofs.Ytocmbnocdjnfpaa
