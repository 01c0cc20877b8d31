import Derived.Test.YtfecgececffdoaaTmImp
namespace Go.Proofs.Ytfecgececffdoaa
open Go.RowKit Go.Deep Go.MapKept
set_option linter.unusedVariables false
set_option maxRecDepth 100000

/-- Where a row's rest begins. -/
def shT (a : Option Addr) (lo c : Nat) : Option Addr := if c = lo then a else a.map fun x => x.add (lo * 3)
theorem run_fromT (a : Option Addr) (n c lo : Nat) (h1 : lo ≤ n) (h2 : n ≤ c) (w : World) : (Instr.sliceAt 26 (.slice a n c) (some (.int .i64 (lo : Int))) none none).run Try.prog w = .ok (.slice (shT a lo c) (n - lo) (c - lo)) w := by
  simp [Instr.sliceAt, Instr.slice, go_sem, shT]
  intro h
  omega
theorem run_uptoT (a : Option Addr) (n c hi : Nat) (h1 : hi ≤ n) (h2 : n ≤ c) (w : World) : (Instr.sliceAt 26 (.slice a n c) none (some (.int .i64 (hi : Int))) none).run Try.prog w = .ok (.slice a hi c) w := by
  simp [Instr.sliceAt, Instr.slice, go_sem]
  intro h
  omega
theorem rdT_shift {w : World} {a : Option Addr} {n lo : Nat} {I : Nat → Int} {X : Nat → ByteArray} {R : Nat → Int} (c : Nat) (h : RdT w a n I X R) (hl : lo ≤ n) (hc : n ≤ c) : RdT w (shT a lo c) (n - lo) (fun j => I (lo + j)) (fun j => X (lo + j)) (fun j => R (lo + j)) := by
  rcases h with h0 | ⟨b, o, rfl, hcell⟩
  · exact Or.inl (by omega)
  · by_cases e : n = lo
    · exact Or.inl (by omega)
    · refine Or.inr ⟨b, o + lo * 3, ?_, fun i hi => ?_⟩
      · unfold shT
        rw [if_neg (by omega)]
        simp only [Option.map_some]
        unfold Addr.add
        by_cases e0 : lo = 0
        · subst e0; simp
        · have : ¬ lo * 3 = 0 := by omega
          simp [this]
      · have q := hcell (lo + i) (by omega)
        rw [show o + (lo + i) * 3 = o + lo * 3 + i * 3 by omega] at q
        exact q
theorem rdT_upto {w : World} {a : Option Addr} {n m : Nat} {I : Nat → Int} {X : Nat → ByteArray} {R : Nat → Int} (h : RdT w a n I X R) (hm : m ≤ n) : RdT w a m I X R := by
  rcases h with h0 | ⟨b, o, rfl, hcell⟩
  · exact Or.inl (by omega)
  · exact Or.inr ⟨b, o, rfl, fun i hi => hcell i (by omega)⟩

theorem glue3 {T : Type} (f : Nat → T) (v : T) (p j : Nat) : glue (p + 1) (glue p f (fun _ => v)) (fun j => f (p + j)) j = insAt f p v j := by
  rcases Nat.lt_trichotomy j p with h1 | h1 | h1
  · rw [glue_lt (by omega), glue_lt h1, insAt_lt h1]
  · subst h1
    rw [glue_lt (by omega), glue_ge (by omega), insAt_at]
  · rw [glue_ge (by omega), insAt_gt h1, show p + (j - (p + 1)) = j - 1 by omega]

theorem insRow (I : Nat → Int) (X : Nat → ByteArray) (R : Nat → Int) (x : ByteArray) (next : Int) {p n : Nat} (hp : p ≤ n) :
    termRow I X R p ++ termRow (fun _ => next) (fun _ => x) (fun _ => 1) 1 ++ termRow (fun j => I (p + j)) (fun j => X (p + j)) (fun j => R (p + j)) (n - p) = termRow (insAt I p next) (insAt X p x) (insAt R p 1) (n + 1) := by
  rw [termRow_app, termRow_app, show p + 1 + (n - p) = n + 1 by omega]
  exact termRow_congr (fun j _ => ⟨glue3 _ _ _ _, glue3 _ _ _ _, glue3 _ _ _ _⟩)

/-- A count changed in a row of the call's own. -/
theorem OwnT.setRef {w : World} {B g n : Nat} {I : Nat → Int} {X : Nat → ByteArray} {R : Nat → Int} (h : OwnT w B (some ⟨g, 0, none⟩) n I X R) (hn : n ≠ 0) {i : Nat} (hi : i < n) (r : Int) : OwnT (w.setCell ⟨g, i * 3 + 2, none⟩ (.int .i64 r)) B (some ⟨g, 0, none⟩) n I X (upd R i r) := by
  rcases h with h0 | ⟨g', e, hg, hr⟩
  · exact absurd h0 hn
  · injection e with e
    injection e with e
    subst e
    refine Or.inr ⟨g, rfl, hg, (hr.set (i * 3 + 2) (.int .i64 r)).congr (fun c hc => ?_)⟩
    by_cases e : c = i * 3 + 2
    · subst e
      rw [if_pos rfl, termCell_2, upd_same]
    · rw [if_neg e]
      unfold termCell
      split
      · rfl
      · split
        · rfl
        · rw [upd_ne (by omega)]

/-- What spec.Intern and spec.Release have laid: the argument's box, the answer's, their copies. -/
structure SpSt (w w3 : World) (next : Int) (a : Option Addr) (n c : Nat) (I : Nat → Int) (X : Nat → ByteArray) (R : Nat → Int) (bo : Nat) (a1 : Option Addr) (c1 : Nat) : Prop where
  low : Below (w.heap.size + 2) ((w.alloc (.cells #[.int .i64 next, .slice a n c] 28)).alloc (.cells #[.bool false, .int .i64 0, .int .i64 0, .slice none 0 0] 30)) w3
  out : w3.heap[bo]? = some (.cells #[.int .i64 next, .slice a1 n c1] 28)
  ge : w.heap.size + 2 ≤ bo
  row : OwnT w3 (w.heap.size + 2) a1 n I X R

theorem SpSt.keep {w w3 w4 : World} {next : Int} {a : Option Addr} {n c : Nat} {I : Nat → Int} {X : Nat → ByteArray} {R : Nat → Int} {bo : Nat} {a1 : Option Addr} {c1 : Nat} (h : SpSt w w3 next a n c I X R bo a1 c1) (hb : Below w3.heap.size w3 w4) : SpSt w w4 next a n c I X R bo a1 c1 := by
  have hs := h.low.size
  simp only [World.size_alloc] at hs
  exact ⟨h.low.trans (hb.mono (by omega)), (hb.block _ (Array.getElem?_eq_some_iff.1 h.out).1).trans h.out, h.ge, h.row.below hb⟩

theorem SpSt.cells {w w3 : World} {next : Int} {a : Option Addr} {n c : Nat} {I : Nat → Int} {X : Nat → ByteArray} {R : Nat → Int} {bo : Nat} {a1 : Option Addr} {c1 : Nat} (h : SpSt w w3 next a n c I X R bo a1 c1) : w3.cell? ⟨bo, 0, none⟩ = some (.int .i64 next) ∧ w3.cell? ⟨bo, 1, none⟩ = some (.slice a1 n c1) ∧ (∀ o, w3.frozen? ⟨bo, o, none⟩ = false) ∧ bo < w3.heap.size := by
  have := h.out
  exact ⟨by simp [World.cell?, this], by simp [World.cell?, this], fun o => by simp [World.frozen?, this], (Array.getElem?_eq_some_iff.1 this).1⟩

theorem fits_text {next : Int} {n : Nat} {I : Nat → Int} {X : Nat → ByteArray} {R : Nat → Int} {x : ByteArray} (hv : VDt next n I X R) (hx : txB x = false) : ∀ i, i < n → X i ≠ x := fun i hi e => by
  have h1 := (hv.2.2 i hi).1.1
  rw [e] at h1
  unfold txB at hx
  simp at hx
  omega

set_option maxHeartbeats 8000000 in
theorem specIntern (next : Int) (a : Option Addr) (n c : Nat) (I : Nat → Int) (X : Nat → ByteArray) (R : Nat → Int) (x : ByteArray) (w : World) (h : RdT w a n I X R) (hn : n ≤ 1048576) (hnc : n ≤ c) :
    Calls Try.prog 7 #[.agg #[.int .i64 next, .slice a n c], .string x] w (RetAns w (InAns next n I X R x)) := by
  have HR : Hid (RdT w a n I X R) := h
  have HSZ : Hid (((w.alloc (.cells #[.int .i64 next, .slice a n c] 28)).alloc (.cells #[.bool false, .int .i64 0, .int .i64 0, .slice none 0 0] 30)).heap.size = w.heap.size + 2) := by show _ = _; simp
  have hc1 := l4Copy_any next a n c I X R ((w.alloc (.cells #[.int .i64 next, .slice a n c] 28)).alloc (.cells #[.bool false, .int .i64 0, .int .i64 0, .slice none 0 0] 30)) (h.below ((below_alloc _ _).trans ((below_alloc _ _).mono (by simp)))) hn
  clear h
  go_enter Try.func7, Try.ntmps7
  go_wp2_with fail
  refine hc1.mono ?_
  clear hc1
  rintro e w1 ⟨a1, c1, rfl, ho1, hb1, hccc1⟩
  rw [HSZ.out] at ho1 hb1
  have S1 : Hid (SpSt w (w1.alloc (.cells #[.int .i64 next, .slice a1 n c1] 28)) next a n c I X R w1.heap.size a1 c1) := by
    have hs := hb1.size
    rw [HSZ.out] at hs
    exact ⟨hb1.alloc hs _, blk_alloc_new _ _, hs, ho1.below (below_alloc _ _)⟩
  have hz1 := hb1.size
  rw [HSZ.out] at hz1
  clear hb1 ho1
  go_upto_region 2 with fail
  generalize w1.alloc (.cells #[.int .i64 next, .slice a1 n c1] 28) = W1 at S1 ⊢
  generalize w1.heap.size = bo at S1 hz1 ⊢
  obtain ⟨⟨y0, y1⟩, ⟨z0, z1, z2, z3, zf⟩, zz, hbel⟩ := rbox S1.out.low
  have B1 : Hid (Below w.heap.size w W1) := hbel
  clear hbel
  go_wp2_with fail
  refine (l4Copy_any next a n c I X R W1 (HR.out.below B1.out) hn).mono ?_
  rintro e w2 ⟨a2, c2, rfl, ho2, hb2, hccc2⟩
  clear y0 y1 z0 z1 z2 z3 zf zz
  have S2 : Hid (SpSt w (w2.alloc (.cells #[.bool false, .int .i64 0, .int .i64 next, .slice a2 n c2] 30)) next a n c I X R bo a1 c1) := S1.out.keep (hb2.alloc hb2.size _)
  have N2 : Hid ((w2.alloc (.cells #[.bool false, .int .i64 0, .int .i64 next, .slice a2 n c2] 30)).heap[w2.heap.size]? = some (.cells #[.bool false, .int .i64 0, .int .i64 next, .slice a2 n c2] 30) ∧ OwnT (w2.alloc (.cells #[.bool false, .int .i64 0, .int .i64 next, .slice a2 n c2] 30)) (w.heap.size + 2) a2 n I X R) := by
    have hs := S1.out.low.size
    rw [HSZ.out] at hs
    exact ⟨blk_alloc_new _ _, (ho2.below (below_alloc _ _)).mono hs⟩
  have hz2 : w.heap.size + 2 ≤ w2.heap.size := by
    have hs := S1.out.low.size
    rw [HSZ.out] at hs
    exact Nat.le_trans hs hb2.size
  clear ho2 hb2 S1 B1
  go_upto_region 3 with fail
  generalize w2.alloc (.cells #[.bool false, .int .i64 0, .int .i64 next, .slice a2 n c2] 30) = W2 at S2 N2 ⊢
  generalize w2.heap.size = bn at N2 hz2 ⊢
  obtain ⟨⟨y0, y1⟩, ⟨z0, z1, z2, z3, zf⟩, zz, hbel⟩ := rbox S2.out.low
  have B2 : Hid (Below w.heap.size w W2) := hbel
  clear hbel
  go_wp2_with fail
  refine (specVD next a n c I X R W2 (HR.out.below B2.out) hn).mono ?_
  rintro e w3 ⟨bv, rfl, hbv, hb3⟩
  clear y0 y1 z0 z1 z2 z3 zf zz
  have S3 : Hid (SpSt w w3 next a n c I X R bo a1 c1) := S2.out.keep hb3
  have N3 : Hid (w3.heap[bn]? = some (.cells #[.bool false, .int .i64 0, .int .i64 next, .slice a2 n c2] 30) ∧ OwnT w3 (w.heap.size + 2) a2 n I X R) := ⟨(hb3.block _ (Array.getElem?_eq_some_iff.1 N2.out.1).1).trans N2.out.1, N2.out.2.below hb3⟩
  have HBV : Hid (bv = true ↔ VDt next n I X R) := hbv
  clear hb3 hbv S2 N2 B2
  obtain ⟨⟨y0, y1⟩, ⟨z0, z1, z2, z3, zf⟩, zz, hbel⟩ := rbox S3.out.low
  obtain ⟨u0, u1, uf, ul⟩ := S3.out.cells
  have B3 : Hid (Below w.heap.size w w3) := hbel
  clear hbel
  have HNO : Hid (∀ W : World, Below w3.heap.size w3 W → (W.cell? ⟨bn, 0, none⟩ = some (.bool false) ∧ W.cell? ⟨bn, 1, none⟩ = some (.int .i64 0) ∧ W.cell? ⟨bn, 2, none⟩ = some (.int .i64 next) ∧ W.cell? ⟨bn, 3, none⟩ = some (.slice a2 n c2)) ∧ OwnT W (w.heap.size + 2) a2 n I X R) := fun W hb => by
    have q := (hb.block _ (Array.getElem?_eq_some_iff.1 N3.out.1).1).trans N3.out.1
    exact ⟨⟨by simp [World.cell?, q], by simp [World.cell?, q], by simp [World.cell?, q], by simp [World.cell?, q]⟩, N3.out.2.below hb⟩
  clear N3
  by_cases hv : VDt next n I X R
  case neg =>
    obtain rfl : bv = false := by
      cases bv with
      | false => rfl
      | true => exact absurd (HBV.out.1 rfl) hv
    obtain ⟨⟨m0, m1, m2, m3⟩, mo⟩ := HNO.out w3 (Below.refl _ _)
    have MO : Hid (OwnT w3 (w.heap.size + 2) a2 n I X R) := mo
    clear mo
    go_wp2
    refine bodyPost_ret (v := .agg #[.bool false, .int .i64 0, .int .i64 next, .slice a2 n c2]) (by simp [results, Try.results7, go_sem, z0, z1, z2, z3]) rfl ⟨false, 0, next, n, I, X, R, .inl ⟨.inl hv, rfl, rfl, rfl, rfl, rfl, rfl, rfl⟩, a2, c2, rfl, ?_⟩
    exact ret_set MO.out B3.out (by assumption) _ _ _ _
  case pos =>
  obtain rfl : bv = true := HBV.out.2 hv
  have HV : Hid (VDt next n I X R) := hv
  have hn12 := hv.2.1
  have hnx := nuB_bd hv.1
  clear hv HBV
  cases htx : txB x with
  | false =>
    have HNF := fits_text HV.out htx
    have HQ : Hid ((∀ i, i < n → X i ≠ x) ∧ roomB x n next = false) := ⟨HNF, by unfold roomB; rw [htx]; rfl⟩
    obtain ⟨⟨m0, m1, m2, m3⟩, mo⟩ := HNO.out w3 (Below.refl _ _)
    have MO : Hid (OwnT w3 (w.heap.size + 2) a2 n I X R) := mo
    clear mo HNF
    by_cases h1 : (x.size : Int) < 1
    · go_wp2
      refine bodyPost_ret (v := .agg #[.bool false, .int .i64 0, .int .i64 next, .slice a2 n c2]) (by simp [results, Try.results7, go_sem, z0, z1, z2, z3]) rfl ⟨false, 0, next, n, I, X, R, .inl ⟨.inr (.inr HQ.out), rfl, rfl, rfl, rfl, rfl, rfl, rfl⟩, a2, c2, rfl, ?_⟩
      exact ret_set MO.out B3.out (by assumption) _ _ _ _
    · have h2 : 30 < (x.size : Int) := by unfold txB at htx; simp at htx; omega
      go_wp2
      refine bodyPost_ret (v := .agg #[.bool false, .int .i64 0, .int .i64 next, .slice a2 n c2]) (by simp [results, Try.results7, go_sem, z0, z1, z2, z3]) rfl ⟨false, 0, next, n, I, X, R, .inl ⟨.inr (.inr HQ.out), rfl, rfl, rfl, rfl, rfl, rfl, rfl⟩, a2, c2, rfl, ?_⟩
      exact ret_set MO.out B3.out (by assumption) _ _ _ _
  | true =>
  have hx1 : ¬ (x.size : Int) < 1 := by unfold txB at htx; simp at htx; omega
  have hx2 : ¬ 30 < (x.size : Int) := by unfold txB at htx; simp at htx; omega
  go_wp2_with fail
  refine (l4ByText_any next a n c I X R x w3 (HR.out.below B3.out) hn).mono ?_
  rintro e w4 ⟨hat, hb4⟩
  have S4 : Hid (SpSt w w4 next a n c I X R bo a1 c1) := S3.out.keep hb4
  obtain ⟨mc, mo⟩ := HNO.out w4 hb4
  have MO : Hid ((w4.cell? ⟨bn, 0, none⟩ = some (.bool false) ∧ w4.cell? ⟨bn, 1, none⟩ = some (.int .i64 0) ∧ w4.cell? ⟨bn, 2, none⟩ = some (.int .i64 next) ∧ w4.cell? ⟨bn, 3, none⟩ = some (.slice a2 n c2)) ∧ OwnT w4 (w.heap.size + 2) a2 n I X R) := ⟨mc, mo⟩
  clear y0 y1 z0 z1 z2 z3 zf zz u0 u1 uf ul mc mo HNO S3 B3 hb4
  obtain ⟨⟨y0, y1⟩, ⟨z0, z1, z2, z3, zf⟩, zz, hbel⟩ := rbox S4.out.low
  obtain ⟨u0, u1, uf, ul⟩ := S4.out.cells
  have B4 : Hid (Below w.heap.size w w4) := hbel
  clear hbel
  rcases hat with ⟨i, hi, hix, rfl⟩ | ⟨hno, rfl⟩
  · rcases HR.out.below B4.out with h0 | ⟨b, o, rfl, hc⟩
    · omega
    obtain ⟨k1, k2, k3⟩ := hc i hi
    have HX : Hid (X i = x) := hix
    have hi0 : (0 : Int) ≤ (i : Int) := by omega
    clear hc hix
    by_cases hmax : R i = 2000000000
    · have HQ : Hid (R i = 2000000000) := hmax
      have hb : (R i == 2000000000) = true := by rw [hmax]; rfl
      obtain ⟨m0, m1, m2, m3⟩ := MO.out.1
      clear hmax
      go_wp2
      refine bodyPost_ret (v := .agg #[.bool false, .int .i64 0, .int .i64 next, .slice a2 n c2]) (by simp [results, Try.results7, go_sem, z0, z1, z2, z3]) rfl ⟨false, 0, next, n, I, X, R, .inl ⟨.inr (.inl ⟨i, hi, HX.out, HQ.out⟩), rfl, rfl, rfl, rfl, rfl, rfl, rfl⟩, a2, c2, rfl, ?_⟩
      exact ret_set MO.out.2 B4.out (by assumption) _ _ _ _
    · have HQ : Hid (R i ≠ 2000000000) := hmax
      have hb : (R i == 2000000000) = false := by simp [hmax]
      have hri := (HV.out.2.2 i hi).1.2.2.1
      have hrow := S4.out.row
      have hr0 := hrow
      rcases hrow with h0 | ⟨g1, rfl, hg1, hr1⟩
      · omega
      have r2 : w4.cell? ⟨g1, i * 3 + 2, none⟩ = some (.int .i64 (R i)) := by have := hr1.cell (i := i * 3 + 2) (by omega); rwa [termCell_2] at this
      have rf := hr1.frozen
      have rl := hr1.lt
      have hbg : bo ≠ g1 := fun e => by
        have q := S4.out.out
        obtain ⟨cur, hq, _⟩ := hr1
        rw [e, hq] at q
        injection q with q
        injection q with _ q2 _
        revert q2
        decide
      have S5 : Hid (SpSt w (w4.setCell ⟨g1, i * 3 + 2, none⟩ (.int .i64 (R i + 1))).drew next (some ⟨b, o, none⟩) n c I X (upd R i (R i + 1)) bo (some ⟨g1, 0, none⟩) c1) := by
        have q : Below (w.heap.size + 2) _ (w4.setCell ⟨g1, i * 3 + 2, none⟩ (.int .i64 (R i + 1))) := S4.out.low.setCell hg1 _
        exact ⟨q.drew, (Below.heap_setCell _ _ _ _ hbg).trans S4.out.out, S4.out.ge, hr0.setRef (by omega) hi _⟩
      clear hr0 hr1 hmax MO
      go_upto_region 9 with fail
      go_region
      generalize (w4.setCell ⟨g1, i * 3 + 2, none⟩ (.int .i64 (R i + 1))).drew = W5 at S5 ⊢
      have B5 : Hid (Below w.heap.size w W5) := (rbox S5.out.low).2.2.2
      clear y0 y1 z0 z1 z2 z3 zf zz u0 u1 uf ul r2 rf rl k1 k2 k3 S4 B4
      obtain ⟨⟨y0, y1⟩, ⟨z0, z1, z2, z3, zf⟩, zz, -⟩ := rbox S5.out.low
      obtain ⟨u0, u1, uf, ul⟩ := S5.out.cells
      rcases HR.out.below B5.out with h0 | ⟨b', o', hbo, hc⟩
      · omega
      injection hbo with hbo
      injection hbo with e1 e2
      subst e1 e2
      obtain ⟨k1, k2, k3⟩ := hc i hi
      clear hc
      go_upto_region 10 with fail
      go_region
      go_wp2
      refine bodyPost_ret (v := .agg #[.bool true, .int .i64 (I i), .int .i64 next, .slice (some ⟨g1, 0, none⟩) n c1]) (by simp [results, Try.results7, go_sem, z0, z1, z2, z3]) rfl ⟨true, I i, next, n, I, X, _, .inr (.inl ⟨HV.out, i, hi, HX.out, HQ.out, rfl, rfl, rfl, rfl, rfl, rfl, rfl⟩), _, c1, rfl, ?_⟩
      have q := ret_set S5.out.row B5.out (c := c1) (by assumption) (.bool true) (.int .i64 (I i)) (.int .i64 next) (.slice (some ⟨g1, 0, none⟩) n c1)
      exact ⟨q.1, q.2.1.drew, q.2.2⟩
  · have HNF : Hid (∀ i, i < n → X i ≠ x) := hno
    clear hno
    cases hroom : roomB x n next with
    | false =>
      have HQ : Hid (roomB x n next = false) := hroom
      obtain ⟨m0, m1, m2, m3⟩ := MO.out.1
      by_cases h12 : n = 1200
      · have hb : ((n : Int) == 1200) = true := by
          have e : (n : Int) = 1200 := by omega
          rw [e]
          rfl
        clear hroom h12
        go_wp2
        refine bodyPost_ret (v := .agg #[.bool false, .int .i64 0, .int .i64 next, .slice a2 n c2]) (by simp [results, Try.results7, go_sem, z0, z1, z2, z3]) rfl ⟨false, 0, next, n, I, X, R, .inl ⟨.inr (.inr ⟨HNF.out, HQ.out⟩), rfl, rfl, rfl, rfl, rfl, rfl, rfl⟩, a2, c2, rfl, ?_⟩
        exact ret_set MO.out.2 B4.out (by assumption) _ _ _ _
      · have hb : ((n : Int) == 1200) = false := by simp; omega
        have hb2 : (next == 2000000000) = true := by
          unfold roomB at hroom
          rw [htx] at hroom
          simp at hroom
          simp
          omega
        clear hroom h12
        go_wp2
        refine bodyPost_ret (v := .agg #[.bool false, .int .i64 0, .int .i64 next, .slice a2 n c2]) (by simp [results, Try.results7, go_sem, z0, z1, z2, z3]) rfl ⟨false, 0, next, n, I, X, R, .inl ⟨.inr (.inr ⟨HNF.out, HQ.out⟩), rfl, rfl, rfl, rfl, rfl, rfl, rfl⟩, a2, c2, rfl, ?_⟩
        exact ret_set MO.out.2 B4.out (by assumption) _ _ _ _
    | true =>
      have hb : ((n : Int) == 1200) = false := by unfold roomB at hroom; simp at hroom; simp; omega
      have hb2 : (next == 2000000000) = false := by unfold roomB at hroom; simp at hroom; simp; omega
      clear MO
      go_wp2
      go_loop [8] (fun i => ∃ p : Nat, p ≤ n ∧ i = .int .i64 p ∧ ∀ j, j < p → Op.bytesLess (X j).toList x.toList = true) (fun i => n - (intOf i).toNat)
      case atStart => exact ⟨0, Nat.zero_le _, rfl, fun j hj => absurd hj (Nat.not_lt_zero _)⟩
      case round =>
        obtain ⟨p, hp, rfl, hless⟩ := hrel
        have HL : Hid (∀ j, j < p → Op.bytesLess (X j).toList x.toList = true) := hless
        clear hless
        by_cases hlt : p < n
        · have HH := HR.out.below B4.out
          rcases HH with h0 | ⟨b, o, rfl, hc⟩
          · omega
          obtain ⟨k1, k2, k3⟩ := hc p hlt
          clear hc
          cases hl : Op.bytesLess (X p).toList x.toList with
          | true =>
            go_wp2
            go_round
            case rel =>
              refine ⟨p + 1, by omega, by go_num, fun j hj => ?_⟩
              by_cases e : j = p
              · subst e; exact hl
              · exact HL.out j (by omega)
            case measure => simp [intOf]; omega
          | false =>
            have HP : Hid (PosOf n X x p) := ⟨hp, HL.out, fun j hj1 hj2 => by
              have h1 := less_or (HNF.out p hlt) (by rw [hl]; simp)
              by_cases e : j = p
              · subst e; exact h1
              · exact less_trans _ _ _ h1 (HV.out.asc p j (by omega) hj2)⟩
            clear HL
            have hsl1 : ∀ W : World, (Instr.sliceAt 26 (.slice (some ⟨b, o, none⟩) n c) none (some (.int .i64 (p : Int))) none).run Try.prog W = .ok (.slice (some ⟨b, o, none⟩) p c) W := run_uptoT (some ⟨b, o, none⟩) n c p HP.out.1 hnc
            have hsl2 : ∀ W : World, (Instr.sliceAt 26 (.slice (some ⟨b, o, none⟩) n c) (some (.int .i64 (p : Int))) none none).run Try.prog W = .ok (.slice (shT (some ⟨b, o, none⟩) p c) (n - p) (c - p)) W := run_fromT (some ⟨b, o, none⟩) n c p HP.out.1 hnc
            have hpn := HP.out.1
            have zz0 : w.heap.size < w4.heap.size := by omega
            go_wp2_with (at_builtin; refine wpList_append_T rfl _ _ rfl w4.heap.size (.slice (some ⟨w4.heap.size, 0, none⟩) 0 0) 0 [] rfl (World.ownsRow_lit w4 #[] 0 (Nat.le_refl _) (Nat.zero_le _) rfl) (some ⟨b, o, none⟩) p c I X R rfl (rdT_upto ((HR.out.below B4.out).below (below_alloc _ _)) HP.out.1) (by omega) (by simp) ?_)
            intro v5 w5 ho5 hg5
            have K5 : Hid (Below w4.heap.size w4 w5) := ((below_alloc _ _).grown hg5 (by simp) (fun k e => by simp [Value.ownBlock] at e; omega))
            have O5 : Hid (w5.ownsRow w4.heap.size 51 3 v5 p (termRow I X R p)) := by
              have q : w5.ownsRow w4.heap.size 51 3 v5 (0 + p) ([] ++ termRow I X R p) := by simpa using ho5
              rw [Nat.zero_add, List.nil_append] at q
              exact q
            obtain ⟨a5, c5, hv5⟩ := ownsRow_shape O5.out
            subst hv5
            have S5 : Hid (SpSt w w5 next (some ⟨b, o, none⟩) n c I X R bo a1 c1) := S4.out.keep K5.out
            clear y0 y1 z0 z1 z2 z3 zf zz u0 u1 uf ul ho5 hg5
            obtain ⟨⟨y0, y1⟩, -, zz, -⟩ := rbox S5.out.low
            have zz5 : w.heap.size < w5.heap.size := by omega
            have hz5 := K5.out.size
            go_wp2_with (at_builtin; refine wpList_append_T rfl _ _ rfl w4.heap.size (.slice a5 p c5) p (termRow I X R p) rfl (O5.out.alloc _) (some ⟨w5.heap.size, 0, none⟩) 1 1 (fun _ => next) (fun _ => x) (fun _ => 1) rfl (term_one w5 next 1 x) (by omega) (by simp; omega) ?_)
            intro v6 w6 ho6 hg6
            have K6 : Hid (Below w4.heap.size w4 w6) := (K5.out.alloc hz5 _).grown hg6 (by simp; omega) (fun k e => (O5.out.lt k e).1)
            have O6 : Hid (w6.ownsRow w4.heap.size 51 3 v6 (p + 1) (termRow I X R p ++ termRow (fun _ => next) (fun _ => x) (fun _ => 1) 1)) := ho6
            obtain ⟨a6, c6, hv6⟩ := ownsRow_shape ho6
            subst hv6
            have S6 : Hid (SpSt w w6 next (some ⟨b, o, none⟩) n c I X R bo a1 c1) := S4.out.keep K6.out
            clear y0 y1 zz ho6 hg6 S5 O5 K5 hz5
            obtain ⟨⟨y0, y1⟩, -, zz, hbel⟩ := rbox S6.out.low
            have zz6 : w.heap.size < w6.heap.size := by omega
            have B6 : Hid (Below w.heap.size w w6) := hbel
            clear hbel
            have hz6 := K6.out.size
            go_wp2_with (at_builtin; refine wpList_append_T rfl _ _ rfl w4.heap.size (.slice a6 (p + 1) c6) (p + 1) (termRow I X R p ++ termRow (fun _ => next) (fun _ => x) (fun _ => 1) 1) rfl O6.out (shT (some ⟨b, o, none⟩) p c) (n - p) (c - p) (fun j => I (p + j)) (fun j => X (p + j)) (fun j => R (p + j)) rfl (rdT_shift c (HR.out.below B6.out) HP.out.1 hnc) (by omega) hz6 ?_)
            intro v7 w7 ho7 hg7
            have K7 : Hid (Below w4.heap.size w4 w7) := K6.out.grown hg7 hz6 (fun k e => (O6.out.lt k e).1)
            have eN : p + 1 + (n - p) = n + 1 := by omega
            have eR := insRow I X R x next hpn
            rw [List.append_assoc] at eR
            rw [eN, eR] at ho7
            rw [eN] at *
            obtain ⟨a7, c7, hv7, ho7', hcc7⟩ := ownT_ofRow ho7
            subst hv7
            have O7 : Hid (OwnT w7 w4.heap.size a7 (n + 1) (insAt I p next) (insAt X p x) (insAt R p 1)) := ho7'
            have S7 : Hid (SpSt w w7 next (some ⟨b, o, none⟩) n c I X R bo a1 c1) := S4.out.keep K7.out
            clear y0 y1 zz ho7 hg7 ho7' S6 O6 B6 hz6 eN eR
            obtain ⟨⟨y0, y1⟩, ⟨z0, z1, z2, z3, zf⟩, zz, hbel⟩ := rbox S7.out.low
            obtain ⟨u0, u1, uf, ul⟩ := S7.out.cells
            have B7 : Hid (Below w.heap.size w w7) := hbel
            have zz7 : w.heap.size < w7.heap.size := by omega
            have hbo2 := S7.out.ge
            have hbo4 : bo < w4.heap.size := S4.out.cells.2.2.2
            have nb0 : ¬ bo = w.heap.size := by omega
            have nb1 : ¬ bo = w.heap.size + 1 := by omega
            clear hbel
            go_wp2
            refine bodyPost_ret (v := .agg #[.bool true, .int .i64 next, .int .i64 (next + 1), .slice a7 (n + 1) c7]) (by simp [results, Try.results7, go_sem, z0, z1, z2, z3]) rfl ⟨true, next, next + 1, n + 1, _, _, _, .inr (.inr ⟨HV.out, HNF.out, hroom, p, HP.out, rfl, rfl, rfl, rfl, rfl, rfl, rfl⟩), a7, c7, rfl, ?_⟩
            exact ret_set (((O7.out.setOther hbo4 _).setOther hbo4 _).mono (by omega)) ((B7.out.setCell (by show w.heap.size ≤ bo; omega) _).setCell (by show w.heap.size ≤ bo; omega) _) (by assumption) _ _ _ _
        · have epn : p = n := by omega
          have HP : Hid (PosOf n X x p) := ⟨hp, HL.out, fun j hj1 hj2 => by omega⟩
          clear HL epn
          have hsl1 : ∀ W : World, (Instr.sliceAt 26 (.slice a n c) none (some (.int .i64 (p : Int))) none).run Try.prog W = .ok (.slice a p c) W := run_uptoT a n c p HP.out.1 hnc
          have hsl2 : ∀ W : World, (Instr.sliceAt 26 (.slice a n c) (some (.int .i64 (p : Int))) none none).run Try.prog W = .ok (.slice (shT a p c) (n - p) (c - p)) W := run_fromT a n c p HP.out.1 hnc
          have hpn := HP.out.1
          have zz0 : w.heap.size < w4.heap.size := by omega
          go_wp2_with (at_builtin; refine wpList_append_T rfl _ _ rfl w4.heap.size (.slice (some ⟨w4.heap.size, 0, none⟩) 0 0) 0 [] rfl (World.ownsRow_lit w4 #[] 0 (Nat.le_refl _) (Nat.zero_le _) rfl) a p c I X R rfl (rdT_upto ((HR.out.below B4.out).below (below_alloc _ _)) HP.out.1) (by omega) (by simp) ?_)
          intro v5 w5 ho5 hg5
          have K5 : Hid (Below w4.heap.size w4 w5) := ((below_alloc _ _).grown hg5 (by simp) (fun k e => by simp [Value.ownBlock] at e; omega))
          have O5 : Hid (w5.ownsRow w4.heap.size 51 3 v5 p (termRow I X R p)) := by
            have q : w5.ownsRow w4.heap.size 51 3 v5 (0 + p) ([] ++ termRow I X R p) := by simpa using ho5
            rw [Nat.zero_add, List.nil_append] at q
            exact q
          obtain ⟨a5, c5, hv5⟩ := ownsRow_shape O5.out
          subst hv5
          have S5 : Hid (SpSt w w5 next a n c I X R bo a1 c1) := S4.out.keep K5.out
          clear y0 y1 z0 z1 z2 z3 zf zz u0 u1 uf ul ho5 hg5
          obtain ⟨⟨y0, y1⟩, -, zz, -⟩ := rbox S5.out.low
          have zz5 : w.heap.size < w5.heap.size := by omega
          have hz5 := K5.out.size
          go_wp2_with (at_builtin; refine wpList_append_T rfl _ _ rfl w4.heap.size (.slice a5 p c5) p (termRow I X R p) rfl (O5.out.alloc _) (some ⟨w5.heap.size, 0, none⟩) 1 1 (fun _ => next) (fun _ => x) (fun _ => 1) rfl (term_one w5 next 1 x) (by omega) (by simp; omega) ?_)
          intro v6 w6 ho6 hg6
          have K6 : Hid (Below w4.heap.size w4 w6) := (K5.out.alloc hz5 _).grown hg6 (by simp; omega) (fun k e => (O5.out.lt k e).1)
          have O6 : Hid (w6.ownsRow w4.heap.size 51 3 v6 (p + 1) (termRow I X R p ++ termRow (fun _ => next) (fun _ => x) (fun _ => 1) 1)) := ho6
          obtain ⟨a6, c6, hv6⟩ := ownsRow_shape ho6
          subst hv6
          have S6 : Hid (SpSt w w6 next a n c I X R bo a1 c1) := S4.out.keep K6.out
          clear y0 y1 zz ho6 hg6 S5 O5 K5 hz5
          obtain ⟨⟨y0, y1⟩, -, zz, hbel⟩ := rbox S6.out.low
          have zz6 : w.heap.size < w6.heap.size := by omega
          have B6 : Hid (Below w.heap.size w w6) := hbel
          clear hbel
          have hz6 := K6.out.size
          go_wp2_with (at_builtin; refine wpList_append_T rfl _ _ rfl w4.heap.size (.slice a6 (p + 1) c6) (p + 1) (termRow I X R p ++ termRow (fun _ => next) (fun _ => x) (fun _ => 1) 1) rfl O6.out (shT a p c) (n - p) (c - p) (fun j => I (p + j)) (fun j => X (p + j)) (fun j => R (p + j)) rfl (rdT_shift c (HR.out.below B6.out) HP.out.1 hnc) (by omega) hz6 ?_)
          intro v7 w7 ho7 hg7
          have K7 : Hid (Below w4.heap.size w4 w7) := K6.out.grown hg7 hz6 (fun k e => (O6.out.lt k e).1)
          have eN : p + 1 + (n - p) = n + 1 := by omega
          have eR := insRow I X R x next hpn
          rw [List.append_assoc] at eR
          rw [eN, eR] at ho7
          rw [eN] at *
          obtain ⟨a7, c7, hv7, ho7', hcc7⟩ := ownT_ofRow ho7
          subst hv7
          have O7 : Hid (OwnT w7 w4.heap.size a7 (n + 1) (insAt I p next) (insAt X p x) (insAt R p 1)) := ho7'
          have S7 : Hid (SpSt w w7 next a n c I X R bo a1 c1) := S4.out.keep K7.out
          clear y0 y1 zz ho7 hg7 ho7' S6 O6 B6 hz6 eN eR
          obtain ⟨⟨y0, y1⟩, ⟨z0, z1, z2, z3, zf⟩, zz, hbel⟩ := rbox S7.out.low
          obtain ⟨u0, u1, uf, ul⟩ := S7.out.cells
          have B7 : Hid (Below w.heap.size w w7) := hbel
          have zz7 : w.heap.size < w7.heap.size := by omega
          have hbo2 := S7.out.ge
          have hbo4 : bo < w4.heap.size := S4.out.cells.2.2.2
          have nb0 : ¬ bo = w.heap.size := by omega
          have nb1 : ¬ bo = w.heap.size + 1 := by omega
          clear hbel
          go_wp2
          refine bodyPost_ret (v := .agg #[.bool true, .int .i64 next, .int .i64 (next + 1), .slice a7 (n + 1) c7]) (by simp [results, Try.results7, go_sem, z0, z1, z2, z3]) rfl ⟨true, next, next + 1, n + 1, _, _, _, .inr (.inr ⟨HV.out, HNF.out, hroom, p, HP.out, rfl, rfl, rfl, rfl, rfl, rfl, rfl⟩), a7, c7, rfl, ?_⟩
          exact ret_set (((O7.out.setOther hbo4 _).setOther hbo4 _).mono (by omega)) ((B7.out.setCell (by show w.heap.size ≤ bo; omega) _).setCell (by show w.heap.size ≤ bo; omega) _) (by assumption) _ _ _ _
end Go.Proofs.Ytfecgececffdoaa
