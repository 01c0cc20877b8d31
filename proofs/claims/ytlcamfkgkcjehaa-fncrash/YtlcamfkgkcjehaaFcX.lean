import Derived.Test.YtlcamfkgkcjehaaFcC
import Derived.Test.YtlcamfkgkcjehaaCrashC
import Derived.Test.YtlcamfkgkcjehaaSyncI
import Derived.Test.YtlcamfkgkcjehaaRead
import Derived.Test.YtlcamfkgkcjehaaLateQ
import Derived.Deep.CutRange
import Derived.Test.YtlcamfkgkcjehaaOpenBy
namespace Go.Proofs.Ytlcamfkgkcjehaa
open Go.RowKit Go.Deep
set_option linter.unusedVariables false
set_option maxRecDepth 100000

theorem crash_none (d S : Nat → Int) (F : Nat → Nat → Int) (K : Nat → Bool) : ∀ m, crashTo d S F K 0 m = d
  | 0 => rfl
  | m + 1 => by rw [crashTo_miss (by omega), crash_none d S F K m]
theorem crash_all (d S : Nat → Int) (F : Nat → Nat → Int) (nk : Nat) : ∀ m, m ≤ nk → crashTo d S F (fun _ => true) nk m = syncTo d S F m
  | 0, _ => rfl
  | m + 1, h => by rw [crashTo_hit (by omega) rfl, crash_all d S F nk m (by omega)]; rfl

theorem fieldDk0 (a b c d : Value) (w : World) : (Instr.field 25 (.agg #[a, b, c, d]) 0).run Try.prog w = .ok a w := by kernel_rfl

theorem step_ttw {ops : Array Oper} {o : Oper} {a : Act} {w : World} {K : Act → World → Prop} {Q : Exit → Act → World → Prop} {E : Prop} (hw : Region.wanted o (yielded ops a.tmps) = true) (k : Nat) (i j : Nat) (tys : Array TypeId)
    (ho : o.op = .call { callee := .value (.func k), args := #[.tmp i, .tmp j], argTypes := tys }) (u v : Value) (hx : a.tmps[i]?.getD undef = u) (hy : a.tmps[j]?.getD undef = v) (heg : ∀ args w, (callFunc k args).run Try.prog w = .ok (.enter k args) w)
    (h : Calls Try.prog k #[u, v] w fun e w' => ∃ r, e = .returned r ∧ K (a.put o.dst r) w') :
    if Region.wanted o (yielded ops a.tmps) = true then Oper.wp Try.prog o a w K Q else E := by
  rw [if_pos hw]
  unfold Oper.wp
  simp [execOp, ho, resolve, invoke, hx, hy, go_sem, heg]
  refine h.mono ?_
  rintro e w' ⟨u, rfl, hk⟩
  exact hk

theorem step_tw {ops : Array Oper} {o : Oper} {a : Act} {w : World} {K : Act → World → Prop} {Q : Exit → Act → World → Prop} {E : Prop} (hw : Region.wanted o (yielded ops a.tmps) = true) (k : Nat) (i : Nat) (tys : Array TypeId)
    (ho : o.op = .call { callee := .value (.func k), args := #[.tmp i], argTypes := tys }) (u : Value) (hx : a.tmps[i]?.getD undef = u) (heg : ∀ args w, (callFunc k args).run Try.prog w = .ok (.enter k args) w)
    (h : Calls Try.prog k #[u] w fun e w' => ∃ r, e = .returned r ∧ K (a.put o.dst r) w') :
    if Region.wanted o (yielded ops a.tmps) = true then Oper.wp Try.prog o a w K Q else E := by
  rw [if_pos hw]
  unfold Oper.wp
  simp [execOp, ho, resolve, invoke, hx, go_sem, heg]
  refine h.mono ?_
  rintro e w' ⟨u, rfl, hk⟩
  exact hk

/-- What the law's disk is, whatever came since. -/
structure FcD (W : World) (b3 : Nat) (a p : Option Addr) (n c m q : Nat) (d S : Nat → Int) (L : Nat → Nat) (F : Nat → Nat → Int) (fuel : Int) (dead : Bool) (ka : Option Addr) (nk : Nat) (K : Nat → Bool) : Prop where
  rd : Rd .u8 W a n d
  rp : RdP W p m S L F
  rk : RdBl W ka nk K
  box : DkRow W b3 (.slice a n c) (.slice p m q) fuel dead
theorem FcD.below {W W' : World} {b3 : Nat} {a p : Option Addr} {n c m q : Nat} {d S : Nat → Int} {L : Nat → Nat} {F : Nat → Nat → Int} {fuel : Int} {dead : Bool} {ka : Option Addr} {nk : Nat} {K : Nat → Bool} (h : FcD W b3 a p n c m q d S L F fuel dead ka nk K) (hb : Below W.heap.size W W') : FcD W' b3 a p n c m q d S L F fuel dead ka nk K :=
  ⟨h.rd.below hb, h.rp.below hb, h.rk.below hb, h.box.below hb⟩

/-- .. with the two disks that the crash leaves. -/
structure FcE (W : World) (b3 b5 b6 : Nat) (a p : Option Addr) (n c m q : Nat) (d S : Nat → Int) (L : Nat → Nat) (F : Nat → Nat → Int) (fuel : Int) (dead : Bool) (ka : Option Addr) (nk : Nat) (K : Nat → Bool) (a5 p5 a6 p6 : Option Addr) (c5 q5 c6 q6 : Nat) (X : Nat → Int) : Prop where
  base : FcD W b3 a p n c m q d S L F fuel dead ka nk K
  box5 : DkRow W b5 (.slice a5 n c5) (.slice p5 0 q5) (-1) false
  box6 : DkRow W b6 (.slice a6 n c6) (.slice p6 0 q6) (-1) false
  rd5 : Rd .u8 W a5 n X
  rd6 : Rd .u8 W a6 n X
theorem FcE.below {W W' : World} {b3 b5 b6 : Nat} {a p : Option Addr} {n c m q : Nat} {d S : Nat → Int} {L : Nat → Nat} {F : Nat → Nat → Int} {fuel : Int} {dead : Bool} {ka : Option Addr} {nk : Nat} {K : Nat → Bool} {a5 p5 a6 p6 : Option Addr} {c5 q5 c6 q6 : Nat} {X : Nat → Int} (h : FcE W b3 b5 b6 a p n c m q d S L F fuel dead ka nk K a5 p5 a6 p6 c5 q5 c6 q6 X) (hb : Below W.heap.size W W') : FcE W' b3 b5 b6 a p n c m q d S L F fuel dead ka nk K a5 p5 a6 p6 c5 q5 c6 q6 X :=
  ⟨h.base.below hb, h.box5.below hb, h.box6.below hb, h.rd5.below hb, h.rd6.below hb⟩

set_option maxHeartbeats 8000000 in
theorem fcLaw0 (a0 : Option Addr) (n0 c0 : Nat) (f0 : Nat → Int) (w : World) (ha : Rd .u8 w a0 n0 f0) (hf : ∀ i, i < n0 → 0 ≤ f0 i ∧ f0 i < 256) :
    Calls Try.prog 3 #[.slice a0 n0 c0] w fun e w' => e = .returned (.bool true) ∧ Below w.heap.size w w' := by
  have HA : Hid (Rd .u8 w a0 n0 f0 ∧ ∀ i, i < n0 → 0 ≤ f0 i ∧ f0 i < 256) := ⟨ha, hf⟩
  clear ha hf
  by_cases hbig : 1048576 < n0
  · have hb' : (1048576 : Int) < (n0 : Int) := by omega
    go_enter Try.func3, Try.ntmps3
    go_wp2
    go_ret
    exact ⟨rfl, Below.refl _ _⟩
  have hb' : ¬ (1048576 : Int) < (n0 : Int) := by omega
  go_enter Try.func3, Try.ntmps3
  go_wp2_with fail
  refine (drawDC_any a0 n0 c0 f0 w HA.out.1 (by omega) HA.out.2).mono ?_
  rintro e w1 ⟨a, p, n, c, m, q, d, S, L, F, fuel, dead, ka, nk, kc, K, rfl, h1, h2, ⟨hn, hnc, hcm, hm, hL⟩, h3, hnk, hb1⟩
  have S2 : Hid (FcD (w1.alloc (.cells #[.slice a n c, .slice p m q, .int .i64 fuel, .bool dead] 25)) w1.heap.size a p n c m q d S L F fuel dead ka nk K ∧ Below w.heap.size w (w1.alloc (.cells #[.slice a n c, .slice p m q, .int .i64 fuel, .bool dead] 25))) :=
    ⟨⟨h1.below (below_alloc _ _), h2.below (below_alloc _ _), h3.below (below_alloc _ _), rowInNew _ _ _ _ _⟩, hb1.alloc hb1.size _⟩
  have HLL : Hid (∀ i, i < m → L i ≤ 1048576) := hL
  clear h1 h2 h3 hL hb1
  go_upto_region 4 with fail
  generalize (w1.alloc (.cells #[.slice a n c, .slice p m q, .int .i64 fuel, .bool dead] 25)) = W2 at S2 ⊢
  generalize w1.heap.size = b3 at S2 ⊢
  have hm1 : m ≤ 1048576 := by omega
  obtain ⟨y0, y1, y2, y3, yf, yl⟩ := S2.out.1.box.cells
  go_wp2_with fail
  refine (specValid_any a p n c m q S L F fuel dead W2 S2.out.1.rp hn hm1).mono ?_
  rintro e w3 ⟨hans, hb3⟩
  have S3 : Hid (FcD w3 b3 a p n c m q d S L F fuel dead ka nk K ∧ Below w.heap.size w w3) := ⟨S2.out.1.below hb3, S2.out.2.trans (hb3.mono S2.out.2.size)⟩
  clear hb3 S2 y0 y1 y2 y3 yf yl
  obtain ⟨y0, y1, y2, y3, yf, yl⟩ := S3.out.1.box.cells
  by_cases hv : VD n m S L fuel
  · have he := ans_true hans hv
    subst he
    clear hans
    have HV : Hid (VD n m S L fuel) := hv
    have hVH := hv.1
    unfold VH at hVH
    clear hv
    go_wp2_with fail
    refine (implCrash_good a p ka n c m q nk kc d S L F K fuel dead w3 S3.out.1.rd S3.out.1.rp S3.out.1.rk HV.out hn hm1 hnk).mono ?_
    rintro e w4 ⟨a5, c5, p5, q5, A5, rfl, ho5, hb4, hc51, hc52⟩
    have S5 : Hid (FcD (w4.alloc (.cells #[.slice a5 n c5, .slice p5 0 q5, .int .i64 (-1), .bool false] 25)) b3 a p n c m q d S L F fuel dead ka nk K ∧ DkRow (w4.alloc (.cells #[.slice a5 n c5, .slice p5 0 q5, .int .i64 (-1), .bool false] 25)) w4.heap.size (.slice a5 n c5) (.slice p5 0 q5) (-1) false ∧ Rd .u8 (w4.alloc (.cells #[.slice a5 n c5, .slice p5 0 q5, .int .i64 (-1), .bool false] 25)) a5 n (crashTo d S F K nk m) ∧ Below w.heap.size w (w4.alloc (.cells #[.slice a5 n c5, .slice p5 0 q5, .int .i64 (-1), .bool false] 25))) := by
      have z3 := S3.out.2.size
      have z4 := hb4.size
      exact ⟨(S3.out.1.below hb4).below (below_alloc _ _), rowInNew _ _ _ _ _, ho5.data.rd.below (below_alloc _ _), (S3.out.2.trans (hb4.mono z3)).alloc (by omega) _⟩
    clear ho5 hb4 S3 y0 y1 y2 y3 yf yl
    go_upto_region 7 with fail
    generalize (w4.alloc (.cells #[.slice a5 n c5, .slice p5 0 q5, .int .i64 (-1), .bool false] 25)) = W5 at S5 ⊢
    generalize w4.heap.size = b5 at S5 ⊢
    obtain ⟨y0, y1, y2, y3, yf, yl⟩ := S5.out.1.box.cells
    go_wp2_with fail
    refine (specCrash_good a p ka n c m q nk kc d S L F K fuel dead W5 S5.out.1.rd S5.out.1.rp S5.out.1.rk HV.out hn hm1 hnk).mono ?_
    rintro e w6 ⟨a6, c6, p6, q6, A6, rfl, ho6, hb6, hc61, hc62⟩
    have S7 : Hid (FcE (w6.alloc (.cells #[.slice a6 n c6, .slice p6 0 q6, .int .i64 (-1), .bool false] 25)) b3 b5 w6.heap.size a p n c m q d S L F fuel dead ka nk K a5 p5 a6 p6 c5 q5 c6 q6 (crashTo d S F K nk m) ∧ Below w.heap.size w (w6.alloc (.cells #[.slice a6 n c6, .slice p6 0 q6, .int .i64 (-1), .bool false] 25))) := by
      have z5 := S5.out.2.2.2.size
      have z6 := hb6.size
      exact ⟨⟨(S5.out.1.below hb6).below (below_alloc _ _), (S5.out.2.1.below hb6).below (below_alloc _ _), rowInNew _ _ _ _ _, (S5.out.2.2.1.below hb6).below (below_alloc _ _), ho6.data.rd.below (below_alloc _ _)⟩, (S5.out.2.2.2.trans (hb6.mono z5)).alloc (by omega) _⟩
    clear ho6 hb6 S5 y0 y1 y2 y3 yf yl
    go_upto_region 8 with fail
    generalize (w6.alloc (.cells #[.slice a6 n c6, .slice p6 0 q6, .int .i64 (-1), .bool false] 25)) = W7 at S7 ⊢
    generalize w6.heap.size = b6 at S7 ⊢
    have HV0 : Hid (VD n 0 (fun _ => 0) (fun _ => 0) (-1)) := ⟨by unfold VH; omega, fun i hi => absurd hi (Nat.not_lt_zero _)⟩
    go_wp2
    go_loopw [7] (fun i wr => ∃ s : Nat, s ≤ n / 64 ∧ i = .int .i64 s ∧ FcE wr b3 b5 b6 a p n c m q d S L F fuel dead ka nk K a5 p5 a6 p6 c5 q5 c6 q6 (crashTo d S F K nk m) ∧ Below w.heap.size w wr) (fun i _ => n - (intOf i).toNat)
    case atStart => exact ⟨0, Nat.zero_le _, rfl, S7.out⟩
    case round =>
      obtain ⟨s, hs, rfl, hE, hB⟩ := hrel
      have SE : Hid (FcE wr b3 b5 b6 a p n c m q d S L F fuel dead ka nk K a5 p5 a6 p6 c5 q5 c6 q6 (crashTo d S F K nk m) ∧ Below w.heap.size w wr) := ⟨hE, hB⟩
      have hzw := hB.size
      clear hE hB S7
      have w64 : IntKind.i64.wrap (64 * (s : Int)) = 64 * (s : Int) := by rw [IntKind.wrap_i64]; omega
      obtain ⟨y0, y1, y2, y3, yf, yl⟩ := SE.out.1.base.box.cells
      by_cases hlt : s < n / 64
      · have i1 : 64 * (s : Int) < (n : Int) := by omega
        have i1' : decide (64 * (s : Int) < (n : Int)) = true := decide_eq_true i1
        obtain ⟨x0, x1, x2, x3, xf, xl⟩ := SE.out.1.box5.cells
        obtain ⟨u0, u1, u2, u3, uf, ul⟩ := SE.out.1.box6.cells
        have HC : Hid (∀ w8 : World, Below wr.drew.heap.size wr.drew w8 → (w8.cell? ⟨b5, 0, none⟩ = some (.slice a5 n c5) ∧ w8.cell? ⟨b5, 1, none⟩ = some (.slice p5 0 q5) ∧ w8.cell? ⟨b5, 2, none⟩ = some (.int .i64 (-1)) ∧ w8.cell? ⟨b5, 3, none⟩ = some (.bool false)) ∧ (w8.cell? ⟨b6, 0, none⟩ = some (.slice a6 n c6) ∧ w8.cell? ⟨b6, 1, none⟩ = some (.slice p6 0 q6) ∧ w8.cell? ⟨b6, 2, none⟩ = some (.int .i64 (-1)) ∧ w8.cell? ⟨b6, 3, none⟩ = some (.bool false)) ∧ FcE w8 b3 b5 b6 a p n c m q d S L F fuel dead ka nk K a5 p5 a6 p6 c5 q5 c6 q6 (crashTo d S F K nk m) ∧ Below w.heap.size w w8) := by
          intro w8 hb8
          have hb9 : Below wr.heap.size wr w8 := (Below.refl _ _).drew.trans hb8
          have e := SE.out.1.below hb9
          obtain ⟨e0, e1, e2, e3, _, _⟩ := e.box5.cells
          obtain ⟨g0, g1, g2, g3, _, _⟩ := e.box6.cells
          exact ⟨⟨e0, e1, e2, e3⟩, ⟨g0, g1, g2, g3⟩, e, SE.out.2.trans (hb9.mono hzw)⟩
        have HR5 : Hid (Rd .u8 wr.drew a5 n (crashTo d S F K nk m)) := SE.out.1.rd5
        go_upto_region 11 with fail
        go_region_held3 (fun w' => (w'.cell? ⟨b5, 0, none⟩ = some (.slice a5 n c5) ∧ w'.cell? ⟨b5, 1, none⟩ = some (.slice p5 0 q5) ∧ w'.cell? ⟨b5, 2, none⟩ = some (.int .i64 (-1)) ∧ w'.cell? ⟨b5, 3, none⟩ = some (.bool false)) ∧ (w'.cell? ⟨b6, 0, none⟩ = some (.slice a6 n c6) ∧ w'.cell? ⟨b6, 1, none⟩ = some (.slice p6 0 q6) ∧ w'.cell? ⟨b6, 2, none⟩ = some (.int .i64 (-1)) ∧ w'.cell? ⟨b6, 3, none⟩ = some (.bool false))) (go_keep)
          (first
          | (go_at_call 11; refine (implRead_good a5 p5 n c5 0 q5 (crashTo d S F K nk m) (fun _ => 0) (fun _ => 0) (fun _ _ => 0) (-1) false s wr.drew HR5.out (Or.inl rfl) HV0.out hlt hn hc51 hc52 (by omega)).mono ?_; rintro e w8 ⟨a8, c8, rfl, ho8, hb8, -, -⟩; obtain ⟨⟨x0, x1, x2, x3⟩, ⟨u0, u1, u2, u3⟩, E8, B8⟩ := HC.out w8 hb8)
          | (go_at_call 12; refine (specRead_good a6 p6 n c6 0 q6 (crashTo d S F K nk m) (fun _ => 0) (fun _ => 0) (fun _ _ => 0) (-1) false s w8 E8.rd6 (Or.inl rfl) HV0.out hlt hn hc61 hc62 (by omega)).mono ?_; rintro e w9 ⟨a9, c9, rfl, ho9, hb9, -, -⟩; obtain ⟨⟨x0, x1, x2, x3⟩, ⟨u0, u1, u2, u3⟩, E9, B9⟩ := HC.out w9 (hb8.trans (hb9.mono hb8.size)))
          | (go_at_call 10; refine (lwBytes_yes a8 a9 64 c8 c9 _ _ w9 (ho8.below hb9).rd ho9.rd (by decide) (fun _ _ => rfl)).mono ?_; rintro e w10 ⟨rfl, hw10⟩; subst hw10))
        have SN : Hid (FcE w10 b3 b5 b6 a p n c m q d S L F fuel dead ka nk K a5 p5 a6 p6 c5 q5 c6 q6 (crashTo d S F K nk m) ∧ Below w.heap.size w w10) := ⟨E9, B9⟩
        clear E8 E9 B8 B9 ho8 ho9 hb8 hb9 x0 x1 x2 x3 xf xl u0 u1 u2 u3 uf ul y0 y1 y2 y3 yf yl SE HC HR5
        go_wp2
        go_roundw
        case rel => exact ⟨s + 1, by omega, by go_num, SN.out⟩
        case measure => simp [intOf]; omega
      · have i1 : ¬ 64 * (s : Int) < (n : Int) := by omega
        have i1' : decide (64 * (s : Int) < (n : Int)) = false := decide_eq_false i1
        generalize wr = W0 at SE ⊢
        have SB : Hid (FcD W0 b3 a p n c m q d S L F fuel dead ka nk K ∧ Below w.heap.size w W0) := ⟨SE.out.1.base, SE.out.2⟩
        clear y0 y1 y2 y3 yf yl SE
        obtain ⟨y0, y1, y2, y3, yf, yl⟩ := SB.out.1.box.cells
        obtain ⟨i0, hi, hz0, hz1, hz2⟩ := info_parts Try.info4
        have HI : Hid (Try.prog.info? 4 = some i0 ∧ i0.zero = some (.bool false) ∧ i0.size = 1 ∧ i0.bytes = 1) := ⟨hi, hz0, hz1, hz2⟩
        clear hi hz0 hz1 hz2
        go_wp2
        go_loopw [8, 9] (fun u i wt => ∃ k : Nat, k ≤ m ∧ i = .int .i64 k ∧ wt.ownsRow W0.heap.size 4 1 u k (boolRow (fun _ => true) k) ∧ Below W0.heap.size W0 wt) (fun _ i _ => m - (intOf i).toNat)
        case atStart => exact ⟨0, Nat.zero_le _, rfl, World.ownsRow_lit W0 (e := 4) (size := 1) #[] 0 (Nat.le_refl _) (Nat.zero_le _) rfl, below_alloc _ _⟩
        case round =>
          obtain ⟨k, hk, rfl, hown, hbel⟩ := hrel
          have hz := hbel.size
          have S8 : Hid (FcD wr b3 a p n c m q d S L F fuel dead ka nk K ∧ Below w.heap.size w wr) := ⟨SB.out.1.below hbel, SB.out.2.trans (hbel.mono SB.out.2.size)⟩
          have HB : Hid (Below W0.heap.size W0 wr) := hbel
          have HO : Hid (wr.ownsRow W0.heap.size 4 1 u8 k (boolRow (fun _ => true) k)) := hown
          clear hbel hown y0 y1 y2 y3 yf yl
          obtain ⟨y0, y1, y2, y3, yf, yl⟩ := S8.out.1.box.cells
          by_cases hlt2 : k < m
          · have O2 : Hid ((wr.alloc (.cells #[.bool true] 4)).ownsRow W0.heap.size 4 1 u8 k (boolRow (fun _ => true) k)) := owns_below HO.out (below_alloc _ _)
            have hz9 : W0.heap.size ≤ (wr.alloc (.cells #[.bool true] 4)).heap.size := by rw [alloc_size]; omega
            have ik : (k : Int) < (m : Int) := by omega
            go_wp2_with (at_builtin; refine wpList_append_own _ rfl _ _ 26 rfl W0.heap.size 4 i0 (.bool false) 1 1 Try.underlying26 HI.out.1 HI.out.2.1 HI.out.2.2.1 HI.out.2.2.2 rfl (by decide) _ k _ rfl O2.out ⟨wr.heap.size, 0, none⟩ 1 1 [.bool true] rfl rfl (cell_one_new _ _ _) (by intro u hu; simp at hu; subst hu; rfl) (by unfold maxLen; omega) (by omega) hz9 ?_)
            intro v' w3 hown3 hgr3 _
            have HX3 : Hid (w3.ownsRow W0.heap.size 4 1 v' (k + 1) (boolRow (fun _ => true) (k + 1)) ∧ Below W0.heap.size W0 w3) := by
              have hb : Below W0.heap.size wr w3 := Below.grown ((below_alloc wr (.cells #[.bool true] 4)).mono hz) hgr3 hz9 (owns_blockGe O2.out)
              refine ⟨?_, HB.out.trans hb⟩
              have e := boolRow_succ (fun _ => true) k true
              have e2 : (fun i => if i = k then true else true) = (fun _ : Nat => true) := by funext i; simp
              rw [e2] at e
              rw [← e]
              exact hown3
            clear hown3 hgr3 O2 HO HB S8
            go_wp2
            go_roundw
            case rel => exact ⟨k + 1, by omega, by go_num, HX3.out.1, HX3.out.2⟩
            case measure => simp [intOf]; omega
          · have e : k = m := by omega
            subst e
            obtain ⟨au, cu, hvv, hbl⟩ := ownBl_ofRow HO.out
            subst hvv
            have HBL0 : Hid (OwnBl wr W0.heap.size au k (fun _ => true)) := hbl
            clear hbl HO HB y0 y1 y2 y3 yf yl
            cases dead with
            | true =>
              have HW1 : Hid (∀ O, FcD (wr.drew.alloc O) b3 a p n c k q d S L F fuel true ka nk K) := fun O => (S8.out.1.below (Below.refl _ _).drew).below (below_alloc _ _)
              have HW2 : Hid (∀ (w' w20 : World), FcD w' b3 a p n c k q d S L F fuel true ka nk K → Below w.heap.size w w' → Below w'.heap.size w' w20 → FcD w20 b3 a p n c k q d S L F fuel true ka nk K ∧ Below w.heap.size w w20 ∧ w20.cell? ⟨b3, 0, none⟩ = some (.slice a n c) ∧ w20.cell? ⟨b3, 1, none⟩ = some (.slice p k q) ∧ w20.cell? ⟨b3, 2, none⟩ = some (.int .i64 fuel) ∧ w20.cell? ⟨b3, 3, none⟩ = some (.bool true)) := by
                intro w' w20 hf hbw hb
                have e := hf.below hb
                obtain ⟨e0, e1, e2, e3, _, _⟩ := e.box.cells
                exact ⟨e, hbw.trans (hb.mono hbw.size), e0, e1, e2, e3⟩
              have HB9 : Hid (∀ O, Below w.heap.size w (wr.drew.alloc O)) := fun O => S8.out.2.drew.alloc S8.out.2.size O
              have HX9 : Hid (∀ (O : Obj) (w20 : World), Below (wr.drew.alloc O).heap.size (wr.drew.alloc O) w20 → Below wr.heap.size wr w20) := fun O w20 hb => ((Below.refl _ _).drew.alloc (Nat.le_refl _) O).trans (hb.mono (by simp))
              obtain ⟨y0, y1, y2, y3, yf, yl⟩ := S8.out.1.box.cells
              go_upto_region 18 with fail
              refine wp_region_late (S := (fun w' => w'.cell? ⟨b3, 0, none⟩ = some (.slice a n c) ∧ w'.cell? ⟨b3, 1, none⟩ = some (.slice p k q) ∧ w'.cell? ⟨b3, 2, none⟩ = some (.int .i64 fuel) ∧ w'.cell? ⟨b3, 3, none⟩ = some (.bool true))) 26 (by kernel_rfl) ?_ (fun hHeld => ?_)
              · ((try dsimp only); go_keep)
              refine late_take 0 .zero (v := ?_) (by kernel_rfl) (by kernel_rfl) (by kernel_rfl) (by kernel_rfl) (fun _ _ _ h => h) (by rfl) ?_ (by assumption) ?_
              rotate_left
              · (intro w hSw; (try dsimp only at hSw); go_simp) <;> with_reducible rfl
              simp only [Act.put, List.setIfInBounds_toArray, List.set_cons_zero, List.set_cons_succ]
              refine late_take 4 (.succ (.succ (.succ (.succ .zero)))) (v := ?_) (by kernel_rfl) (by kernel_rfl) (by kernel_rfl) (by kernel_rfl) (fun _ _ _ h => h) (by rfl) ?_ (by assumption) ?_
              rotate_left
              · (intro w hSw; (try dsimp only at hSw); go_simp) <;> with_reducible rfl
              simp only [Act.put, List.setIfInBounds_toArray, List.set_cons_zero, List.set_cons_succ]
              refine late_take 5 (.succ (.succ (.succ (.succ (.succ .zero))))) (v := ?_) (by kernel_rfl) (by kernel_rfl) (by kernel_rfl) (by kernel_rfl) (fun _ _ _ h => h) (by rfl) ?_ (by assumption) ?_
              rotate_left
              · (intro w hSw; (try dsimp only at hSw); go_simp) <;> with_reducible rfl
              simp only [Act.put, List.setIfInBounds_toArray, List.set_cons_zero, List.set_cons_succ]
              refine late_one 1 (.succ .zero) (by kernel_rfl) (fun K hK => ?_)
              go_simp
              refine hK.out _ _ ?_ (fun hHeld2 => ?_)
              · (intro _; (try dsimp only); go_keep)
              clear hK K
              replace hHeld := hHeld2 (by decide)
              clear hHeld2
              try simp only [Act.put, List.setIfInBounds_toArray, List.set_cons_zero, List.set_cons_succ]
              refine late_one 2 (.succ (.succ .zero)) (by kernel_rfl) (fun K hK => ?_)
              (refine step_ttw (by rfl) _ _ _ _ rfl (.agg #[.slice a n c, .slice p k q, .int .i64 fuel, .bool true]) (.slice (some ⟨wr.heap.size, 0, none⟩) 0 0) (by rfl) (by rfl) (enters_of Try.func7 (by kernel_rfl) rfl) ?_; refine (implCrash_good a p (some ⟨wr.heap.size, 0, none⟩) n c k q 0 0 d S L F (fun _ => true) fuel true _ (HW1.out _).rd (HW1.out _).rp (Or.inl rfl) HV.out hn hm1 (by omega)).mono ?_; rintro e w20 ⟨a20, c20, p20, q20, A20, rfl, ho20, hb20, -, -⟩; refine ⟨_, rfl, ?_⟩; have fl := fieldDk0 (.slice a20 n c20) (.slice p20 0 q20) (.int .i64 (-1)) (.bool false); obtain ⟨D20, B20, y0, y1, y2, y3⟩ := HW2.out _ w20 (HW1.out _) (HB9.out _) hb20; have X20 := HX9.out _ w20 hb20)
              refine hK.out _ _ ?_ (fun hHeld2 => ?_)
              · (intro _; (try dsimp only); go_keep)
              clear hK K
              replace hHeld := hHeld2 (by decide)
              clear hHeld2
              try simp only [Act.put, List.setIfInBounds_toArray, List.set_cons_zero, List.set_cons_succ]
              refine late_take 3 (.succ (.succ (.succ .zero))) (v := ?_) (by kernel_rfl) (by kernel_rfl) (by kernel_rfl) (by kernel_rfl) (fun _ _ _ h => h) (by rfl) ?_ (by assumption) ?_
              rotate_left
              · (intro w hSw; (try dsimp only at hSw); go_simp) <;> with_reducible rfl
              simp only [Act.put, List.setIfInBounds_toArray, List.set_cons_zero, List.set_cons_succ]
              refine late_one 6 (.succ (.succ (.succ (.succ (.succ (.succ .zero)))))) (by kernel_rfl) (fun K hK => ?_)
              (refine step_ttw (by rfl) _ _ _ _ rfl (.slice a20 n c20) (.slice a n c) (by rfl) (by rfl) (enters_of Try.func10 (by kernel_rfl) rfl) ?_; refine (lwBytes_yes a20 a n c20 c _ d w20 ho20.data.rd D20.rd (by omega) (fun i _ => by rw [crash_none])).mono ?_; clear ho20; rintro e w21 ⟨rfl, hw21⟩; subst hw21; refine ⟨_, rfl, ?_⟩)
              refine hK.out _ _ ?_ (fun hHeld2 => ?_)
              · (intro _; (try dsimp only); go_keep)
              clear hK K
              replace hHeld := hHeld2 (by decide)
              clear hHeld2
              try simp only [Act.put, List.setIfInBounds_toArray, List.set_cons_zero, List.set_cons_succ]
              refine late_take 7 (.succ (.succ (.succ (.succ (.succ (.succ (.succ .zero))))))) (v := ?_) (by kernel_rfl) (by kernel_rfl) (by kernel_rfl) (by kernel_rfl) (fun _ _ _ h => h) (by rfl) ?_ (by assumption) ?_
              rotate_left
              · (intro w hSw; (try dsimp only at hSw); go_simp) <;> with_reducible rfl
              simp only [Act.put, List.setIfInBounds_toArray, List.set_cons_zero, List.set_cons_succ]
              refine late_take 8 (.succ (.succ (.succ (.succ (.succ (.succ (.succ (.succ .zero)))))))) (v := ?_) (by kernel_rfl) (by kernel_rfl) (by kernel_rfl) (by kernel_rfl) (fun _ _ _ h => h) (by rfl) ?_ (by assumption) ?_
              rotate_left
              · (intro w hSw; (try dsimp only at hSw); go_simp) <;> with_reducible rfl
              simp only [Act.put, List.setIfInBounds_toArray, List.set_cons_zero, List.set_cons_succ]
              refine late_take 9 (.succ (.succ (.succ (.succ (.succ (.succ (.succ (.succ (.succ .zero))))))))) (v := ?_) (by kernel_rfl) (by kernel_rfl) (by kernel_rfl) (by kernel_rfl) (fun _ _ _ h => h) (by rfl) ?_ (by assumption) ?_
              rotate_left
              · (intro w hSw; (try dsimp only at hSw); go_simp) <;> with_reducible rfl
              simp only [Act.put, List.setIfInBounds_toArray, List.set_cons_zero, List.set_cons_succ]
              refine late_take 10 (.succ (.succ (.succ (.succ (.succ (.succ (.succ (.succ (.succ (.succ .zero)))))))))) (v := ?_) (by kernel_rfl) (by kernel_rfl) (by kernel_rfl) (by kernel_rfl) (fun _ _ _ h => h) (by rfl) ?_ (by assumption) ?_
              rotate_left
              · (intro w hSw; (try dsimp only at hSw); go_simp) <;> with_reducible rfl
              simp only [Act.put, List.setIfInBounds_toArray, List.set_cons_zero, List.set_cons_succ]
              refine late_skip 11 (.succ (.succ (.succ (.succ (.succ (.succ (.succ (.succ (.succ (.succ (.succ .zero))))))))))) (by kernel_rfl) (by kernel_rfl) (by kernel_rfl) (by kernel_rfl) (fun _ _ _ h => h) (by rfl) (by assumption) ?_
              simp only [Act.put, List.setIfInBounds_toArray, List.set_cons_zero, List.set_cons_succ]
              refine late_skip 12 (.succ (.succ (.succ (.succ (.succ (.succ (.succ (.succ (.succ (.succ (.succ (.succ .zero)))))))))))) (by kernel_rfl) (by kernel_rfl) (by kernel_rfl) (by kernel_rfl) (fun _ _ _ h => h) (by rfl) (by assumption) ?_
              simp only [Act.put, List.setIfInBounds_toArray, List.set_cons_zero, List.set_cons_succ]
              refine late_skip 13 (.succ (.succ (.succ (.succ (.succ (.succ (.succ (.succ (.succ (.succ (.succ (.succ (.succ .zero))))))))))))) (by kernel_rfl) (by kernel_rfl) (by kernel_rfl) (by kernel_rfl) (fun _ _ _ h => h) (by rfl) (by assumption) ?_
              simp only [Act.put, List.setIfInBounds_toArray, List.set_cons_zero, List.set_cons_succ]
              refine late_take 14 (.succ (.succ (.succ (.succ (.succ (.succ (.succ (.succ (.succ (.succ (.succ (.succ (.succ (.succ .zero)))))))))))))) (v := ?_) (by kernel_rfl) (by kernel_rfl) (by kernel_rfl) (by kernel_rfl) (fun _ _ _ h => h) (by rfl) ?_ (by assumption) ?_
              rotate_left
              · (intro w hSw; (try dsimp only at hSw); go_simp) <;> with_reducible rfl
              simp only [Act.put, List.setIfInBounds_toArray, List.set_cons_zero, List.set_cons_succ]
              refine late_take 15 (.succ (.succ (.succ (.succ (.succ (.succ (.succ (.succ (.succ (.succ (.succ (.succ (.succ (.succ (.succ .zero))))))))))))))) (v := ?_) (by kernel_rfl) (by kernel_rfl) (by kernel_rfl) (by kernel_rfl) (fun _ _ _ h => h) (by rfl) ?_ (by assumption) ?_
              rotate_left
              · (intro w hSw; (try dsimp only at hSw); go_simp) <;> with_reducible rfl
              simp only [Act.put, List.setIfInBounds_toArray, List.set_cons_zero, List.set_cons_succ]
              refine late_skip 16 (.succ (.succ (.succ (.succ (.succ (.succ (.succ (.succ (.succ (.succ (.succ (.succ (.succ (.succ (.succ (.succ .zero)))))))))))))))) (by kernel_rfl) (by kernel_rfl) (by kernel_rfl) (by kernel_rfl) (fun _ _ _ h => h) (by rfl) (by assumption) ?_
              simp only [Act.put, List.setIfInBounds_toArray, List.set_cons_zero, List.set_cons_succ]
              refine late_skip 17 (.succ (.succ (.succ (.succ (.succ (.succ (.succ (.succ (.succ (.succ (.succ (.succ (.succ (.succ (.succ (.succ (.succ .zero))))))))))))))))) (by kernel_rfl) (by kernel_rfl) (by kernel_rfl) (by kernel_rfl) (fun _ _ _ h => h) (by rfl) (by assumption) ?_
              simp only [Act.put, List.setIfInBounds_toArray, List.set_cons_zero, List.set_cons_succ]
              refine late_skip 18 (.succ (.succ (.succ (.succ (.succ (.succ (.succ (.succ (.succ (.succ (.succ (.succ (.succ (.succ (.succ (.succ (.succ (.succ .zero)))))))))))))))))) (by kernel_rfl) (by kernel_rfl) (by kernel_rfl) (by kernel_rfl) (fun _ _ _ h => h) (by rfl) (by assumption) ?_
              simp only [Act.put, List.setIfInBounds_toArray, List.set_cons_zero, List.set_cons_succ]
              refine late_skip 19 (.succ (.succ (.succ (.succ (.succ (.succ (.succ (.succ (.succ (.succ (.succ (.succ (.succ (.succ (.succ (.succ (.succ (.succ (.succ .zero))))))))))))))))))) (by kernel_rfl) (by kernel_rfl) (by kernel_rfl) (by kernel_rfl) (fun _ _ _ h => h) (by rfl) (by assumption) ?_
              simp only [Act.put, List.setIfInBounds_toArray, List.set_cons_zero, List.set_cons_succ]
              refine late_skip 20 (.succ (.succ (.succ (.succ (.succ (.succ (.succ (.succ (.succ (.succ (.succ (.succ (.succ (.succ (.succ (.succ (.succ (.succ (.succ (.succ .zero)))))))))))))))))))) (by kernel_rfl) (by kernel_rfl) (by kernel_rfl) (by kernel_rfl) (fun _ _ _ h => h) (by rfl) (by assumption) ?_
              simp only [Act.put, List.setIfInBounds_toArray, List.set_cons_zero, List.set_cons_succ]
              refine late_skip 21 (.succ (.succ (.succ (.succ (.succ (.succ (.succ (.succ (.succ (.succ (.succ (.succ (.succ (.succ (.succ (.succ (.succ (.succ (.succ (.succ (.succ .zero))))))))))))))))))))) (by kernel_rfl) (by kernel_rfl) (by kernel_rfl) (by kernel_rfl) (fun _ _ _ h => h) (by rfl) (by assumption) ?_
              simp only [Act.put, List.setIfInBounds_toArray, List.set_cons_zero, List.set_cons_succ]
              refine late_skip 22 (.succ (.succ (.succ (.succ (.succ (.succ (.succ (.succ (.succ (.succ (.succ (.succ (.succ (.succ (.succ (.succ (.succ (.succ (.succ (.succ (.succ (.succ .zero)))))))))))))))))))))) (by kernel_rfl) (by kernel_rfl) (by kernel_rfl) (by kernel_rfl) (fun _ _ _ h => h) (by rfl) (by assumption) ?_
              simp only [Act.put, List.setIfInBounds_toArray, List.set_cons_zero, List.set_cons_succ]
              refine late_skip 23 (.succ (.succ (.succ (.succ (.succ (.succ (.succ (.succ (.succ (.succ (.succ (.succ (.succ (.succ (.succ (.succ (.succ (.succ (.succ (.succ (.succ (.succ (.succ .zero))))))))))))))))))))))) (by kernel_rfl) (by kernel_rfl) (by kernel_rfl) (by kernel_rfl) (fun _ _ _ h => h) (by rfl) (by assumption) ?_
              simp only [Act.put, List.setIfInBounds_toArray, List.set_cons_zero, List.set_cons_succ]
              refine late_take 24 (.succ (.succ (.succ (.succ (.succ (.succ (.succ (.succ (.succ (.succ (.succ (.succ (.succ (.succ (.succ (.succ (.succ (.succ (.succ (.succ (.succ (.succ (.succ (.succ .zero)))))))))))))))))))))))) (v := ?_) (by kernel_rfl) (by kernel_rfl) (by kernel_rfl) (by kernel_rfl) (fun _ _ _ h => h) (by rfl) ?_ (by assumption) ?_
              rotate_left
              · (intro w hSw; (try dsimp only at hSw); go_simp) <;> with_reducible rfl
              simp only [Act.put, List.setIfInBounds_toArray, List.set_cons_zero, List.set_cons_succ]
              refine late_take 25 (.succ (.succ (.succ (.succ (.succ (.succ (.succ (.succ (.succ (.succ (.succ (.succ (.succ (.succ (.succ (.succ (.succ (.succ (.succ (.succ (.succ (.succ (.succ (.succ (.succ .zero))))))))))))))))))))))))) (v := ?_) (by kernel_rfl) (by kernel_rfl) (by kernel_rfl) (by kernel_rfl) (fun _ _ _ h => h) (by rfl) ?_ (by assumption) ?_
              rotate_left
              · (intro w hSw; (try dsimp only at hSw); go_simp) <;> with_reducible rfl
              simp only [Act.put, List.setIfInBounds_toArray, List.set_cons_zero, List.set_cons_succ]
              refine late_one 26 (.succ (.succ (.succ (.succ (.succ (.succ (.succ (.succ (.succ (.succ (.succ (.succ (.succ (.succ (.succ (.succ (.succ (.succ (.succ (.succ (.succ (.succ (.succ (.succ (.succ (.succ .zero)))))))))))))))))))))))))) (by kernel_rfl) (fun K hK => ?_)
              go_simp
              refine hK.out _ _ ?_ (fun hHeld2 => ?_)
              · (intro hne; exact absurd rfl hne)
              clear hK K hHeld2
              refine wpLate_done (by kernel_rfl) ?_ _
              have SF : Hid (Below w.heap.size w w21) := B20
              go_wp2
              go_ret
              exact ⟨rfl, SF.out⟩
            | false =>
              by_cases hf0 : fuel = 0
              · subst hf0
                have HW1 : Hid (∀ O, FcD (wr.drew.alloc O) b3 a p n c k q d S L F 0 false ka nk K) := fun O => (S8.out.1.below (Below.refl _ _).drew).below (below_alloc _ _)
                have HW2 : Hid (∀ (w' w20 : World), FcD w' b3 a p n c k q d S L F 0 false ka nk K → Below w.heap.size w w' → Below w'.heap.size w' w20 → FcD w20 b3 a p n c k q d S L F 0 false ka nk K ∧ Below w.heap.size w w20 ∧ w20.cell? ⟨b3, 0, none⟩ = some (.slice a n c) ∧ w20.cell? ⟨b3, 1, none⟩ = some (.slice p k q) ∧ w20.cell? ⟨b3, 2, none⟩ = some (.int .i64 0) ∧ w20.cell? ⟨b3, 3, none⟩ = some (.bool false)) := by
                  intro w' w20 hf hbw hb
                  have e := hf.below hb
                  obtain ⟨e0, e1, e2, e3, _, _⟩ := e.box.cells
                  exact ⟨e, hbw.trans (hb.mono hbw.size), e0, e1, e2, e3⟩
                have HB9 : Hid (∀ O, Below w.heap.size w (wr.drew.alloc O)) := fun O => S8.out.2.drew.alloc S8.out.2.size O
                have HX9 : Hid (∀ (O : Obj) (w20 : World), Below (wr.drew.alloc O).heap.size (wr.drew.alloc O) w20 → Below wr.heap.size wr w20) := fun O w20 hb => ((Below.refl _ _).drew.alloc (Nat.le_refl _) O).trans (hb.mono (by simp))
                obtain ⟨y0, y1, y2, y3, yf, yl⟩ := S8.out.1.box.cells
                go_upto_region 18 with fail
                refine wp_region_late (S := (fun w' => w'.cell? ⟨b3, 0, none⟩ = some (.slice a n c) ∧ w'.cell? ⟨b3, 1, none⟩ = some (.slice p k q) ∧ w'.cell? ⟨b3, 2, none⟩ = some (.int .i64 0) ∧ w'.cell? ⟨b3, 3, none⟩ = some (.bool false))) 26 (by kernel_rfl) ?_ (fun hHeld => ?_)
                · ((try dsimp only); go_keep)
                refine late_take 0 .zero (v := ?_) (by kernel_rfl) (by kernel_rfl) (by kernel_rfl) (by kernel_rfl) (fun _ _ _ h => h) (by rfl) ?_ (by assumption) ?_
                rotate_left
                · (intro w hSw; (try dsimp only at hSw); go_simp) <;> with_reducible rfl
                simp only [Act.put, List.setIfInBounds_toArray, List.set_cons_zero, List.set_cons_succ]
                refine late_take 4 (.succ (.succ (.succ (.succ .zero)))) (v := ?_) (by kernel_rfl) (by kernel_rfl) (by kernel_rfl) (by kernel_rfl) (fun _ _ _ h => h) (by rfl) ?_ (by assumption) ?_
                rotate_left
                · (intro w hSw; (try dsimp only at hSw); go_simp) <;> with_reducible rfl
                simp only [Act.put, List.setIfInBounds_toArray, List.set_cons_zero, List.set_cons_succ]
                refine late_take 5 (.succ (.succ (.succ (.succ (.succ .zero))))) (v := ?_) (by kernel_rfl) (by kernel_rfl) (by kernel_rfl) (by kernel_rfl) (fun _ _ _ h => h) (by rfl) ?_ (by assumption) ?_
                rotate_left
                · (intro w hSw; (try dsimp only at hSw); go_simp) <;> with_reducible rfl
                simp only [Act.put, List.setIfInBounds_toArray, List.set_cons_zero, List.set_cons_succ]
                refine late_one 1 (.succ .zero) (by kernel_rfl) (fun K hK => ?_)
                go_simp
                refine hK.out _ _ ?_ (fun hHeld2 => ?_)
                · (intro _; (try dsimp only); go_keep)
                clear hK K
                replace hHeld := hHeld2 (by decide)
                clear hHeld2
                try simp only [Act.put, List.setIfInBounds_toArray, List.set_cons_zero, List.set_cons_succ]
                refine late_one 2 (.succ (.succ .zero)) (by kernel_rfl) (fun K hK => ?_)
                (refine step_ttw (by rfl) _ _ _ _ rfl (.agg #[.slice a n c, .slice p k q, .int .i64 0, .bool false]) (.slice (some ⟨wr.heap.size, 0, none⟩) 0 0) (by rfl) (by rfl) (enters_of Try.func7 (by kernel_rfl) rfl) ?_; refine (implCrash_good a p (some ⟨wr.heap.size, 0, none⟩) n c k q 0 0 d S L F (fun _ => true) 0 false _ (HW1.out _).rd (HW1.out _).rp (Or.inl rfl) HV.out hn hm1 (by omega)).mono ?_; rintro e w20 ⟨a20, c20, p20, q20, A20, rfl, ho20, hb20, -, -⟩; refine ⟨_, rfl, ?_⟩; have fl := fieldDk0 (.slice a20 n c20) (.slice p20 0 q20) (.int .i64 (-1)) (.bool false); obtain ⟨D20, B20, y0, y1, y2, y3⟩ := HW2.out _ w20 (HW1.out _) (HB9.out _) hb20; have X20 := HX9.out _ w20 hb20)
                refine hK.out _ _ ?_ (fun hHeld2 => ?_)
                · (intro _; (try dsimp only); go_keep)
                clear hK K
                replace hHeld := hHeld2 (by decide)
                clear hHeld2
                try simp only [Act.put, List.setIfInBounds_toArray, List.set_cons_zero, List.set_cons_succ]
                refine late_take 3 (.succ (.succ (.succ .zero))) (v := ?_) (by kernel_rfl) (by kernel_rfl) (by kernel_rfl) (by kernel_rfl) (fun _ _ _ h => h) (by rfl) ?_ (by assumption) ?_
                rotate_left
                · (intro w hSw; (try dsimp only at hSw); go_simp) <;> with_reducible rfl
                simp only [Act.put, List.setIfInBounds_toArray, List.set_cons_zero, List.set_cons_succ]
                refine late_one 6 (.succ (.succ (.succ (.succ (.succ (.succ .zero)))))) (by kernel_rfl) (fun K hK => ?_)
                (refine step_ttw (by rfl) _ _ _ _ rfl (.slice a20 n c20) (.slice a n c) (by rfl) (by rfl) (enters_of Try.func10 (by kernel_rfl) rfl) ?_; refine (lwBytes_yes a20 a n c20 c _ d w20 ho20.data.rd D20.rd (by omega) (fun i _ => by rw [crash_none])).mono ?_; clear ho20; rintro e w21 ⟨rfl, hw21⟩; subst hw21; refine ⟨_, rfl, ?_⟩)
                refine hK.out _ _ ?_ (fun hHeld2 => ?_)
                · (intro _; (try dsimp only); go_keep)
                clear hK K
                replace hHeld := hHeld2 (by decide)
                clear hHeld2
                try simp only [Act.put, List.setIfInBounds_toArray, List.set_cons_zero, List.set_cons_succ]
                refine late_take 7 (.succ (.succ (.succ (.succ (.succ (.succ (.succ .zero))))))) (v := ?_) (by kernel_rfl) (by kernel_rfl) (by kernel_rfl) (by kernel_rfl) (fun _ _ _ h => h) (by rfl) ?_ (by assumption) ?_
                rotate_left
                · (intro w hSw; (try dsimp only at hSw); go_simp) <;> with_reducible rfl
                simp only [Act.put, List.setIfInBounds_toArray, List.set_cons_zero, List.set_cons_succ]
                refine late_take 8 (.succ (.succ (.succ (.succ (.succ (.succ (.succ (.succ .zero)))))))) (v := ?_) (by kernel_rfl) (by kernel_rfl) (by kernel_rfl) (by kernel_rfl) (fun _ _ _ h => h) (by rfl) ?_ (by assumption) ?_
                rotate_left
                · (intro w hSw; (try dsimp only at hSw); go_simp) <;> with_reducible rfl
                simp only [Act.put, List.setIfInBounds_toArray, List.set_cons_zero, List.set_cons_succ]
                refine late_take 9 (.succ (.succ (.succ (.succ (.succ (.succ (.succ (.succ (.succ .zero))))))))) (v := ?_) (by kernel_rfl) (by kernel_rfl) (by kernel_rfl) (by kernel_rfl) (fun _ _ _ h => h) (by rfl) ?_ (by assumption) ?_
                rotate_left
                · (intro w hSw; (try dsimp only at hSw); go_simp) <;> with_reducible rfl
                simp only [Act.put, List.setIfInBounds_toArray, List.set_cons_zero, List.set_cons_succ]
                refine late_take 10 (.succ (.succ (.succ (.succ (.succ (.succ (.succ (.succ (.succ (.succ .zero)))))))))) (v := ?_) (by kernel_rfl) (by kernel_rfl) (by kernel_rfl) (by kernel_rfl) (fun _ _ _ h => h) (by rfl) ?_ (by assumption) ?_
                rotate_left
                · (intro w hSw; (try dsimp only at hSw); go_simp) <;> with_reducible rfl
                simp only [Act.put, List.setIfInBounds_toArray, List.set_cons_zero, List.set_cons_succ]
                refine late_take 11 (.succ (.succ (.succ (.succ (.succ (.succ (.succ (.succ (.succ (.succ (.succ .zero))))))))))) (v := ?_) (by kernel_rfl) (by kernel_rfl) (by kernel_rfl) (by kernel_rfl) (fun _ _ _ h => h) (by rfl) ?_ (by assumption) ?_
                rotate_left
                · (intro w hSw; (try dsimp only at hSw); go_simp) <;> with_reducible rfl
                simp only [Act.put, List.setIfInBounds_toArray, List.set_cons_zero, List.set_cons_succ]
                refine late_take 12 (.succ (.succ (.succ (.succ (.succ (.succ (.succ (.succ (.succ (.succ (.succ (.succ .zero)))))))))))) (v := ?_) (by kernel_rfl) (by kernel_rfl) (by kernel_rfl) (by kernel_rfl) (fun _ _ _ h => h) (by rfl) ?_ (by assumption) ?_
                rotate_left
                · (intro w hSw; (try dsimp only at hSw); go_simp) <;> with_reducible rfl
                simp only [Act.put, List.setIfInBounds_toArray, List.set_cons_zero, List.set_cons_succ]
                refine late_take 13 (.succ (.succ (.succ (.succ (.succ (.succ (.succ (.succ (.succ (.succ (.succ (.succ (.succ .zero))))))))))))) (v := ?_) (by kernel_rfl) (by kernel_rfl) (by kernel_rfl) (by kernel_rfl) (fun _ _ _ h => h) (by rfl) ?_ (by assumption) ?_
                rotate_left
                · (intro w hSw; (try dsimp only at hSw); go_simp) <;> with_reducible rfl
                simp only [Act.put, List.setIfInBounds_toArray, List.set_cons_zero, List.set_cons_succ]
                refine late_take 14 (.succ (.succ (.succ (.succ (.succ (.succ (.succ (.succ (.succ (.succ (.succ (.succ (.succ (.succ .zero)))))))))))))) (v := ?_) (by kernel_rfl) (by kernel_rfl) (by kernel_rfl) (by kernel_rfl) (fun _ _ _ h => h) (by rfl) ?_ (by assumption) ?_
                rotate_left
                · (intro w hSw; (try dsimp only at hSw); go_simp) <;> with_reducible rfl
                simp only [Act.put, List.setIfInBounds_toArray, List.set_cons_zero, List.set_cons_succ]
                refine late_take 15 (.succ (.succ (.succ (.succ (.succ (.succ (.succ (.succ (.succ (.succ (.succ (.succ (.succ (.succ (.succ .zero))))))))))))))) (v := ?_) (by kernel_rfl) (by kernel_rfl) (by kernel_rfl) (by kernel_rfl) (fun _ _ _ h => h) (by rfl) ?_ (by assumption) ?_
                rotate_left
                · (intro w hSw; (try dsimp only at hSw); go_simp) <;> with_reducible rfl
                simp only [Act.put, List.setIfInBounds_toArray, List.set_cons_zero, List.set_cons_succ]
                refine late_skip 16 (.succ (.succ (.succ (.succ (.succ (.succ (.succ (.succ (.succ (.succ (.succ (.succ (.succ (.succ (.succ (.succ .zero)))))))))))))))) (by kernel_rfl) (by kernel_rfl) (by kernel_rfl) (by kernel_rfl) (fun _ _ _ h => h) (by rfl) (by assumption) ?_
                simp only [Act.put, List.setIfInBounds_toArray, List.set_cons_zero, List.set_cons_succ]
                refine late_skip 17 (.succ (.succ (.succ (.succ (.succ (.succ (.succ (.succ (.succ (.succ (.succ (.succ (.succ (.succ (.succ (.succ (.succ .zero))))))))))))))))) (by kernel_rfl) (by kernel_rfl) (by kernel_rfl) (by kernel_rfl) (fun _ _ _ h => h) (by rfl) (by assumption) ?_
                simp only [Act.put, List.setIfInBounds_toArray, List.set_cons_zero, List.set_cons_succ]
                refine late_skip 18 (.succ (.succ (.succ (.succ (.succ (.succ (.succ (.succ (.succ (.succ (.succ (.succ (.succ (.succ (.succ (.succ (.succ (.succ .zero)))))))))))))))))) (by kernel_rfl) (by kernel_rfl) (by kernel_rfl) (by kernel_rfl) (fun _ _ _ h => h) (by rfl) (by assumption) ?_
                simp only [Act.put, List.setIfInBounds_toArray, List.set_cons_zero, List.set_cons_succ]
                refine late_skip 19 (.succ (.succ (.succ (.succ (.succ (.succ (.succ (.succ (.succ (.succ (.succ (.succ (.succ (.succ (.succ (.succ (.succ (.succ (.succ .zero))))))))))))))))))) (by kernel_rfl) (by kernel_rfl) (by kernel_rfl) (by kernel_rfl) (fun _ _ _ h => h) (by rfl) (by assumption) ?_
                simp only [Act.put, List.setIfInBounds_toArray, List.set_cons_zero, List.set_cons_succ]
                refine late_skip 20 (.succ (.succ (.succ (.succ (.succ (.succ (.succ (.succ (.succ (.succ (.succ (.succ (.succ (.succ (.succ (.succ (.succ (.succ (.succ (.succ .zero)))))))))))))))))))) (by kernel_rfl) (by kernel_rfl) (by kernel_rfl) (by kernel_rfl) (fun _ _ _ h => h) (by rfl) (by assumption) ?_
                simp only [Act.put, List.setIfInBounds_toArray, List.set_cons_zero, List.set_cons_succ]
                refine late_skip 21 (.succ (.succ (.succ (.succ (.succ (.succ (.succ (.succ (.succ (.succ (.succ (.succ (.succ (.succ (.succ (.succ (.succ (.succ (.succ (.succ (.succ .zero))))))))))))))))))))) (by kernel_rfl) (by kernel_rfl) (by kernel_rfl) (by kernel_rfl) (fun _ _ _ h => h) (by rfl) (by assumption) ?_
                simp only [Act.put, List.setIfInBounds_toArray, List.set_cons_zero, List.set_cons_succ]
                refine late_skip 22 (.succ (.succ (.succ (.succ (.succ (.succ (.succ (.succ (.succ (.succ (.succ (.succ (.succ (.succ (.succ (.succ (.succ (.succ (.succ (.succ (.succ (.succ .zero)))))))))))))))))))))) (by kernel_rfl) (by kernel_rfl) (by kernel_rfl) (by kernel_rfl) (fun _ _ _ h => h) (by rfl) (by assumption) ?_
                simp only [Act.put, List.setIfInBounds_toArray, List.set_cons_zero, List.set_cons_succ]
                refine late_skip 23 (.succ (.succ (.succ (.succ (.succ (.succ (.succ (.succ (.succ (.succ (.succ (.succ (.succ (.succ (.succ (.succ (.succ (.succ (.succ (.succ (.succ (.succ (.succ .zero))))))))))))))))))))))) (by kernel_rfl) (by kernel_rfl) (by kernel_rfl) (by kernel_rfl) (fun _ _ _ h => h) (by rfl) (by assumption) ?_
                simp only [Act.put, List.setIfInBounds_toArray, List.set_cons_zero, List.set_cons_succ]
                refine late_take 24 (.succ (.succ (.succ (.succ (.succ (.succ (.succ (.succ (.succ (.succ (.succ (.succ (.succ (.succ (.succ (.succ (.succ (.succ (.succ (.succ (.succ (.succ (.succ (.succ .zero)))))))))))))))))))))))) (v := ?_) (by kernel_rfl) (by kernel_rfl) (by kernel_rfl) (by kernel_rfl) (fun _ _ _ h => h) (by rfl) ?_ (by assumption) ?_
                rotate_left
                · (intro w hSw; (try dsimp only at hSw); go_simp) <;> with_reducible rfl
                simp only [Act.put, List.setIfInBounds_toArray, List.set_cons_zero, List.set_cons_succ]
                refine late_take 25 (.succ (.succ (.succ (.succ (.succ (.succ (.succ (.succ (.succ (.succ (.succ (.succ (.succ (.succ (.succ (.succ (.succ (.succ (.succ (.succ (.succ (.succ (.succ (.succ (.succ .zero))))))))))))))))))))))))) (v := ?_) (by kernel_rfl) (by kernel_rfl) (by kernel_rfl) (by kernel_rfl) (fun _ _ _ h => h) (by rfl) ?_ (by assumption) ?_
                rotate_left
                · (intro w hSw; (try dsimp only at hSw); go_simp) <;> with_reducible rfl
                simp only [Act.put, List.setIfInBounds_toArray, List.set_cons_zero, List.set_cons_succ]
                refine late_one 26 (.succ (.succ (.succ (.succ (.succ (.succ (.succ (.succ (.succ (.succ (.succ (.succ (.succ (.succ (.succ (.succ (.succ (.succ (.succ (.succ (.succ (.succ (.succ (.succ (.succ (.succ .zero)))))))))))))))))))))))))) (by kernel_rfl) (fun K hK => ?_)
                go_simp
                refine hK.out _ _ ?_ (fun hHeld2 => ?_)
                · (intro hne; exact absurd rfl hne)
                clear hK K hHeld2
                refine wpLate_done (by kernel_rfl) ?_ _
                have SF : Hid (Below w.heap.size w w21) := B20
                go_wp2
                go_ret
                exact ⟨rfl, SF.out⟩
              · have hf0' : (fuel == 0) = false := by simpa using hf0
                have HW1 : Hid (∀ O, FcD (wr.drew.alloc O) b3 a p n c k q d S L F fuel false ka nk K) := fun O => (S8.out.1.below (Below.refl _ _).drew).below (below_alloc _ _)
                have HW2 : Hid (∀ (w' w20 : World), FcD w' b3 a p n c k q d S L F fuel false ka nk K → Below w.heap.size w w' → Below w'.heap.size w' w20 → FcD w20 b3 a p n c k q d S L F fuel false ka nk K ∧ Below w.heap.size w w20 ∧ w20.cell? ⟨b3, 0, none⟩ = some (.slice a n c) ∧ w20.cell? ⟨b3, 1, none⟩ = some (.slice p k q) ∧ w20.cell? ⟨b3, 2, none⟩ = some (.int .i64 fuel) ∧ w20.cell? ⟨b3, 3, none⟩ = some (.bool false)) := by
                  intro w' w20 hf hbw hb
                  have e := hf.below hb
                  obtain ⟨e0, e1, e2, e3, _, _⟩ := e.box.cells
                  exact ⟨e, hbw.trans (hb.mono hbw.size), e0, e1, e2, e3⟩
                have HB9 : Hid (∀ O, Below w.heap.size w (wr.drew.alloc O)) := fun O => S8.out.2.drew.alloc S8.out.2.size O
                have HX9 : Hid (∀ (O : Obj) (w20 : World), Below (wr.drew.alloc O).heap.size (wr.drew.alloc O) w20 → Below wr.heap.size wr w20) := fun O w20 hb => ((Below.refl _ _).drew.alloc (Nat.le_refl _) O).trans (hb.mono (by simp))
                obtain ⟨y0, y1, y2, y3, yf, yl⟩ := S8.out.1.box.cells
                go_upto_region 18 with fail
                refine wp_region_late (S := (fun w' => w'.cell? ⟨b3, 0, none⟩ = some (.slice a n c) ∧ w'.cell? ⟨b3, 1, none⟩ = some (.slice p k q) ∧ w'.cell? ⟨b3, 2, none⟩ = some (.int .i64 fuel) ∧ w'.cell? ⟨b3, 3, none⟩ = some (.bool false))) 26 (by kernel_rfl) ?_ (fun hHeld => ?_)
                · ((try dsimp only); go_keep)
                refine late_take 0 .zero (v := ?_) (by kernel_rfl) (by kernel_rfl) (by kernel_rfl) (by kernel_rfl) (fun _ _ _ h => h) (by rfl) ?_ (by assumption) ?_
                rotate_left
                · (intro w hSw; (try dsimp only at hSw); go_simp) <;> with_reducible rfl
                simp only [Act.put, List.setIfInBounds_toArray, List.set_cons_zero, List.set_cons_succ]
                refine late_take 4 (.succ (.succ (.succ (.succ .zero)))) (v := ?_) (by kernel_rfl) (by kernel_rfl) (by kernel_rfl) (by kernel_rfl) (fun _ _ _ h => h) (by rfl) ?_ (by assumption) ?_
                rotate_left
                · (intro w hSw; (try dsimp only at hSw); go_simp) <;> with_reducible rfl
                simp only [Act.put, List.setIfInBounds_toArray, List.set_cons_zero, List.set_cons_succ]
                refine late_take 5 (.succ (.succ (.succ (.succ (.succ .zero))))) (v := ?_) (by kernel_rfl) (by kernel_rfl) (by kernel_rfl) (by kernel_rfl) (fun _ _ _ h => h) (by rfl) ?_ (by assumption) ?_
                rotate_left
                · (intro w hSw; (try dsimp only at hSw); go_simp) <;> with_reducible rfl
                simp only [Act.put, List.setIfInBounds_toArray, List.set_cons_zero, List.set_cons_succ]
                refine late_one 1 (.succ .zero) (by kernel_rfl) (fun K hK => ?_)
                go_simp
                refine hK.out _ _ ?_ (fun hHeld2 => ?_)
                · (intro _; (try dsimp only); go_keep)
                clear hK K
                replace hHeld := hHeld2 (by decide)
                clear hHeld2
                try simp only [Act.put, List.setIfInBounds_toArray, List.set_cons_zero, List.set_cons_succ]
                refine late_one 2 (.succ (.succ .zero)) (by kernel_rfl) (fun K hK => ?_)
                (refine step_ttw (by rfl) _ _ _ _ rfl (.agg #[.slice a n c, .slice p k q, .int .i64 fuel, .bool false]) (.slice (some ⟨wr.heap.size, 0, none⟩) 0 0) (by rfl) (by rfl) (enters_of Try.func7 (by kernel_rfl) rfl) ?_; refine (implCrash_good a p (some ⟨wr.heap.size, 0, none⟩) n c k q 0 0 d S L F (fun _ => true) fuel false _ (HW1.out _).rd (HW1.out _).rp (Or.inl rfl) HV.out hn hm1 (by omega)).mono ?_; rintro e w20 ⟨a20, c20, p20, q20, A20, rfl, ho20, hb20, -, -⟩; refine ⟨_, rfl, ?_⟩; have fl := fieldDk0 (.slice a20 n c20) (.slice p20 0 q20) (.int .i64 (-1)) (.bool false); obtain ⟨D20, B20, y0, y1, y2, y3⟩ := HW2.out _ w20 (HW1.out _) (HB9.out _) hb20; have X20 := HX9.out _ w20 hb20)
                refine hK.out _ _ ?_ (fun hHeld2 => ?_)
                · (intro _; (try dsimp only); go_keep)
                clear hK K
                replace hHeld := hHeld2 (by decide)
                clear hHeld2
                try simp only [Act.put, List.setIfInBounds_toArray, List.set_cons_zero, List.set_cons_succ]
                refine late_take 3 (.succ (.succ (.succ .zero))) (v := ?_) (by kernel_rfl) (by kernel_rfl) (by kernel_rfl) (by kernel_rfl) (fun _ _ _ h => h) (by rfl) ?_ (by assumption) ?_
                rotate_left
                · (intro w hSw; (try dsimp only at hSw); go_simp) <;> with_reducible rfl
                simp only [Act.put, List.setIfInBounds_toArray, List.set_cons_zero, List.set_cons_succ]
                refine late_one 6 (.succ (.succ (.succ (.succ (.succ (.succ .zero)))))) (by kernel_rfl) (fun K hK => ?_)
                (refine step_ttw (by rfl) _ _ _ _ rfl (.slice a20 n c20) (.slice a n c) (by rfl) (by rfl) (enters_of Try.func10 (by kernel_rfl) rfl) ?_; refine (lwBytes_yes a20 a n c20 c _ d w20 ho20.data.rd D20.rd (by omega) (fun i _ => by rw [crash_none])).mono ?_; clear ho20; rintro e w21 ⟨rfl, hw21⟩; subst hw21; refine ⟨_, rfl, ?_⟩)
                refine hK.out _ _ ?_ (fun hHeld2 => ?_)
                · (intro _; (try dsimp only); go_keep)
                clear hK K
                replace hHeld := hHeld2 (by decide)
                clear hHeld2
                try simp only [Act.put, List.setIfInBounds_toArray, List.set_cons_zero, List.set_cons_succ]
                refine late_take 7 (.succ (.succ (.succ (.succ (.succ (.succ (.succ .zero))))))) (v := ?_) (by kernel_rfl) (by kernel_rfl) (by kernel_rfl) (by kernel_rfl) (fun _ _ _ h => h) (by rfl) ?_ (by assumption) ?_
                rotate_left
                · (intro w hSw; (try dsimp only at hSw); go_simp) <;> with_reducible rfl
                simp only [Act.put, List.setIfInBounds_toArray, List.set_cons_zero, List.set_cons_succ]
                refine late_take 8 (.succ (.succ (.succ (.succ (.succ (.succ (.succ (.succ .zero)))))))) (v := ?_) (by kernel_rfl) (by kernel_rfl) (by kernel_rfl) (by kernel_rfl) (fun _ _ _ h => h) (by rfl) ?_ (by assumption) ?_
                rotate_left
                · (intro w hSw; (try dsimp only at hSw); go_simp) <;> with_reducible rfl
                simp only [Act.put, List.setIfInBounds_toArray, List.set_cons_zero, List.set_cons_succ]
                refine late_take 9 (.succ (.succ (.succ (.succ (.succ (.succ (.succ (.succ (.succ .zero))))))))) (v := ?_) (by kernel_rfl) (by kernel_rfl) (by kernel_rfl) (by kernel_rfl) (fun _ _ _ h => h) (by rfl) ?_ (by assumption) ?_
                rotate_left
                · (intro w hSw; (try dsimp only at hSw); go_simp) <;> with_reducible rfl
                simp only [Act.put, List.setIfInBounds_toArray, List.set_cons_zero, List.set_cons_succ]
                refine late_take 10 (.succ (.succ (.succ (.succ (.succ (.succ (.succ (.succ (.succ (.succ .zero)))))))))) (v := ?_) (by kernel_rfl) (by kernel_rfl) (by kernel_rfl) (by kernel_rfl) (fun _ _ _ h => h) (by rfl) ?_ (by assumption) ?_
                rotate_left
                · (intro w hSw; (try dsimp only at hSw); go_simp) <;> with_reducible rfl
                simp only [Act.put, List.setIfInBounds_toArray, List.set_cons_zero, List.set_cons_succ]
                refine late_take 11 (.succ (.succ (.succ (.succ (.succ (.succ (.succ (.succ (.succ (.succ (.succ .zero))))))))))) (v := ?_) (by kernel_rfl) (by kernel_rfl) (by kernel_rfl) (by kernel_rfl) (fun _ _ _ h => h) (by rfl) ?_ (by assumption) ?_
                rotate_left
                · (intro w hSw; (try dsimp only at hSw); go_simp) <;> with_reducible rfl
                simp only [Act.put, List.setIfInBounds_toArray, List.set_cons_zero, List.set_cons_succ]
                refine late_take 12 (.succ (.succ (.succ (.succ (.succ (.succ (.succ (.succ (.succ (.succ (.succ (.succ .zero)))))))))))) (v := ?_) (by kernel_rfl) (by kernel_rfl) (by kernel_rfl) (by kernel_rfl) (fun _ _ _ h => h) (by rfl) ?_ (by assumption) ?_
                rotate_left
                · (intro w hSw; (try dsimp only at hSw); go_simp) <;> with_reducible rfl
                simp only [Act.put, List.setIfInBounds_toArray, List.set_cons_zero, List.set_cons_succ]
                refine late_take 13 (.succ (.succ (.succ (.succ (.succ (.succ (.succ (.succ (.succ (.succ (.succ (.succ (.succ .zero))))))))))))) (v := ?_) (by kernel_rfl) (by kernel_rfl) (by kernel_rfl) (by kernel_rfl) (fun _ _ _ h => h) (by rfl) ?_ (by assumption) ?_
                rotate_left
                · (intro w hSw; (try dsimp only at hSw); go_simp) <;> with_reducible rfl
                simp only [Act.put, List.setIfInBounds_toArray, List.set_cons_zero, List.set_cons_succ]
                refine late_take 14 (.succ (.succ (.succ (.succ (.succ (.succ (.succ (.succ (.succ (.succ (.succ (.succ (.succ (.succ .zero)))))))))))))) (v := ?_) (by kernel_rfl) (by kernel_rfl) (by kernel_rfl) (by kernel_rfl) (fun _ _ _ h => h) (by rfl) ?_ (by assumption) ?_
                rotate_left
                · (intro w hSw; (try dsimp only at hSw); go_simp) <;> with_reducible rfl
                simp only [Act.put, List.setIfInBounds_toArray, List.set_cons_zero, List.set_cons_succ]
                refine late_take 15 (.succ (.succ (.succ (.succ (.succ (.succ (.succ (.succ (.succ (.succ (.succ (.succ (.succ (.succ (.succ .zero))))))))))))))) (v := ?_) (by kernel_rfl) (by kernel_rfl) (by kernel_rfl) (by kernel_rfl) (fun _ _ _ h => h) (by rfl) ?_ (by assumption) ?_
                rotate_left
                · (intro w hSw; (try dsimp only at hSw); go_simp) <;> with_reducible rfl
                simp only [Act.put, List.setIfInBounds_toArray, List.set_cons_zero, List.set_cons_succ]
                refine late_take 16 (.succ (.succ (.succ (.succ (.succ (.succ (.succ (.succ (.succ (.succ (.succ (.succ (.succ (.succ (.succ (.succ .zero)))))))))))))))) (v := ?_) (by kernel_rfl) (by kernel_rfl) (by kernel_rfl) (by kernel_rfl) (fun _ _ _ h => h) (by rfl) ?_ (by assumption) ?_
                rotate_left
                · (intro w hSw; (try dsimp only at hSw); go_simp) <;> with_reducible rfl
                simp only [Act.put, List.setIfInBounds_toArray, List.set_cons_zero, List.set_cons_succ]
                refine late_take 17 (.succ (.succ (.succ (.succ (.succ (.succ (.succ (.succ (.succ (.succ (.succ (.succ (.succ (.succ (.succ (.succ (.succ .zero))))))))))))))))) (v := ?_) (by kernel_rfl) (by kernel_rfl) (by kernel_rfl) (by kernel_rfl) (fun _ _ _ h => h) (by rfl) ?_ (by assumption) ?_
                rotate_left
                · (intro w hSw; (try dsimp only at hSw); go_simp) <;> with_reducible rfl
                simp only [Act.put, List.setIfInBounds_toArray, List.set_cons_zero, List.set_cons_succ]
                refine late_take 20 (.succ (.succ (.succ (.succ (.succ (.succ (.succ (.succ (.succ (.succ (.succ (.succ (.succ (.succ (.succ (.succ (.succ (.succ (.succ (.succ .zero)))))))))))))))))))) (v := ?_) (by kernel_rfl) (by kernel_rfl) (by kernel_rfl) (by kernel_rfl) (fun _ _ _ h => h) (by rfl) ?_ (by assumption) ?_
                rotate_left
                · (intro w hSw; (try dsimp only at hSw); go_simp) <;> with_reducible rfl
                simp only [Act.put, List.setIfInBounds_toArray, List.set_cons_zero, List.set_cons_succ]
                refine late_one 18 (.succ (.succ (.succ (.succ (.succ (.succ (.succ (.succ (.succ (.succ (.succ (.succ (.succ (.succ (.succ (.succ (.succ (.succ .zero)))))))))))))))))) (by kernel_rfl) (fun K hK => ?_)
                (refine step_ttw (by rfl) _ _ _ _ rfl (.agg #[.slice a n c, .slice p k q, .int .i64 fuel, .bool false]) (.slice au k cu) (by rfl) (by rfl) (enters_of Try.func7 (by kernel_rfl) rfl) ?_; refine (implCrash_good a p au n c k q k cu d S L F (fun _ => true) fuel false w21 D20.rd D20.rp (HBL0.out.below X20).rd HV.out hn hm1 hm1).mono ?_; rintro e w22 ⟨a22, c22, p22, q22, A22, rfl, ho22, hb22, -, -⟩; refine ⟨_, rfl, ?_⟩; have fl2 := fieldDk0 (.slice a22 n c22) (.slice p22 0 q22) (.int .i64 (-1)) (.bool false); obtain ⟨D22, B22, y0, y1, y2, y3⟩ := HW2.out w21 w22 D20 B20 hb22)
                refine hK.out _ _ ?_ (fun hHeld2 => ?_)
                · (intro _; (try dsimp only); go_keep)
                clear hK K
                replace hHeld := hHeld2 (by decide)
                clear hHeld2
                try simp only [Act.put, List.setIfInBounds_toArray, List.set_cons_zero, List.set_cons_succ]
                refine late_take 19 (.succ (.succ (.succ (.succ (.succ (.succ (.succ (.succ (.succ (.succ (.succ (.succ (.succ (.succ (.succ (.succ (.succ (.succ (.succ .zero))))))))))))))))))) (v := ?_) (by kernel_rfl) (by kernel_rfl) (by kernel_rfl) (by kernel_rfl) (fun _ _ _ h => h) (by rfl) ?_ (by assumption) ?_
                rotate_left
                · (intro w hSw; (try dsimp only at hSw); go_simp) <;> with_reducible rfl
                simp only [Act.put, List.setIfInBounds_toArray, List.set_cons_zero, List.set_cons_succ]
                refine late_one 21 (.succ (.succ (.succ (.succ (.succ (.succ (.succ (.succ (.succ (.succ (.succ (.succ (.succ (.succ (.succ (.succ (.succ (.succ (.succ (.succ (.succ .zero))))))))))))))))))))) (by kernel_rfl) (fun K hK => ?_)
                (refine step_tw (by rfl) _ _ _ rfl (.agg #[.slice a n c, .slice p k q, .int .i64 fuel, .bool false]) (by rfl) (enters_of Try.func13 (by kernel_rfl) rfl) ?_; refine (implSync_good a p n c k q d S L F fuel false w22 D22.rd D22.rp HV.out hn hm1 HLL.out _ 0 _ _ _ (fuelAfter fuel) false (syncs_live w22 n k d S L F fuel hf0 (by omega) (by omega) (by omega) hn hm1 HV.out.2 (fun _ => 0) (fun _ => 0) (fun _ _ => 0))).mono ?_; rintro e w23 ⟨a23, c23, p23, q23, A23, rfl, ho23, hb23⟩; refine ⟨_, rfl, ?_⟩; have fl3 := fieldDk0 (.slice a23 n c23) (.slice p23 0 q23) (.int .i64 (fuelAfter fuel)) (.bool false); obtain ⟨D23, B23, y0, y1, y2, y3⟩ := HW2.out w22 w23 D22 B22 hb23)
                refine hK.out _ _ ?_ (fun hHeld2 => ?_)
                · (intro _; (try dsimp only); go_keep)
                clear hK K
                replace hHeld := hHeld2 (by decide)
                clear hHeld2
                try simp only [Act.put, List.setIfInBounds_toArray, List.set_cons_zero, List.set_cons_succ]
                refine late_take 22 (.succ (.succ (.succ (.succ (.succ (.succ (.succ (.succ (.succ (.succ (.succ (.succ (.succ (.succ (.succ (.succ (.succ (.succ (.succ (.succ (.succ (.succ .zero)))))))))))))))))))))) (v := ?_) (by kernel_rfl) (by kernel_rfl) (by kernel_rfl) (by kernel_rfl) (fun _ _ _ h => h) (by rfl) ?_ (by assumption) ?_
                rotate_left
                · (intro w hSw; (try dsimp only at hSw); go_simp) <;> with_reducible rfl
                simp only [Act.put, List.setIfInBounds_toArray, List.set_cons_zero, List.set_cons_succ]
                refine late_one 23 (.succ (.succ (.succ (.succ (.succ (.succ (.succ (.succ (.succ (.succ (.succ (.succ (.succ (.succ (.succ (.succ (.succ (.succ (.succ (.succ (.succ (.succ (.succ .zero))))))))))))))))))))))) (by kernel_rfl) (fun K hK => ?_)
                (refine step_ttw (by rfl) _ _ _ _ rfl (.slice a22 n c22) (.slice a23 n c23) (by rfl) (by rfl) (enters_of Try.func10 (by kernel_rfl) rfl) ?_; refine (lwBytes_yes a22 a23 n c22 c23 _ _ w23 (ho22.data.below hb23).rd ho23.data.rd (by omega) (fun i _ => by rw [crash_all d S F k k (Nat.le_refl _)])).mono ?_; rintro e w24 ⟨rfl, hw24⟩; subst hw24; refine ⟨_, rfl, ?_⟩)
                refine hK.out _ _ ?_ (fun hHeld2 => ?_)
                · (intro _; (try dsimp only); go_keep)
                clear hK K
                replace hHeld := hHeld2 (by decide)
                clear hHeld2
                try simp only [Act.put, List.setIfInBounds_toArray, List.set_cons_zero, List.set_cons_succ]
                refine late_take 24 (.succ (.succ (.succ (.succ (.succ (.succ (.succ (.succ (.succ (.succ (.succ (.succ (.succ (.succ (.succ (.succ (.succ (.succ (.succ (.succ (.succ (.succ (.succ (.succ .zero)))))))))))))))))))))))) (v := ?_) (by kernel_rfl) (by kernel_rfl) (by kernel_rfl) (by kernel_rfl) (fun _ _ _ h => h) (by rfl) ?_ (by assumption) ?_
                rotate_left
                · (intro w hSw; (try dsimp only at hSw); go_simp) <;> with_reducible rfl
                simp only [Act.put, List.setIfInBounds_toArray, List.set_cons_zero, List.set_cons_succ]
                refine late_take 25 (.succ (.succ (.succ (.succ (.succ (.succ (.succ (.succ (.succ (.succ (.succ (.succ (.succ (.succ (.succ (.succ (.succ (.succ (.succ (.succ (.succ (.succ (.succ (.succ (.succ .zero))))))))))))))))))))))))) (v := ?_) (by kernel_rfl) (by kernel_rfl) (by kernel_rfl) (by kernel_rfl) (fun _ _ _ h => h) (by rfl) ?_ (by assumption) ?_
                rotate_left
                · (intro w hSw; (try dsimp only at hSw); go_simp) <;> with_reducible rfl
                simp only [Act.put, List.setIfInBounds_toArray, List.set_cons_zero, List.set_cons_succ]
                refine late_one 26 (.succ (.succ (.succ (.succ (.succ (.succ (.succ (.succ (.succ (.succ (.succ (.succ (.succ (.succ (.succ (.succ (.succ (.succ (.succ (.succ (.succ (.succ (.succ (.succ (.succ (.succ .zero)))))))))))))))))))))))))) (by kernel_rfl) (fun K hK => ?_)
                go_simp
                refine hK.out _ _ ?_ (fun hHeld2 => ?_)
                · (intro hne; exact absurd rfl hne)
                clear hK K hHeld2
                refine wpLate_done (by kernel_rfl) ?_ _
                have SF : Hid (Below w.heap.size w w24) := B23
                go_wp2
                go_ret
                exact ⟨rfl, SF.out⟩
  · have he := ans_false hans hv
    subst he
    clear hans
    have HV : Hid (¬ VD n m S L fuel) := hv
    clear hv
    go_wp2_with fail
    refine (implCrash_bad a p ka n c m q nk kc S L F fuel dead w3 S3.out.1.rp HV.out hn hm1).mono ?_
    rintro e w4 ⟨a5, c5, p5, q5, A5, rfl, -, hb4, -⟩
    have S4 : Hid (FcD w4 b3 a p n c m q d S L F fuel dead ka nk K ∧ Below w.heap.size w w4) := ⟨S3.out.1.below hb4, S3.out.2.trans (hb4.mono S3.out.2.size)⟩
    clear hb4 S3 y0 y1 y2 y3 yf yl
    obtain ⟨y0, y1, y2, y3, yf, yl⟩ := S4.out.1.box.cells
    have fl := fieldDk0 (.slice a5 0 c5) (.slice p5 0 q5) (.int .i64 0) (.bool false)
    go_wp2_with fail
    refine (implValid_any a p n c m q S L F fuel dead w4 S4.out.1.rp hn hm1).mono ?_
    rintro e w5 ⟨hans, hb5⟩
    have he := ans_false hans HV.out
    subst he
    clear hans
    have S5 : Hid (Below w.heap.size w w5) := S4.out.2.trans (hb5.mono S4.out.2.size)
    clear hb5 S4 y0 y1 y2 y3 yf yl
    go_wp2
    go_ret
    exact ⟨rfl, S5.out⟩
end Go.Proofs.Ytlcamfkgkcjehaa

namespace Go.Proofs.Ytlcamfkgkcjehaa
open Go.RowKit Go.Deep
set_option linter.unusedVariables false
set_option maxRecDepth 100000

theorem fcLaw (v : Value) (w : World) (hv : IsBytesR w v) :
    Calls Try.prog 3 #[v] w fun e w' => e = .returned (.bool true) ∧ Below w.heap.size w w' := by
  obtain ⟨a, n0, c, f, rfl, ha, hf, hn0⟩ := hv
  exact fcLaw0 a n0 c f w ha hf
end Go.Proofs.Ytlcamfkgkcjehaa
