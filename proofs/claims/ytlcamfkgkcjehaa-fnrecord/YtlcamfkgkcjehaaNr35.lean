import Derived.Test.YtlcamfkgkcjehaaNr34
import Derived.Test.YtlcamfkgkcjehaaNr31
import Derived.Test.YtlcamfkgkcjehaaNr12
import Derived.Test.YtlcamfkgkcjehaaNr22
import Derived.Test.YtlcamfkgkcjehaaNr32
import Derived.Test.YtlcamfkgkcjehaaNr15
import Derived.Deep.CutRange
import Derived.Deep.CutBlock
import Derived.Deep.QuietTactic
import Derived.BigQuiet
import Derived.Test.YtlcamfkgkcjehaaNr2
namespace Go.Proofs.Ytlcamfkgkcjehaa
open Go.RowKit Go.Deep
set_option linter.unusedVariables false
set_option maxRecDepth 100000

/-- What the law's disk and payload are, whatever came since. -/
structure FrS (W : World) (b5 : Nat) (a p : Option Addr) (nn c' m q : Nat) (d S : Nat → Int) (L : Nat → Nat) (F : Nat → Nat → Int) (fuel : Int) (dead : Bool) (ap : Option Addr) (M : Nat) (Fp : Nat → Int) (a1 : Option Addr) (n1 : Nat) (f1 : Nat → Int) : Prop where
  box : DkRow W b5 (.slice a nn c') (.slice p m q) fuel dead
  rd : Rd .u8 W a nn d
  rp : RdP W p m S L F
  pay : Rd .u8 W ap M Fp
  more : Rd .u8 W a1 n1 f1
theorem FrS.below {W W' : World} {b5 : Nat} {a p : Option Addr} {nn c' m q : Nat} {d S : Nat → Int} {L : Nat → Nat} {F : Nat → Nat → Int} {fuel : Int} {dead : Bool} {ap : Option Addr} {M : Nat} {Fp : Nat → Int} {a1 : Option Addr} {n1 : Nat} {f1 : Nat → Int} (h : FrS W b5 a p nn c' m q d S L F fuel dead ap M Fp a1 n1 f1) (hb : Below W.heap.size W W') : FrS W' b5 a p nn c' m q d S L F fuel dead ap M Fp a1 n1 f1 :=
  ⟨h.box.below hb, h.rd.below hb, h.rp.below hb, h.pay.below hb, h.more.below hb⟩
/-- How many sectors the payload takes, none being 0. -/
def kOf (M : Nat) : Nat := if M ≤ 30000 then cntOf M else 0
theorem specRS (M : Nat) (hM : M ≤ 30001) (w : World) : Calls Try.prog 16 #[.int .i64 M] w fun e w' => e = .returned (.int .i64 (kOf M)) ∧ w' = w := by
  unfold kOf
  by_cases h : M ≤ 30000
  · rw [if_pos h]
    exact specRecS M h w
  · rw [if_neg h]
    exact specRecS_big (M : Int) (by omega) w

/-- A disk boxed, behind a crash. -/
def CB (W0 wx : World) (s : Value) (nn : Nat) (dc : Nat → Int) : Prop :=
  ∃ (bo : Nat) (ac : Option Addr) (cc : Nat) (pc : Option Addr) (qc : Nat), s = .pointer (some ⟨bo, 0, none⟩) ∧ DkRow wx bo (.slice ac nn cc) (.slice pc 0 qc) (-1) false ∧ Rd .u8 wx ac nn dc ∧ nn ≤ cc ∧ cc ≤ 9223372036854775807 ∧ Below W0.heap.size W0 wx
theorem cb_new {W0 w : World} {B nn cc qc : Nat} {ac pc : Option Addr} {dc : Nat → Int} (ho : OwnB w B ac nn dc) (h1 : nn ≤ cc) (h2 : cc ≤ 9223372036854775807) (hb : Below W0.heap.size W0 w) :
    CB W0 (w.alloc (.cells #[.slice ac nn cc, .slice pc 0 qc, .int .i64 (-1), .bool false] 25)) (.pointer (some ⟨w.heap.size, 0, none⟩)) nn dc :=
  ⟨_, ac, cc, pc, qc, rfl, rowInNew _ _ _ _ _, (ho.below (below_alloc _ _)).rd, h1, h2, hb.alloc hb.size _⟩
theorem cb_set {W0 w : World} {B nn cc qc bo : Nat} {ac pc : Option Addr} {dc : Nat → Int} {u0 u1 : Value} {f0 : Int} {e0 : Bool} (ho : OwnB w B ac nn dc) (h1 : nn ≤ cc) (h2 : cc ≤ 9223372036854775807) (hk : DkRow w bo u0 u1 f0 e0) (hlo : W0.heap.size ≤ bo) (hb : Below W0.heap.size W0 w) :
    CB W0 ((((w.setCell ⟨bo, 0, none⟩ (.slice ac nn cc)).setCell ⟨bo, 1, none⟩ (.slice pc 0 qc)).setCell ⟨bo, 2, none⟩ (.int .i64 (-1))).setCell ⟨bo, 3, none⟩ (.bool false)) (.pointer (some ⟨bo, 0, none⟩)) nn dc := by
  have hon : OnlyAt (some ⟨bo, 0, none⟩) w ((((w.setCell ⟨bo, 0, none⟩ (.slice ac nn cc)).setCell ⟨bo, 1, none⟩ (.slice pc 0 qc)).setCell ⟨bo, 2, none⟩ (.int .i64 (-1))).setCell ⟨bo, 3, none⟩ (.bool false)) := ((((OnlyAt.refl _ _).setCell 0 _).setCell 1 _).setCell 2 _).setCell 3 _
  exact ⟨bo, ac, cc, pc, qc, rfl, dk_set4 hk, (ho.onlyDk hk hon).rd, h1, h2, hb.trans (hon.below (fun x e => by injection e with e; subst e; exact hlo))⟩
theorem cb_late {W0 w : World} {B nn cc qc : Nat} {ac pc : Option Addr} {dc : Nat → Int} (ho : OwnB w B ac nn dc) (h1 : nn ≤ cc) (h2 : cc ≤ 9223372036854775807) (hb : Below W0.heap.size W0 w) :
    CB W0 (((((w.alloc (.cells #[.slice none 0 0, .slice none 0 0, .int .i64 0, .bool false] 25)).setCell ⟨w.heap.size, 0, none⟩ (.slice ac nn cc)).setCell ⟨w.heap.size, 1, none⟩ (.slice pc 0 qc)).setCell ⟨w.heap.size, 2, none⟩ (.int .i64 (-1))).setCell ⟨w.heap.size, 3, none⟩ (.bool false)) (.pointer (some ⟨w.heap.size, 0, none⟩)) nn dc :=
  cb_set (ho.below (below_alloc _ _)) h1 h2 (rowInNew w _ _ _ _) hb.size (hb.alloc hb.size _)
/-- What the law has behind the crash. -/
structure FrT (W : World) (b5 : Nat) (a p : Option Addr) (nn c' m q : Nat) (d S : Nat → Int) (L : Nat → Nat) (F : Nat → Nat → Int) (fuel : Int) (dead : Bool) (ap : Option Addr) (M : Nat) (Fp : Nat → Int) (a1 : Option Addr) (n1 : Nat) (f1 : Nat → Int) (b6 b7 b8 : Nat) (v0 v1 v2 v3 : Value) (uf : Int) (ud : Bool) (ac : Option Addr) (cc : Nat) (pc : Option Addr) (qc : Nat) (dc : Nat → Int) : Prop where
  s : FrS W b5 a p nn c' m q d S L F fuel dead ap M Fp a1 n1 f1
  m : DkRow W b6 v0 v1 uf ud
  e : DkRow W b7 v2 v3 uf ud
  c : DkRow W b8 (.slice ac nn cc) (.slice pc 0 qc) (-1) false
  rc : Rd .u8 W ac nn dc
theorem FrT.below {W W' : World} {b5 : Nat} {a p : Option Addr} {nn c' m q : Nat} {d S : Nat → Int} {L : Nat → Nat} {F : Nat → Nat → Int} {fuel : Int} {dead : Bool} {ap : Option Addr} {M : Nat} {Fp : Nat → Int} {a1 : Option Addr} {n1 : Nat} {f1 : Nat → Int} {b6 b7 b8 : Nat} {v0 v1 v2 v3 : Value} {uf : Int} {ud : Bool} {ac : Option Addr} {cc : Nat} {pc : Option Addr} {qc : Nat} {dc : Nat → Int} (h : FrT W b5 a p nn c' m q d S L F fuel dead ap M Fp a1 n1 f1 b6 b7 b8 v0 v1 v2 v3 uf ud ac cc pc qc dc) (hb : Below W.heap.size W W') : FrT W' b5 a p nn c' m q d S L F fuel dead ap M Fp a1 n1 f1 b6 b7 b8 v0 v1 v2 v3 uf ud ac cc pc qc dc :=
  ⟨h.s.below hb, h.m.below hb, h.e.below hb, h.c.below hb, h.rc.below hb⟩
theorem step_ttr {ops : Array Oper} {o : Oper} {a : Act} {w : World} {K : Act → World → Prop} {Q : Exit → Act → World → Prop} {E : Prop} (hw : Region.wanted o (yielded ops a.tmps) = true) (k : Nat) (i j : Nat) (tys : Array TypeId)
    (ho : o.op = .call { callee := .value (.func k), args := #[.tmp i, .tmp j], argTypes := tys }) (u v : Value) (hx : a.tmps[i]?.getD undef = u) (hy : a.tmps[j]?.getD undef = v) (heg : ∀ args w, (callFunc k args).run Try.prog w = .ok (.enter k args) w)
    (h : Calls Try.prog k #[u, v] w fun e w' => ∃ r, e = .returned r ∧ K (a.put o.dst r) w') :
    if Region.wanted o (yielded ops a.tmps) = true then Oper.wp Try.prog o a w K Q else E := by
  rw [if_pos hw]
  unfold Oper.wp
  simp [execOp, ho, resolve, invoke, hx, hy, go_sem, heg]
  refine h.mono ?_
  rintro e w' ⟨u, rfl, hk⟩
  exact hk
set_option maxHeartbeats 8000000 in
theorem frLaw0 (a0 : Option Addr) (n0 c0 : Nat) (f0 : Nat → Int) (a1 : Option Addr) (n1 c1 : Nat) (f1 : Nat → Int) (w : World) (ha : Rd .u8 w a0 n0 f0) (hf0 : ∀ i, i < n0 → 0 ≤ f0 i ∧ f0 i < 256) (h1 : Rd .u8 w a1 n1 f1) (hf1 : ∀ i, i < n1 → 0 ≤ f1 i ∧ f1 i < 256) :
    Calls Try.prog 4 #[.slice a0 n0 c0, .slice a1 n1 c1] w fun e w' => e = .returned (.bool true) ∧ Below w.heap.size w w' := by
  have HR0 : Hid (Rd .u8 w a0 n0 f0 ∧ ∀ i, i < n0 → 0 ≤ f0 i ∧ f0 i < 256) := ⟨ha, hf0⟩
  have HR1 : Hid (Rd .u8 w a1 n1 f1 ∧ ∀ i, i < n1 → 0 ≤ f1 i ∧ f1 i < 256) := ⟨h1, hf1⟩
  clear ha hf0 h1 hf1
  by_cases hb0 : 1048576 < (n0 : Int)
  · go_enter Try.func4, Try.ntmps4
    go_wp2
    go_ret
    exact ⟨rfl, Below.refl _ _⟩
  by_cases hb1 : 1048576 < (n1 : Int)
  · go_enter Try.func4, Try.ntmps4
    go_wp2
    go_ret
    exact ⟨rfl, Below.refl _ _⟩
  go_enter Try.func4, Try.ntmps4
  go_wp2_with fail
  refine (drawWR_any a0 n0 c0 f0 w HR0.out.1 (by omega) HR0.out.2).mono ?_
  rintro e w1 ⟨a, p, nn, c', m, q, d, S, L, F, fuel, dead, at_, sq, ap, M, cp, Fp, rfl, hd1, hd2, ⟨hn, hnc, hcm, hm4, hL, hrg⟩, hp1, hp2, hM, hcp, hcpm, hat, hsq, hbw⟩
  have HL : Hid (∀ i, i < m → L i ≤ 1048576) := hL
  have HRG : Hid ((∀ j, 0 ≤ d j ∧ d j < 256) ∧ ∀ j, 0 ≤ Fp j ∧ Fp j < 256) := ⟨hrg, hp2⟩
  have S1 : Hid (FrS (w1.alloc (.cells #[.slice a nn c', .slice p m q, .int .i64 fuel, .bool dead] 25)) w1.heap.size a p nn c' m q d S L F fuel dead ap M Fp a1 n1 f1 ∧ Below w.heap.size w (w1.alloc (.cells #[.slice a nn c', .slice p m q, .int .i64 fuel, .bool dead] 25))) :=
    ⟨⟨rowInNew _ _ _ _ _, hd1.below (below_alloc _ _), hd2.below (below_alloc _ _), hp1.below (below_alloc _ _), (HR1.out.1.below hbw).below (below_alloc _ _)⟩, hbw.alloc hbw.size _⟩
  clear hd1 hd2 hp1 hp2 hL hrg hbw
  obtain ⟨W1, hW1⟩ : ∃ W1, W1 = w1.alloc (.cells #[.slice a nn c', .slice p m q, .int .i64 fuel, .bool dead] 25) := ⟨_, rfl⟩
  obtain ⟨b5, hb5⟩ : ∃ b5, b5 = w1.heap.size := ⟨_, rfl⟩
  rw [← hW1, ← hb5] at S1
  go_upto_region 4 with fail
  rw [← hW1, ← hb5]
  clear hW1 hb5
  obtain ⟨x0, x1, x2, x3, xf, xl⟩ := S1.out.1.box.cells
  go_wp2_with fail
  refine (specValid_any a p nn c' m q S L F fuel dead W1 S1.out.1.rp hn (by omega)).mono ?_
  rintro e w2 ⟨hans, hb2⟩
  have S2 : Hid (FrS w2 b5 a p nn c' m q d S L F fuel dead ap M Fp a1 n1 f1 ∧ Below w.heap.size w w2) := ⟨S1.out.1.below hb2, S1.out.2.trans (hb2.mono S1.out.2.size)⟩
  clear hb2 S1 x0 x1 x2 x3 xf xl
  by_cases hv : VD nn m S L fuel
  case neg =>
    have he := ans_false hans hv
    subst he
    clear hans
    go_wp2
    go_ret
    exact ⟨rfl, S2.out.2⟩
  have he := ans_true hans hv
  subst he
  clear hans
  have HV : Hid (VD nn m S L fuel) := hv
  have hVH := hv.1
  unfold VH at hVH
  clear hv
  obtain ⟨x0, x1, x2, x3, xf, xl⟩ := S2.out.1.box.cells
  by_cases hm0 : m = 0
  case neg =>
    have hmp : (0 : Int) < (m : Int) := by omega
    clear hm0
    go_wp2
    go_ret
    exact ⟨rfl, S2.out.2⟩
  subst hm0
  have hrr : ∀ s i, i < 64 → 0 ≤ secF d S F 0 s i ∧ secF d S F 0 s i < 256 := fun s i _ => HRG.out.1 _
  have HRR : Hid (∀ s i, i < 64 → 0 ≤ secF d S F 0 s i ∧ secF d S F 0 s i < 256) := hrr
  clear hrr
  have HRD : Hid (Calls Try.prog 15 #[.agg #[.slice a nn c', .slice p 0 q, .int .i64 fuel, .bool dead], .int .i64 at_, .int .i64 sq] w2 fun e w' => ∃ ok v1 v2, e = .returned (.agg #[.bool ok, v1, v2]) ∧ Below w2.heap.size w2 w' ∧ (ok = false → ∀ A : Nat, at_ = (A : Int) → A < nn / 64 → numB sq = true → ¬ recOk (fun i j => d ((A + i) * 64 + j)) ((nn : Int) / 64 - A) sq)) := by
    by_cases hin : numB sq = true ∧ 0 ≤ at_ ∧ at_ < (nn : Int) / 64
    · obtain ⟨A, hA⟩ : ∃ A : Nat, at_ = (A : Int) := ⟨at_.toNat, by omega⟩
      subst hA
      refine (specReadRec_in a p nn c' 0 q d S L F fuel dead A sq w2 S2.out.1.rd S2.out.1.rp HV.out hin.1 (by omega) hn hnc hcm (by omega) HRR.out).mono ?_
      rintro e w' ⟨hb, ⟨h1, a', c'', rfl, _⟩ | ⟨h1, rfl⟩⟩
      · exact ⟨true, _, _, rfl, hb, fun q => by cases q⟩
      · refine ⟨false, _, _, rfl, hb, fun _ A' eA _ _ => ?_⟩
        have : A' = A := by omega
        subst this
        exact h1
    · refine (specReadRec_no a p nn c' 0 q S L F fuel dead at_ sq w2 S2.out.1.rp hn (by omega) (fun k => hin k.2)).mono ?_
      rintro e w' ⟨rfl, hb⟩
      exact ⟨false, _, _, rfl, hb, fun _ A eA h1 h2 => absurd ⟨h2, by omega, by omega⟩ hin⟩
  go_wp2_with fail
  refine HRD.out.mono ?_
  rintro e w3 ⟨ok, v1, v2, rfl, hb3, hno⟩
  have S3 : Hid (FrS w3 b5 a p nn c' 0 q d S L F fuel dead ap M Fp a1 n1 f1 ∧ Below w.heap.size w w3) := ⟨S2.out.1.below hb3, S2.out.2.trans (hb3.mono S2.out.2.size)⟩
  clear hb3 S2 x0 x1 x2 x3 xf xl HRD
  have fl : ∀ (v0 v1 v2 : Value) (W : World), (Instr.field 38 (.agg #[v0, v1, v2]) 0).run Try.prog W = .ok v0 W := fun v0 v1 v2 W => by kernel_rfl
  cases ok with
  | true =>
    clear hno
    go_wp2
    go_ret
    exact ⟨rfl, S3.out.2⟩
  | false =>
  have HNO : Hid (∀ A : Nat, at_ = (A : Int) → A < nn / 64 → numB sq = true → ¬ recOk (fun i j => d ((A + i) * 64 + j)) ((nn : Int) / 64 - A) sq) := hno rfl
  clear hno
  have hwM : IntKind.i64.wrap (M : Int) = (M : Int) := by rw [IntKind.wrap_i64]; omega
  go_wp2_with fail
  refine (specRS M hM w3).mono ?_
  rintro e w4 ⟨rfl, hw4⟩
  subst hw4
  clear fl
  obtain ⟨KK, hKK⟩ : ∃ KK, KK = kOf M := ⟨_, rfl⟩
  rw [← hKK]
  have HK : Hid (KK = kOf M) := hKK
  have hK6 : KK ≤ 625 := by rw [hKK]; unfold kOf; split; (· exact cntOf_le (by assumption)); (· omega)
  clear hKK
  obtain ⟨u, hok, hu, hsw, hiw⟩ := rec_both (t := ⟨d, 0, S, L, F, fuel, dead⟩) HV.out at_ sq Fp hM HRG.out.2
  have HU : Hid (u.ok nn ∧ ((¬ Wr nn M at_ sq ∧ u = ⟨d, 0, S, L, F, fuel, dead⟩) ∨ (Wr nn M at_ sq ∧ ∃ last, cntOf M = last + 1 ∧ u = Stt.recd at_ (secW M sq Fp) last ⟨d, 0, S, L, F, fuel, dead⟩))) := ⟨hok, hu⟩
  have HSW : Hid (∀ (W : World) (a p ad : Option Addr) (c q cp : Nat), M ≤ cp → cp ≤ 9223372036854775807 → Rd .u8 W a nn d → RdP W p 0 S L F → Rd .u8 W ad M Fp → Calls Try.prog 17 #[.agg #[.slice a nn c, .slice p 0 q, .int .i64 fuel, .bool dead], .int .i64 at_, .int .i64 sq, .slice ad M cp] W fun e w' => RetD W e w' nn u.d u.m u.S u.L u.F u.fuel u.dead) := hsw
  have HIW : Hid (∀ (W : World) (a p ad : Option Addr) (c q cp : Nat), M ≤ cp → cp ≤ 9223372036854775807 → Rd .u8 W a nn d → RdP W p 0 S L F → Rd .u8 W ad M Fp → Calls Try.prog 18 #[.agg #[.slice a nn c, .slice p 0 q, .int .i64 fuel, .bool dead], .int .i64 at_, .int .i64 sq, .slice ad M cp] W fun e w' => RetD W e w' nn u.d u.m u.S u.L u.F u.fuel u.dead) := hiw
  clear hok hu hsw hiw
  obtain ⟨wv, hwv⟩ : ∃ wv : Bool, wv = true ↔ Wr nn M at_ sq := by
    by_cases h : Wr nn M at_ sq
    · exact ⟨true, ⟨fun _ => h, fun _ => rfl⟩⟩
    · exact ⟨false, ⟨(fun e => by cases e), fun e => absurd e h⟩⟩
  have HWV : Hid (wv = true ↔ Wr nn M at_ sq) := hwv
  clear hwv
  obtain ⟨x0, x1, x2, x3, xf, xl⟩ := S3.out.1.box.cells
  have hga : (0 : Int) ≤ at_ := hat.1
  by_cases hp1 : 2000 < at_
  · have g1 : ¬ at_ ≤ (2000 : Int) := by omega
    have HLAST : Hid (Wr nn M at_ sq → ∀ A : Nat, at_ = (A : Int) → getN (fun j => d ((A + cntOf M - 1) * 64 + j)) 0 4 ≠ sq) := fun h => by
      exfalso
      have h2 := h.2.2.2
      omega
    have HNW : Hid (wv = false) := by
      cases hb : wv with
      | false => rfl
      | true => exact absurd (HWV.out.1 hb) (fun h => by have h2 := h.2.2.2; omega)
    go_upto_region 11 with fail
    obtain ⟨w5, hw5⟩ : ∃ w5, w5 = w4 := ⟨_, rfl⟩
    rw [← hw5] at S3 x0 x1 x2 x3 xf xl ⊢
    clear hw5
    have S5 := S3
    clear S3
    go_wp2_with fail
    refine (HSW.out w5 a p ap c' q cp hcp hcpm S5.out.1.rd S5.out.1.rp S5.out.1.pay).mono ?_
    rintro e w6 ⟨a6, c6, p6, q6, A6, rfl, ho6, hb6⟩
    have S6 : Hid (FrS (w6.alloc (.cells #[.slice a6 nn c6, .slice p6 u.m q6, .int .i64 u.fuel, .bool u.dead] 25)) b5 a p nn c' 0 q d S L F fuel dead ap M Fp a1 n1 f1 ∧ DkRow (w6.alloc (.cells #[.slice a6 nn c6, .slice p6 u.m q6, .int .i64 u.fuel, .bool u.dead] 25)) w6.heap.size (.slice a6 nn c6) (.slice p6 u.m q6) u.fuel u.dead ∧ Below w.heap.size w (w6.alloc (.cells #[.slice a6 nn c6, .slice p6 u.m q6, .int .i64 u.fuel, .bool u.dead] 25))) := by
      have hb : Below w.heap.size w w6 := S5.out.2.trans (hb6.mono S5.out.2.size)
      exact ⟨(S5.out.1.below hb6).below (below_alloc _ _), rowInNew _ _ _ _ _, hb.alloc hb.size _⟩
    clear ho6 hb6 S5 x0 x1 x2 x3 xf xl
    go_upto_region 12 with fail
    generalize (w6.alloc (.cells #[.slice a6 nn c6, .slice p6 u.m q6, .int .i64 u.fuel, .bool u.dead] 25)) = W6 at S6 ⊢
    generalize w6.heap.size = b6 at S6 ⊢
    obtain ⟨x0, x1, x2, x3, xf, xl⟩ := S6.out.1.box.cells
    go_wp2_with fail
    refine (HIW.out W6 a p ap c' q cp hcp hcpm S6.out.1.rd S6.out.1.rp S6.out.1.pay).mono ?_
    rintro e w7 ⟨a7, c7, p7, q7, A7, rfl, ho7, hb7⟩
    have S7 : Hid ((FrS (w7.alloc (.cells #[.slice a7 nn c7, .slice p7 u.m q7, .int .i64 u.fuel, .bool u.dead] 25)) b5 a p nn c' 0 q d S L F fuel dead ap M Fp a1 n1 f1 ∧ DkRow (w7.alloc (.cells #[.slice a7 nn c7, .slice p7 u.m q7, .int .i64 u.fuel, .bool u.dead] 25)) b6 (.slice a6 nn c6) (.slice p6 u.m q6) u.fuel u.dead ∧ DkRow (w7.alloc (.cells #[.slice a7 nn c7, .slice p7 u.m q7, .int .i64 u.fuel, .bool u.dead] 25)) w7.heap.size (.slice a7 nn c7) (.slice p7 u.m q7) u.fuel u.dead) ∧ (Rd .u8 (w7.alloc (.cells #[.slice a7 nn c7, .slice p7 u.m q7, .int .i64 u.fuel, .bool u.dead] 25)) a7 nn u.d ∧ RdP (w7.alloc (.cells #[.slice a7 nn c7, .slice p7 u.m q7, .int .i64 u.fuel, .bool u.dead] 25)) p7 u.m u.S u.L u.F) ∧ Below w.heap.size w (w7.alloc (.cells #[.slice a7 nn c7, .slice p7 u.m q7, .int .i64 u.fuel, .bool u.dead] 25))) := by
      have hb : Below w.heap.size w w7 := S6.out.2.2.trans (hb7.mono S6.out.2.2.size)
      exact ⟨⟨(S6.out.1.below hb7).below (below_alloc _ _), (S6.out.2.1.below hb7).below (below_alloc _ _), rowInNew _ _ _ _ _⟩, ⟨ho7.data.rd.below (below_alloc _ _), ho7.cache.rd.below (below_alloc _ _)⟩, hb.alloc hb.size _⟩
    clear ho7 hb7 S6 x0 x1 x2 x3 xf xl
    go_upto_region 13 with fail
    generalize (w7.alloc (.cells #[.slice a7 nn c7, .slice p7 u.m q7, .int .i64 u.fuel, .bool u.dead] 25)) = W7 at S7 ⊢
    generalize w7.heap.size = b7 at S7 ⊢
    have HUV : Hid (VD nn u.m u.S u.L u.fuel) := HU.out.1
    have hum : u.m ≤ 1048576 := (stt_vd_lens HUV.out).2.1
    obtain ⟨um, hum2⟩ : ∃ um, um = u.m := ⟨_, rfl⟩
    go_cut [13] from 106 to 109 (fun s13 wx => ∃ K, CB W7 wx s13 nn (crashTo u.d u.S u.F K 8 u.m))
    case first =>
      obtain ⟨x0, x1, x2, x3, xf, xl⟩ := S7.out.1.2.2.cells
      have J0 : Hid (Below W7.heap.size W7 W7.drew) := (Below.refl _ _).drew
      have HC7 : Hid (∀ W, Below W7.heap.size W7 W → W.cell? ⟨b7, 0, none⟩ = some (.slice a7 nn c7) ∧ W.cell? ⟨b7, 1, none⟩ = some (.slice p7 u.m q7) ∧ W.cell? ⟨b7, 2, none⟩ = some (.int .i64 u.fuel) ∧ W.cell? ⟨b7, 3, none⟩ = some (.bool u.dead)) := fun W hW => by
        obtain ⟨z0, z1, z2, z3, -⟩ := (S7.out.1.2.2.below hW).cells
        exact ⟨z0, z1, z2, z3⟩
      have J0a : Hid (∀ O, Below W7.heap.size W7 (W7.alloc O).drew) := fun O => ((Below.refl _ _).alloc (Nat.le_refl _) O).drew
      have HLK : Hid (∀ W, Below W7.heap.size W7 W → Calls Try.prog 19 #[.slice a1 n1 c1, .int .i64 0] W fun e w' => ∃ ak ck K, e = .returned (.slice ak 8 ck) ∧ RdBl w' ak 8 K ∧ Below W.heap.size W w') := fun W hW => lwKeep_any a1 n1 c1 f1 W (S7.out.1.1.more.below hW) HR1.out.2 (by omega)
      have HDC : Hid (∀ (W : World) (ak : Option Addr) (ck : Nat) (K : Nat → Bool), Below W7.heap.size W7 W → RdBl W ak 8 K → Calls Try.prog 7 #[.agg #[.slice a7 nn c7, .slice p7 u.m q7, .int .i64 u.fuel, .bool u.dead], .slice ak 8 ck] W fun e w' => RetDc W e w' nn (crashTo u.d u.S u.F K 8 u.m) 0 (fun _ => 0) (fun _ => 0) (fun _ _ => 0) (-1) false) := fun W ak ck K hW hk => implCrash_good a7 p7 ak nn c7 u.m q7 8 ck u.d u.S u.L u.F K u.fuel u.dead W (S7.out.2.1.1.below hW) (S7.out.2.1.2.below hW) hk HUV.out hn hum (by omega)
      have hlt7 : b7 < W7.heap.size := xl
      have n7 : ¬ b7 = W7.heap.size := by omega
      have n7' : ¬ W7.heap.size = b7 := by omega
      go_region_held3 (fun w' => w'.cell? ⟨b7, 0, none⟩ = some (.slice a7 nn c7) ∧ w'.cell? ⟨b7, 1, none⟩ = some (.slice p7 u.m q7) ∧ w'.cell? ⟨b7, 2, none⟩ = some (.int .i64 u.fuel) ∧ w'.cell? ⟨b7, 3, none⟩ = some (.bool u.dead)) (go_keep)
        (first
        | (go_at_call 19; (with_reducible refine (HLK.out W7.drew J0.out).mono ?_); rintro e w8 ⟨ak, ck, K, rfl, hk8, hb8⟩; have B8 := J0.out.trans (hb8.mono J0.out.size); obtain ⟨x0, x1, x2, x3⟩ := HC7.out w8 B8; have z8 := B8.size; have n8 : ¬ b7 = w8.heap.size := (by omega); have n8' : ¬ w8.heap.size = b7 := (by omega))
        | (go_at_call 19; (with_reducible refine (HLK.out (W7.alloc (.cells #[.slice none 0 0, .slice none 0 0, .int .i64 0, .bool false] 25)).drew (J0a.out _)).mono ?_); rintro e w8 ⟨ak, ck, K, rfl, hk8, hb8⟩; have B8 := (J0a.out _).trans (hb8.mono (J0a.out _).size); obtain ⟨x0, x1, x2, x3⟩ := HC7.out w8 B8; have k8 : DkRow w8 W7.heap.size (.slice none 0 0) (.slice none 0 0) 0 false := DkRow.below (w := (W7.alloc (.cells #[.slice none 0 0, .slice none 0 0, .int .i64 0, .bool false] 25)).drew) (rowInNew W7 _ _ _ _) hb8; have z8 := B8.size; have n8 : ¬ b7 = w8.heap.size := (by omega); have n8' : ¬ w8.heap.size = b7 := (by omega))
        | (go_at_call 7; (with_reducible refine (HDC.out w8 ak ck K B8 hk8).mono ?_); rintro e w9 ⟨ac, cc, pc, qc, Ac, rfl, ho9, hb9, hcc, hcc2⟩; have B9 := B8.trans (hb9.mono z8); obtain ⟨x0, x1, x2, x3⟩ := HC7.out w9 B9; have z9 := B9.size; have n9 : ¬ b7 = w9.heap.size := (by omega); have n9' : ¬ w9.heap.size = b7 := (by omega); (try have k9 := k8.below hb9); (try obtain ⟨f0, f1, f2, f3, ff, fl⟩ := k9.cells))
        | (go_at_call 7; (with_reducible refine (HDC.out (w8.alloc (.cells #[.slice none 0 0, .slice none 0 0, .int .i64 0, .bool false] 25)) ak ck K (B8.alloc z8 _) (hk8.below (below_alloc _ _))).mono ?_); rintro e w9 ⟨ac, cc, pc, qc, Ac, rfl, ho9, hb9, hcc, hcc2⟩; have B9 := (B8.alloc z8 _).trans (hb9.mono (B8.alloc z8 _).size); obtain ⟨x0, x1, x2, x3⟩ := HC7.out w9 B9; have k9 : DkRow w9 w8.heap.size (.slice none 0 0) (.slice none 0 0) 0 false := (rowInNew w8 _ _ _ _).below hb9; obtain ⟨f0, f1, f2, f3, ff, fl⟩ := k9.cells; have z9 := B9.size; have n9 : ¬ b7 = w9.heap.size := (by omega); have n9' : ¬ w9.heap.size = b7 := (by omega))
        | fail)
      all_goals
        go_wp2
        go_meet
        case rel =>
          refine ⟨K, ?_⟩
          first
          | ((with_reducible refine cb_set ho9.data hcc hcc2 k9 ?_ B9) <;> omega)
          | (with_reducible exact cb_new ho9.data hcc hcc2 B9)
          | (with_reducible exact cb_late ho9.data hcc hcc2 B9)
    case rest =>
    obtain ⟨wk, rfl⟩ : ∃ x, x = wc := ⟨_, rfl⟩
    obtain ⟨K, b8, ac, cc, pc, qc, rfl, hc8, hrc, hcc, hcc2, hb8⟩ := hcut
    obtain ⟨dc, hdc⟩ : ∃ dc, dc = crashTo u.d u.S u.F K 8 u.m := ⟨_, rfl⟩
    rw [← hdc] at hrc
    have S8 : Hid (FrT wk b5 a p nn c' 0 q d S L F fuel dead ap M Fp a1 n1 f1 b6 b7 b8 (.slice a6 nn c6) (.slice p6 u.m q6) (.slice a7 nn c7) (.slice p7 u.m q7) u.fuel u.dead ac cc pc qc dc ∧ Below w.heap.size w wk) := ⟨⟨S7.out.1.1.below hb8, S7.out.1.2.1.below hb8, S7.out.1.2.2.below hb8, hc8, hrc⟩, S7.out.2.2.trans (hb8.mono S7.out.2.2.size)⟩
    have HDC : Hid ((∀ i : Nat, ¬ Wr nn M at_ sq ∨ (i : Int) < at_ ∨ at_ + cntOf M ≤ (i : Int) → SameS dc d i) ∧ (Wr nn M at_ sq → ∀ A : Nat, at_ = (A : Int) → getN (fun j => d ((A + cntOf M - 1) * 64 + j)) 0 4 ≠ sq → ¬ recOk (fun i j => d ((A + i) * 64 + j)) ((nn : Int) / 64 - A) sq → (recOk (fun i j => dc ((A + i) * 64 + j)) ((nn : Int) / 64 - A) sq → getN ((fun i j => dc ((A + i) * 64 + j)) 0) 6 2 = (cntOf M : Int) ∧ catL (recLz (fun i j => dc ((A + i) * 64 + j))) (cntOf M) = M ∧ ∀ j, j < M → catF (recLz (fun i j => dc ((A + i) * 64 + j))) (recFz (fun i j => dc ((A + i) * 64 + j))) (cntOf M) j = Fp j) ∧ (u.dead = false → recOk (fun i j => dc ((A + i) * 64 + j)) ((nn : Int) / 64 - A) sq)) ∧ ∀ j, 0 ≤ dc j ∧ dc j < 256) := by
      rw [hdc]
      have q := rec_crash (t := ⟨d, 0, S, L, F, fuel, dead⟩) rfl HU.out.2 K 8
      exact ⟨q.1, q.2, rec_range (t := ⟨d, 0, S, L, F, fuel, dead⟩) rfl HU.out.2 K 8 HRG.out.1 HRG.out.2⟩
    clear hc8 hrc hb8 hdc S7 HSW HIW
    have HKW : Hid (Wr nn M at_ sq → (KK : Int) = cntOf M) := fun h => by rw [HK.out]; unfold kOf; rw [if_pos h.1]
    have HWI : Hid (0 < KK → 2 ≤ at_ → at_ + KK ≤ (nn : Int) / 64 → 1 ≤ sq → sq ≤ 2000000000 → Wr nn M at_ sq) := fun h1 h2 h3 h4 h5 => by
      have hk := HK.out
      unfold kOf at hk
      by_cases h : M ≤ 30000
      · rw [if_pos h] at hk
        exact ⟨h, by unfold numB; simp; omega, h2, by omega⟩
      · rw [if_neg h] at hk
        omega
    obtain ⟨x0, x1, x2, x3, xf, xl⟩ := S8.out.1.s.box.cells
    have hdv : ((nn : Int)).tdiv 64 = (nn : Int) / 64 := Int.tdiv_eq_ediv_of_nonneg (by omega)
    go_upto_region 14 with fail
    go_cut [14] from 110 to 137 (fun s14 wx => s14 = .bool wv ∧ wx = wk)
    case first =>
      have hF : ∀ {P : Prop}, (Wr nn M at_ sq → False) → wv = false := fun h => by
        cases hb : wv with
        | false => rfl
        | true => exact (h (HWV.out.1 hb)).elim
      have HF : Hid ((Wr nn M at_ sq → False) → wv = false) := fun h => hF (P := True) h
      clear hF
      by_cases h1 : KK = 0
      · have e := HF.out (fun h => by have := HKW.out h; have := cntOf_pos M; omega)
        subst h1
        (first
          | (exfalso; omega)
          | (go_wp2; go_meet; (case rel => exact ⟨by rw [e], rfl⟩)))
      have g1 : (0 : Int) < (KK : Int) := by omega
      by_cases h2 : at_ < 2
      · have e := HF.out (fun h => by have := h.2.2.1; omega)
        have g2 : ¬ (2 : Int) ≤ at_ := by omega
        (first
          | (exfalso; omega)
          | (go_wp2; go_meet; (case rel => exact ⟨by rw [e], rfl⟩)))
      have g2 : (2 : Int) ≤ at_ := by omega
      by_cases h3 : 2000 < at_
      · have e := HF.out (fun h => by have := h.2.2.2; omega)
        have g3 : ¬ at_ ≤ (2000 : Int) := by omega
        (first
          | (exfalso; omega)
          | (go_wp2; go_meet; (case rel => exact ⟨by rw [e], rfl⟩)))
      have g3 : at_ ≤ (2000 : Int) := by omega
      by_cases h4 : (nn : Int) / 64 < at_ + (KK : Int)
      · have e := HF.out (fun h => by have := h.2.2.2; have := HKW.out h; omega)
        have g4 : ¬ at_ + (KK : Int) ≤ (nn : Int) / 64 := by omega
        (first
          | (exfalso; omega)
          | (go_wp2; go_meet; (case rel => exact ⟨by rw [e], rfl⟩)))
      have g4 : at_ + (KK : Int) ≤ (nn : Int) / 64 := by omega
      by_cases h5 : sq < 1
      · have e := HF.out (fun h => by have := h.2.1; unfold numB at this; simp at this; omega)
        have g5 : ¬ (1 : Int) ≤ sq := by omega
        (first
          | (exfalso; omega)
          | (go_wp2; go_meet; (case rel => exact ⟨by rw [e], rfl⟩)))
      have g5 : (1 : Int) ≤ sq := by omega
      by_cases h6 : 2000000000 < sq
      · have e := HF.out (fun h => by have := h.2.1; unfold numB at this; simp at this; omega)
        have g6 : ¬ sq ≤ (2000000000 : Int) := by omega
        (first
          | (exfalso; omega)
          | (go_wp2; go_meet; (case rel => exact ⟨by rw [e], rfl⟩)))
      have g6 : sq ≤ (2000000000 : Int) := by omega
      have e := HWV.out.2 (HWI.out (by omega) g2 g4 g5 g6)
      (first
        | (exfalso; omega)
        | (go_wp2; go_meet; (case rel => exact ⟨by rw [e], rfl⟩)))
    case rest =>
    obtain ⟨rfl, hwc⟩ := hcut
    subst hwc
    clear x0 x1 x2 x3 xf xl hdv
    obtain ⟨wf, hwf⟩ : ∃ wf, wf = wv := ⟨_, rfl⟩
    have hwz := HNW.out
    subst hwz
    have HV0 : Hid (VD nn 0 (fun _ => 0) (fun _ => 0) (-1)) := ⟨by unfold VH; omega, fun i hi => absurd hi (Nat.not_lt_zero _)⟩
    go_wp2
    go_loopw [15] (fun iv wr => ∃ i : Nat, i ≤ nn / 64 ∧ iv = .int .i64 i ∧ FrT wr b5 a p nn c' 0 q d S L F fuel dead ap M Fp a1 n1 f1 b6 b7 b8 (.slice a6 nn c6) (.slice p6 u.m q6) (.slice a7 nn c7) (.slice p7 u.m q7) u.fuel u.dead ac cc pc qc dc ∧ Below w.heap.size w wr) (fun iv _ => nn - (intOf iv).toNat)
    case atStart => exact ⟨0, Nat.zero_le _, rfl, S8.out⟩
    case round =>
      obtain ⟨i, hi, rfl, hT, hB⟩ := hrel
      have HT0 : Hid (FrT wr.drew b5 a p nn c' 0 q d S L F fuel dead ap M Fp a1 n1 f1 b6 b7 b8 (.slice a6 nn c6) (.slice p6 u.m q6) (.slice a7 nn c7) (.slice p7 u.m q7) u.fuel u.dead ac cc pc qc dc) := hT.below (Below.refl _ _).drew
      have HTr : Hid (FrT wr b5 a p nn c' 0 q d S L F fuel dead ap M Fp a1 n1 f1 b6 b7 b8 (.slice a6 nn c6) (.slice p6 u.m q6) (.slice a7 nn c7) (.slice p7 u.m q7) u.fuel u.dead ac cc pc qc dc) := hT
      have HBW : Hid (Below w.heap.size w wr) := hB
      have HCC : Hid (∀ W, Below wr.heap.size wr W → FrT W b5 a p nn c' 0 q d S L F fuel dead ap M Fp a1 n1 f1 b6 b7 b8 (.slice a6 nn c6) (.slice p6 u.m q6) (.slice a7 nn c7) (.slice p7 u.m q7) u.fuel u.dead ac cc pc qc dc ∧ W.cell? ⟨b5, 0, none⟩ = some (.slice a nn c') ∧ W.cell? ⟨b5, 1, none⟩ = some (.slice p 0 q) ∧ W.cell? ⟨b5, 2, none⟩ = some (.int .i64 fuel) ∧ W.cell? ⟨b5, 3, none⟩ = some (.bool dead) ∧ W.cell? ⟨b8, 0, none⟩ = some (.slice ac nn cc) ∧ W.cell? ⟨b8, 1, none⟩ = some (.slice pc 0 qc) ∧ W.cell? ⟨b8, 2, none⟩ = some (.int .i64 (-1)) ∧ W.cell? ⟨b8, 3, none⟩ = some (.bool false)) := fun W hW => by
        have h := HTr.out.below hW
        obtain ⟨x0, x1, x2, x3, -⟩ := h.s.box.cells
        obtain ⟨y0, y1, y2, y3, -⟩ := h.c.cells
        exact ⟨h, x0, x1, x2, x3, y0, y1, y2, y3⟩
      clear hT hB S8
      have w64 : IntKind.i64.wrap (64 * (i : Int)) = 64 * (i : Int) := by rw [IntKind.wrap_i64]; omega
      obtain ⟨x0, x1, x2, x3, xf, xl⟩ := HTr.out.s.box.cells
      obtain ⟨y0, y1, y2, y3, yf, yl⟩ := HTr.out.c.cells
      by_cases hlt : i < nn / 64
      · have i1 : 64 * (i : Int) < (nn : Int) := by omega
        have i1' : decide (64 * (i : Int) < (nn : Int)) = true := decide_eq_true i1
        have HSAME : Hid (SameS dc d i) := HDC.out.1 i (.inl (fun h => by have := HWV.out.2 h; cases this))
        go_upto_region 18 with fail
        refine wp_region_late (S := (fun w' => (w'.cell? ⟨b5, 0, none⟩ = some (.slice a nn c') ∧ w'.cell? ⟨b5, 1, none⟩ = some (.slice p 0 q) ∧ w'.cell? ⟨b5, 2, none⟩ = some (.int .i64 fuel) ∧ w'.cell? ⟨b5, 3, none⟩ = some (.bool dead)) ∧ (w'.cell? ⟨b8, 0, none⟩ = some (.slice ac nn cc) ∧ w'.cell? ⟨b8, 1, none⟩ = some (.slice pc 0 qc) ∧ w'.cell? ⟨b8, 2, none⟩ = some (.int .i64 (-1)) ∧ w'.cell? ⟨b8, 3, none⟩ = some (.bool false)))) 23 (by kernel_rfl) ?_ (fun hHeld => ?_)
        · ((try dsimp only); go_keep)
        refine late_take 0 .zero (v := ?_) (by kernel_rfl) (by kernel_rfl) (by kernel_rfl) (by kernel_rfl) (fun _ _ _ h => h) (by rfl) ?_ (by assumption) ?_
        rotate_left
        · (intro w hSw; (try dsimp only at hSw); go_simp) <;> with_reducible rfl
        simp only [Act.put, List.setIfInBounds_toArray, List.set_cons_zero, List.set_cons_succ]
        refine late_take 1 (.succ .zero) (v := ?_) (by kernel_rfl) (by kernel_rfl) (by kernel_rfl) (by kernel_rfl) (fun _ _ _ h => h) (by rfl) ?_ (by assumption) ?_
        rotate_left
        · (intro w hSw; (try dsimp only at hSw); go_simp) <;> with_reducible rfl
        simp only [Act.put, List.setIfInBounds_toArray, List.set_cons_zero, List.set_cons_succ]
        refine late_take 2 (.succ (.succ .zero)) (v := ?_) (by kernel_rfl) (by kernel_rfl) (by kernel_rfl) (by kernel_rfl) (fun _ _ _ h => h) (by rfl) ?_ (by assumption) ?_
        rotate_left
        · (intro w hSw; (try dsimp only at hSw); go_simp) <;> with_reducible rfl
        simp only [Act.put, List.setIfInBounds_toArray, List.set_cons_zero, List.set_cons_succ]
        refine late_skip 3 (.succ (.succ (.succ .zero))) (by kernel_rfl) (by kernel_rfl) (by kernel_rfl) (by kernel_rfl) (fun _ _ _ h => h) (by rfl) (by assumption) ?_
        simp only [Act.put, List.setIfInBounds_toArray, List.set_cons_zero, List.set_cons_succ]
        refine late_skip 4 (.succ (.succ (.succ (.succ .zero)))) (by kernel_rfl) (by kernel_rfl) (by kernel_rfl) (by kernel_rfl) (fun _ _ _ h => h) (by rfl) (by assumption) ?_
        simp only [Act.put, List.setIfInBounds_toArray, List.set_cons_zero, List.set_cons_succ]
        refine late_skip 5 (.succ (.succ (.succ (.succ (.succ .zero))))) (by kernel_rfl) (by kernel_rfl) (by kernel_rfl) (by kernel_rfl) (fun _ _ _ h => h) (by rfl) (by assumption) ?_
        simp only [Act.put, List.setIfInBounds_toArray, List.set_cons_zero, List.set_cons_succ]
        refine late_take 6 (.succ (.succ (.succ (.succ (.succ (.succ .zero)))))) (v := ?_) (by kernel_rfl) (by kernel_rfl) (by kernel_rfl) (by kernel_rfl) (fun _ _ _ h => h) (by rfl) ?_ (by assumption) ?_
        rotate_left
        · (intro w hSw; (try dsimp only at hSw); go_simp) <;> with_reducible rfl
        simp only [Act.put, List.setIfInBounds_toArray, List.set_cons_zero, List.set_cons_succ]
        refine late_take 7 (.succ (.succ (.succ (.succ (.succ (.succ (.succ .zero))))))) (v := ?_) (by kernel_rfl) (by kernel_rfl) (by kernel_rfl) (by kernel_rfl) (fun _ _ _ h => h) (by rfl) ?_ (by assumption) ?_
        rotate_left
        · (intro w hSw; (try dsimp only at hSw); go_simp) <;> with_reducible rfl
        simp only [Act.put, List.setIfInBounds_toArray, List.set_cons_zero, List.set_cons_succ]
        refine late_skip 8 (.succ (.succ (.succ (.succ (.succ (.succ (.succ (.succ .zero)))))))) (by kernel_rfl) (by kernel_rfl) (by kernel_rfl) (by kernel_rfl) (fun _ _ _ h => h) (by rfl) (by assumption) ?_
        simp only [Act.put, List.setIfInBounds_toArray, List.set_cons_zero, List.set_cons_succ]
        refine late_skip 9 (.succ (.succ (.succ (.succ (.succ (.succ (.succ (.succ (.succ .zero))))))))) (by kernel_rfl) (by kernel_rfl) (by kernel_rfl) (by kernel_rfl) (fun _ _ _ h => h) (by rfl) (by assumption) ?_
        simp only [Act.put, List.setIfInBounds_toArray, List.set_cons_zero, List.set_cons_succ]
        refine late_skip 10 (.succ (.succ (.succ (.succ (.succ (.succ (.succ (.succ (.succ (.succ .zero)))))))))) (by kernel_rfl) (by kernel_rfl) (by kernel_rfl) (by kernel_rfl) (fun _ _ _ h => h) (by rfl) (by assumption) ?_
        simp only [Act.put, List.setIfInBounds_toArray, List.set_cons_zero, List.set_cons_succ]
        refine late_skip 11 (.succ (.succ (.succ (.succ (.succ (.succ (.succ (.succ (.succ (.succ (.succ .zero))))))))))) (by kernel_rfl) (by kernel_rfl) (by kernel_rfl) (by kernel_rfl) (fun _ _ _ h => h) (by rfl) (by assumption) ?_
        simp only [Act.put, List.setIfInBounds_toArray, List.set_cons_zero, List.set_cons_succ]
        refine late_skip 12 (.succ (.succ (.succ (.succ (.succ (.succ (.succ (.succ (.succ (.succ (.succ (.succ .zero)))))))))))) (by kernel_rfl) (by kernel_rfl) (by kernel_rfl) (by kernel_rfl) (fun _ _ _ h => h) (by rfl) (by assumption) ?_
        simp only [Act.put, List.setIfInBounds_toArray, List.set_cons_zero, List.set_cons_succ]
        refine late_take 13 (.succ (.succ (.succ (.succ (.succ (.succ (.succ (.succ (.succ (.succ (.succ (.succ (.succ .zero))))))))))))) (v := ?_) (by kernel_rfl) (by kernel_rfl) (by kernel_rfl) (by kernel_rfl) (fun _ _ _ h => h) (by rfl) ?_ (by assumption) ?_
        rotate_left
        · (intro w hSw; (try dsimp only at hSw); go_simp) <;> with_reducible rfl
        simp only [Act.put, List.setIfInBounds_toArray, List.set_cons_zero, List.set_cons_succ]
        refine late_take 14 (.succ (.succ (.succ (.succ (.succ (.succ (.succ (.succ (.succ (.succ (.succ (.succ (.succ (.succ .zero)))))))))))))) (v := ?_) (by kernel_rfl) (by kernel_rfl) (by kernel_rfl) (by kernel_rfl) (fun _ _ _ h => h) (by rfl) ?_ (by assumption) ?_
        rotate_left
        · (intro w hSw; (try dsimp only at hSw); go_simp) <;> with_reducible rfl
        simp only [Act.put, List.setIfInBounds_toArray, List.set_cons_zero, List.set_cons_succ]
        refine late_take 15 (.succ (.succ (.succ (.succ (.succ (.succ (.succ (.succ (.succ (.succ (.succ (.succ (.succ (.succ (.succ .zero))))))))))))))) (v := ?_) (by kernel_rfl) (by kernel_rfl) (by kernel_rfl) (by kernel_rfl) (fun _ _ _ h => h) (by rfl) ?_ (by assumption) ?_
        rotate_left
        · (intro w hSw; (try dsimp only at hSw); go_simp) <;> with_reducible rfl
        simp only [Act.put, List.setIfInBounds_toArray, List.set_cons_zero, List.set_cons_succ]
        refine late_take 16 (.succ (.succ (.succ (.succ (.succ (.succ (.succ (.succ (.succ (.succ (.succ (.succ (.succ (.succ (.succ (.succ .zero)))))))))))))))) (v := ?_) (by kernel_rfl) (by kernel_rfl) (by kernel_rfl) (by kernel_rfl) (fun _ _ _ h => h) (by rfl) ?_ (by assumption) ?_
        rotate_left
        · (intro w hSw; (try dsimp only at hSw); go_simp) <;> with_reducible rfl
        simp only [Act.put, List.setIfInBounds_toArray, List.set_cons_zero, List.set_cons_succ]
        refine late_take 18 (.succ (.succ (.succ (.succ (.succ (.succ (.succ (.succ (.succ (.succ (.succ (.succ (.succ (.succ (.succ (.succ (.succ (.succ .zero)))))))))))))))))) (v := ?_) (by kernel_rfl) (by kernel_rfl) (by kernel_rfl) (by kernel_rfl) (fun _ _ _ h => h) (by rfl) ?_ (by assumption) ?_
        rotate_left
        · (intro w hSw; (try dsimp only at hSw); go_simp) <;> with_reducible rfl
        simp only [Act.put, List.setIfInBounds_toArray, List.set_cons_zero, List.set_cons_succ]
        refine late_take 19 (.succ (.succ (.succ (.succ (.succ (.succ (.succ (.succ (.succ (.succ (.succ (.succ (.succ (.succ (.succ (.succ (.succ (.succ (.succ .zero))))))))))))))))))) (v := ?_) (by kernel_rfl) (by kernel_rfl) (by kernel_rfl) (by kernel_rfl) (fun _ _ _ h => h) (by rfl) ?_ (by assumption) ?_
        rotate_left
        · (intro w hSw; (try dsimp only at hSw); go_simp) <;> with_reducible rfl
        simp only [Act.put, List.setIfInBounds_toArray, List.set_cons_zero, List.set_cons_succ]
        refine late_one 17 (.succ (.succ (.succ (.succ (.succ (.succ (.succ (.succ (.succ (.succ (.succ (.succ (.succ (.succ (.succ (.succ (.succ .zero))))))))))))))))) (by kernel_rfl) (fun K hK => ?_)
        (refine step_ttr (by rfl) _ _ _ _ rfl (.agg #[.slice ac nn cc, .slice pc 0 qc, .int .i64 (-1), .bool false]) (.int .i64 (i : Int)) (by rfl) (by rfl) (enters_of Try.func11 (by kernel_rfl) rfl) ?_; refine (implRead_good ac pc nn cc 0 qc dc (fun _ => 0) (fun _ => 0) (fun _ _ => 0) (-1) false i wr.drew HT0.out.rc (Or.inl rfl) HV0.out hlt hn hcc hcc2 (by omega)).mono ?_; rintro e w20 ⟨a20, c20, rfl, ho20, hb20, -, -⟩; refine ⟨_, rfl, ?_⟩; obtain ⟨HT1, x0, x1, x2, x3, y0, y1, y2, y3⟩ := HCC.out w20 ((Below.refl _ _).drew.trans hb20))
        refine hK.out _ _ ?_ (fun hHeld2 => ?_)
        · (intro _; (try dsimp only); go_keep)
        clear hK K
        replace hHeld := hHeld2 (by decide)
        clear hHeld2
        try simp only [Act.put, List.setIfInBounds_toArray, List.set_cons_zero, List.set_cons_succ]
        refine late_one 20 (.succ (.succ (.succ (.succ (.succ (.succ (.succ (.succ (.succ (.succ (.succ (.succ (.succ (.succ (.succ (.succ (.succ (.succ (.succ (.succ .zero)))))))))))))))))))) (by kernel_rfl) (fun K hK => ?_)
        (refine step_ttr (by rfl) _ _ _ _ rfl (.agg #[.slice a nn c', .slice p 0 q, .int .i64 fuel, .bool dead]) (.int .i64 (i : Int)) (by rfl) (by rfl) (enters_of Try.func12 (by kernel_rfl) rfl) ?_; refine (specRead_good a p nn c' 0 q d S L F fuel dead i w20 HT1.s.rd HT1.s.rp HV.out hlt hn hnc hcm (by omega)).mono ?_; rintro e w21 ⟨a21, c21, rfl, ho21, hb21, -, -⟩; refine ⟨_, rfl, ?_⟩; obtain ⟨HT2, x0, x1, x2, x3, y0, y1, y2, y3⟩ := HCC.out w21 (((Below.refl _ _).drew.trans hb20).trans (hb21.mono (by have := hb20.size; exact this))))
        refine hK.out _ _ ?_ (fun hHeld2 => ?_)
        · (intro _; (try dsimp only); go_keep)
        clear hK K
        replace hHeld := hHeld2 (by decide)
        clear hHeld2
        try simp only [Act.put, List.setIfInBounds_toArray, List.set_cons_zero, List.set_cons_succ]
        refine late_one 21 (.succ (.succ (.succ (.succ (.succ (.succ (.succ (.succ (.succ (.succ (.succ (.succ (.succ (.succ (.succ (.succ (.succ (.succ (.succ (.succ (.succ .zero))))))))))))))))))))) (by kernel_rfl) (fun K hK => ?_)
        (refine step_ttr (by rfl) _ _ _ _ rfl (.slice a20 64 c20) (.slice a21 64 c21) (by rfl) (by rfl) (enters_of Try.func10 (by kernel_rfl) rfl) ?_; refine (lwBytes_eq a20 a21 64 c20 c21 _ _ w21 (ho20.below hb21).rd ho21.rd (fun j hj => HSAME.out j hj)).mono ?_; rintro e w22 ⟨rfl, hw22⟩; subst hw22; refine ⟨_, rfl, ?_⟩)
        refine hK.out _ _ ?_ (fun hHeld2 => ?_)
        · (intro _; (try dsimp only); go_keep)
        clear hK K
        replace hHeld := hHeld2 (by decide)
        clear hHeld2
        try simp only [Act.put, List.setIfInBounds_toArray, List.set_cons_zero, List.set_cons_succ]
        refine late_take 22 (.succ (.succ (.succ (.succ (.succ (.succ (.succ (.succ (.succ (.succ (.succ (.succ (.succ (.succ (.succ (.succ (.succ (.succ (.succ (.succ (.succ (.succ .zero)))))))))))))))))))))) (v := ?_) (by kernel_rfl) (by kernel_rfl) (by kernel_rfl) (by kernel_rfl) (fun _ _ _ h => h) (by rfl) ?_ (by assumption) ?_
        rotate_left
        · (intro w hSw; (try dsimp only at hSw); go_simp) <;> with_reducible rfl
        simp only [Act.put, List.setIfInBounds_toArray, List.set_cons_zero, List.set_cons_succ]
        refine late_one 23 (.succ (.succ (.succ (.succ (.succ (.succ (.succ (.succ (.succ (.succ (.succ (.succ (.succ (.succ (.succ (.succ (.succ (.succ (.succ (.succ (.succ (.succ (.succ .zero))))))))))))))))))))))) (by kernel_rfl) (fun K hK => ?_)
        go_simp
        refine hK.out _ _ ?_ (fun hHeld2 => ?_)
        · (intro hne; exact absurd rfl hne)
        clear hK K hHeld2
        refine wpLate_done (by kernel_rfl) ?_ _
        have SN : Hid (FrT w22 b5 a p nn c' 0 q d S L F fuel dead ap M Fp a1 n1 f1 b6 b7 b8 (.slice a6 nn c6) (.slice p6 u.m q6) (.slice a7 nn c7) (.slice p7 u.m q7) u.fuel u.dead ac cc pc qc dc ∧ Below w.heap.size w w22) := ⟨HT2, HBW.out.trans ((((Below.refl _ _).drew.trans hb20).trans (hb21.mono (by have := hb20.size; exact this))).mono HBW.out.size)⟩
        clear HT1 HT2 ho20 ho21 hb20 hb21 x0 x1 x2 x3 y0 y1 y2 y3 xf xl yf yl
        go_wp2
        go_roundw
        case rel => exact ⟨i + 1, by omega, by go_num, SN.out.1, SN.out.2⟩
        case measure => simp [intOf]; omega
      · have i1 : ¬ 64 * (i : Int) < (nn : Int) := by omega
        have i1' : decide (64 * (i : Int) < (nn : Int)) = false := decide_eq_false i1
        go_wp2
        go_ret
        exact ⟨rfl, HBW.out⟩
  have g1 : at_ ≤ (2000 : Int) := by omega
  by_cases hp2 : KK = 0
  · have HLAST : Hid (Wr nn M at_ sq → ∀ A : Nat, at_ = (A : Int) → getN (fun j => d ((A + cntOf M - 1) * 64 + j)) 0 4 ≠ sq) := fun h => by
      exfalso
      have h3 := HK.out
      have h4 := cntOf_pos M
      unfold kOf at h3
      rw [if_pos h.1] at h3
      omega
    have g2 : ¬ (0 : Int) < (KK : Int) := by omega
    have HNW : Hid (wv = false) := by
      cases hb : wv with
      | false => rfl
      | true => exact absurd (HWV.out.1 hb) (fun h => by have h3 := HK.out; have h4 := cntOf_pos M; unfold kOf at h3; rw [if_pos h.1] at h3; omega)
    clear hp2
    go_upto_region 11 with fail
    obtain ⟨w5, hw5⟩ : ∃ w5, w5 = w4 := ⟨_, rfl⟩
    rw [← hw5] at S3 x0 x1 x2 x3 xf xl ⊢
    clear hw5
    have S5 := S3
    clear S3
    go_wp2_with fail
    refine (HSW.out w5 a p ap c' q cp hcp hcpm S5.out.1.rd S5.out.1.rp S5.out.1.pay).mono ?_
    rintro e w6 ⟨a6, c6, p6, q6, A6, rfl, ho6, hb6⟩
    have S6 : Hid (FrS (w6.alloc (.cells #[.slice a6 nn c6, .slice p6 u.m q6, .int .i64 u.fuel, .bool u.dead] 25)) b5 a p nn c' 0 q d S L F fuel dead ap M Fp a1 n1 f1 ∧ DkRow (w6.alloc (.cells #[.slice a6 nn c6, .slice p6 u.m q6, .int .i64 u.fuel, .bool u.dead] 25)) w6.heap.size (.slice a6 nn c6) (.slice p6 u.m q6) u.fuel u.dead ∧ Below w.heap.size w (w6.alloc (.cells #[.slice a6 nn c6, .slice p6 u.m q6, .int .i64 u.fuel, .bool u.dead] 25))) := by
      have hb : Below w.heap.size w w6 := S5.out.2.trans (hb6.mono S5.out.2.size)
      exact ⟨(S5.out.1.below hb6).below (below_alloc _ _), rowInNew _ _ _ _ _, hb.alloc hb.size _⟩
    clear ho6 hb6 S5 x0 x1 x2 x3 xf xl
    go_upto_region 12 with fail
    generalize (w6.alloc (.cells #[.slice a6 nn c6, .slice p6 u.m q6, .int .i64 u.fuel, .bool u.dead] 25)) = W6 at S6 ⊢
    generalize w6.heap.size = b6 at S6 ⊢
    obtain ⟨x0, x1, x2, x3, xf, xl⟩ := S6.out.1.box.cells
    go_wp2_with fail
    refine (HIW.out W6 a p ap c' q cp hcp hcpm S6.out.1.rd S6.out.1.rp S6.out.1.pay).mono ?_
    rintro e w7 ⟨a7, c7, p7, q7, A7, rfl, ho7, hb7⟩
    have S7 : Hid ((FrS (w7.alloc (.cells #[.slice a7 nn c7, .slice p7 u.m q7, .int .i64 u.fuel, .bool u.dead] 25)) b5 a p nn c' 0 q d S L F fuel dead ap M Fp a1 n1 f1 ∧ DkRow (w7.alloc (.cells #[.slice a7 nn c7, .slice p7 u.m q7, .int .i64 u.fuel, .bool u.dead] 25)) b6 (.slice a6 nn c6) (.slice p6 u.m q6) u.fuel u.dead ∧ DkRow (w7.alloc (.cells #[.slice a7 nn c7, .slice p7 u.m q7, .int .i64 u.fuel, .bool u.dead] 25)) w7.heap.size (.slice a7 nn c7) (.slice p7 u.m q7) u.fuel u.dead) ∧ (Rd .u8 (w7.alloc (.cells #[.slice a7 nn c7, .slice p7 u.m q7, .int .i64 u.fuel, .bool u.dead] 25)) a7 nn u.d ∧ RdP (w7.alloc (.cells #[.slice a7 nn c7, .slice p7 u.m q7, .int .i64 u.fuel, .bool u.dead] 25)) p7 u.m u.S u.L u.F) ∧ Below w.heap.size w (w7.alloc (.cells #[.slice a7 nn c7, .slice p7 u.m q7, .int .i64 u.fuel, .bool u.dead] 25))) := by
      have hb : Below w.heap.size w w7 := S6.out.2.2.trans (hb7.mono S6.out.2.2.size)
      exact ⟨⟨(S6.out.1.below hb7).below (below_alloc _ _), (S6.out.2.1.below hb7).below (below_alloc _ _), rowInNew _ _ _ _ _⟩, ⟨ho7.data.rd.below (below_alloc _ _), ho7.cache.rd.below (below_alloc _ _)⟩, hb.alloc hb.size _⟩
    clear ho7 hb7 S6 x0 x1 x2 x3 xf xl
    go_upto_region 13 with fail
    generalize (w7.alloc (.cells #[.slice a7 nn c7, .slice p7 u.m q7, .int .i64 u.fuel, .bool u.dead] 25)) = W7 at S7 ⊢
    generalize w7.heap.size = b7 at S7 ⊢
    have HUV : Hid (VD nn u.m u.S u.L u.fuel) := HU.out.1
    have hum : u.m ≤ 1048576 := (stt_vd_lens HUV.out).2.1
    obtain ⟨um, hum2⟩ : ∃ um, um = u.m := ⟨_, rfl⟩
    go_cut [13] from 106 to 109 (fun s13 wx => ∃ K, CB W7 wx s13 nn (crashTo u.d u.S u.F K 8 u.m))
    case first =>
      obtain ⟨x0, x1, x2, x3, xf, xl⟩ := S7.out.1.2.2.cells
      have J0 : Hid (Below W7.heap.size W7 W7.drew) := (Below.refl _ _).drew
      have HC7 : Hid (∀ W, Below W7.heap.size W7 W → W.cell? ⟨b7, 0, none⟩ = some (.slice a7 nn c7) ∧ W.cell? ⟨b7, 1, none⟩ = some (.slice p7 u.m q7) ∧ W.cell? ⟨b7, 2, none⟩ = some (.int .i64 u.fuel) ∧ W.cell? ⟨b7, 3, none⟩ = some (.bool u.dead)) := fun W hW => by
        obtain ⟨z0, z1, z2, z3, -⟩ := (S7.out.1.2.2.below hW).cells
        exact ⟨z0, z1, z2, z3⟩
      have J0a : Hid (∀ O, Below W7.heap.size W7 (W7.alloc O).drew) := fun O => ((Below.refl _ _).alloc (Nat.le_refl _) O).drew
      have HLK : Hid (∀ W, Below W7.heap.size W7 W → Calls Try.prog 19 #[.slice a1 n1 c1, .int .i64 0] W fun e w' => ∃ ak ck K, e = .returned (.slice ak 8 ck) ∧ RdBl w' ak 8 K ∧ Below W.heap.size W w') := fun W hW => lwKeep_any a1 n1 c1 f1 W (S7.out.1.1.more.below hW) HR1.out.2 (by omega)
      have HDC : Hid (∀ (W : World) (ak : Option Addr) (ck : Nat) (K : Nat → Bool), Below W7.heap.size W7 W → RdBl W ak 8 K → Calls Try.prog 7 #[.agg #[.slice a7 nn c7, .slice p7 u.m q7, .int .i64 u.fuel, .bool u.dead], .slice ak 8 ck] W fun e w' => RetDc W e w' nn (crashTo u.d u.S u.F K 8 u.m) 0 (fun _ => 0) (fun _ => 0) (fun _ _ => 0) (-1) false) := fun W ak ck K hW hk => implCrash_good a7 p7 ak nn c7 u.m q7 8 ck u.d u.S u.L u.F K u.fuel u.dead W (S7.out.2.1.1.below hW) (S7.out.2.1.2.below hW) hk HUV.out hn hum (by omega)
      have hlt7 : b7 < W7.heap.size := xl
      have n7 : ¬ b7 = W7.heap.size := by omega
      have n7' : ¬ W7.heap.size = b7 := by omega
      go_region_held3 (fun w' => w'.cell? ⟨b7, 0, none⟩ = some (.slice a7 nn c7) ∧ w'.cell? ⟨b7, 1, none⟩ = some (.slice p7 u.m q7) ∧ w'.cell? ⟨b7, 2, none⟩ = some (.int .i64 u.fuel) ∧ w'.cell? ⟨b7, 3, none⟩ = some (.bool u.dead)) (go_keep)
        (first
        | (go_at_call 19; (with_reducible refine (HLK.out W7.drew J0.out).mono ?_); rintro e w8 ⟨ak, ck, K, rfl, hk8, hb8⟩; have B8 := J0.out.trans (hb8.mono J0.out.size); obtain ⟨x0, x1, x2, x3⟩ := HC7.out w8 B8; have z8 := B8.size; have n8 : ¬ b7 = w8.heap.size := (by omega); have n8' : ¬ w8.heap.size = b7 := (by omega))
        | (go_at_call 19; (with_reducible refine (HLK.out (W7.alloc (.cells #[.slice none 0 0, .slice none 0 0, .int .i64 0, .bool false] 25)).drew (J0a.out _)).mono ?_); rintro e w8 ⟨ak, ck, K, rfl, hk8, hb8⟩; have B8 := (J0a.out _).trans (hb8.mono (J0a.out _).size); obtain ⟨x0, x1, x2, x3⟩ := HC7.out w8 B8; have k8 : DkRow w8 W7.heap.size (.slice none 0 0) (.slice none 0 0) 0 false := DkRow.below (w := (W7.alloc (.cells #[.slice none 0 0, .slice none 0 0, .int .i64 0, .bool false] 25)).drew) (rowInNew W7 _ _ _ _) hb8; have z8 := B8.size; have n8 : ¬ b7 = w8.heap.size := (by omega); have n8' : ¬ w8.heap.size = b7 := (by omega))
        | (go_at_call 7; (with_reducible refine (HDC.out w8 ak ck K B8 hk8).mono ?_); rintro e w9 ⟨ac, cc, pc, qc, Ac, rfl, ho9, hb9, hcc, hcc2⟩; have B9 := B8.trans (hb9.mono z8); obtain ⟨x0, x1, x2, x3⟩ := HC7.out w9 B9; have z9 := B9.size; have n9 : ¬ b7 = w9.heap.size := (by omega); have n9' : ¬ w9.heap.size = b7 := (by omega); (try have k9 := k8.below hb9); (try obtain ⟨f0, f1, f2, f3, ff, fl⟩ := k9.cells))
        | (go_at_call 7; (with_reducible refine (HDC.out (w8.alloc (.cells #[.slice none 0 0, .slice none 0 0, .int .i64 0, .bool false] 25)) ak ck K (B8.alloc z8 _) (hk8.below (below_alloc _ _))).mono ?_); rintro e w9 ⟨ac, cc, pc, qc, Ac, rfl, ho9, hb9, hcc, hcc2⟩; have B9 := (B8.alloc z8 _).trans (hb9.mono (B8.alloc z8 _).size); obtain ⟨x0, x1, x2, x3⟩ := HC7.out w9 B9; have k9 : DkRow w9 w8.heap.size (.slice none 0 0) (.slice none 0 0) 0 false := (rowInNew w8 _ _ _ _).below hb9; obtain ⟨f0, f1, f2, f3, ff, fl⟩ := k9.cells; have z9 := B9.size; have n9 : ¬ b7 = w9.heap.size := (by omega); have n9' : ¬ w9.heap.size = b7 := (by omega))
        | fail)
      all_goals
        go_wp2
        go_meet
        case rel =>
          refine ⟨K, ?_⟩
          first
          | ((with_reducible refine cb_set ho9.data hcc hcc2 k9 ?_ B9) <;> omega)
          | (with_reducible exact cb_new ho9.data hcc hcc2 B9)
          | (with_reducible exact cb_late ho9.data hcc hcc2 B9)
    case rest =>
    obtain ⟨wk, rfl⟩ : ∃ x, x = wc := ⟨_, rfl⟩
    obtain ⟨K, b8, ac, cc, pc, qc, rfl, hc8, hrc, hcc, hcc2, hb8⟩ := hcut
    obtain ⟨dc, hdc⟩ : ∃ dc, dc = crashTo u.d u.S u.F K 8 u.m := ⟨_, rfl⟩
    rw [← hdc] at hrc
    have S8 : Hid (FrT wk b5 a p nn c' 0 q d S L F fuel dead ap M Fp a1 n1 f1 b6 b7 b8 (.slice a6 nn c6) (.slice p6 u.m q6) (.slice a7 nn c7) (.slice p7 u.m q7) u.fuel u.dead ac cc pc qc dc ∧ Below w.heap.size w wk) := ⟨⟨S7.out.1.1.below hb8, S7.out.1.2.1.below hb8, S7.out.1.2.2.below hb8, hc8, hrc⟩, S7.out.2.2.trans (hb8.mono S7.out.2.2.size)⟩
    have HDC : Hid ((∀ i : Nat, ¬ Wr nn M at_ sq ∨ (i : Int) < at_ ∨ at_ + cntOf M ≤ (i : Int) → SameS dc d i) ∧ (Wr nn M at_ sq → ∀ A : Nat, at_ = (A : Int) → getN (fun j => d ((A + cntOf M - 1) * 64 + j)) 0 4 ≠ sq → ¬ recOk (fun i j => d ((A + i) * 64 + j)) ((nn : Int) / 64 - A) sq → (recOk (fun i j => dc ((A + i) * 64 + j)) ((nn : Int) / 64 - A) sq → getN ((fun i j => dc ((A + i) * 64 + j)) 0) 6 2 = (cntOf M : Int) ∧ catL (recLz (fun i j => dc ((A + i) * 64 + j))) (cntOf M) = M ∧ ∀ j, j < M → catF (recLz (fun i j => dc ((A + i) * 64 + j))) (recFz (fun i j => dc ((A + i) * 64 + j))) (cntOf M) j = Fp j) ∧ (u.dead = false → recOk (fun i j => dc ((A + i) * 64 + j)) ((nn : Int) / 64 - A) sq)) ∧ ∀ j, 0 ≤ dc j ∧ dc j < 256) := by
      rw [hdc]
      have q := rec_crash (t := ⟨d, 0, S, L, F, fuel, dead⟩) rfl HU.out.2 K 8
      exact ⟨q.1, q.2, rec_range (t := ⟨d, 0, S, L, F, fuel, dead⟩) rfl HU.out.2 K 8 HRG.out.1 HRG.out.2⟩
    clear hc8 hrc hb8 hdc S7 HSW HIW
    have HKW : Hid (Wr nn M at_ sq → (KK : Int) = cntOf M) := fun h => by rw [HK.out]; unfold kOf; rw [if_pos h.1]
    have HWI : Hid (0 < KK → 2 ≤ at_ → at_ + KK ≤ (nn : Int) / 64 → 1 ≤ sq → sq ≤ 2000000000 → Wr nn M at_ sq) := fun h1 h2 h3 h4 h5 => by
      have hk := HK.out
      unfold kOf at hk
      by_cases h : M ≤ 30000
      · rw [if_pos h] at hk
        exact ⟨h, by unfold numB; simp; omega, h2, by omega⟩
      · rw [if_neg h] at hk
        omega
    obtain ⟨x0, x1, x2, x3, xf, xl⟩ := S8.out.1.s.box.cells
    have hdv : ((nn : Int)).tdiv 64 = (nn : Int) / 64 := Int.tdiv_eq_ediv_of_nonneg (by omega)
    go_upto_region 14 with fail
    go_cut [14] from 110 to 137 (fun s14 wx => s14 = .bool wv ∧ wx = wk)
    case first =>
      have hF : ∀ {P : Prop}, (Wr nn M at_ sq → False) → wv = false := fun h => by
        cases hb : wv with
        | false => rfl
        | true => exact (h (HWV.out.1 hb)).elim
      have HF : Hid ((Wr nn M at_ sq → False) → wv = false) := fun h => hF (P := True) h
      clear hF
      by_cases h1 : KK = 0
      · have e := HF.out (fun h => by have := HKW.out h; have := cntOf_pos M; omega)
        subst h1
        (first
          | (exfalso; omega)
          | (go_wp2; go_meet; (case rel => exact ⟨by rw [e], rfl⟩)))
      have g1 : (0 : Int) < (KK : Int) := by omega
      by_cases h2 : at_ < 2
      · have e := HF.out (fun h => by have := h.2.2.1; omega)
        have g2 : ¬ (2 : Int) ≤ at_ := by omega
        (first
          | (exfalso; omega)
          | (go_wp2; go_meet; (case rel => exact ⟨by rw [e], rfl⟩)))
      have g2 : (2 : Int) ≤ at_ := by omega
      by_cases h3 : 2000 < at_
      · have e := HF.out (fun h => by have := h.2.2.2; omega)
        have g3 : ¬ at_ ≤ (2000 : Int) := by omega
        (first
          | (exfalso; omega)
          | (go_wp2; go_meet; (case rel => exact ⟨by rw [e], rfl⟩)))
      have g3 : at_ ≤ (2000 : Int) := by omega
      by_cases h4 : (nn : Int) / 64 < at_ + (KK : Int)
      · have e := HF.out (fun h => by have := h.2.2.2; have := HKW.out h; omega)
        have g4 : ¬ at_ + (KK : Int) ≤ (nn : Int) / 64 := by omega
        (first
          | (exfalso; omega)
          | (go_wp2; go_meet; (case rel => exact ⟨by rw [e], rfl⟩)))
      have g4 : at_ + (KK : Int) ≤ (nn : Int) / 64 := by omega
      by_cases h5 : sq < 1
      · have e := HF.out (fun h => by have := h.2.1; unfold numB at this; simp at this; omega)
        have g5 : ¬ (1 : Int) ≤ sq := by omega
        (first
          | (exfalso; omega)
          | (go_wp2; go_meet; (case rel => exact ⟨by rw [e], rfl⟩)))
      have g5 : (1 : Int) ≤ sq := by omega
      by_cases h6 : 2000000000 < sq
      · have e := HF.out (fun h => by have := h.2.1; unfold numB at this; simp at this; omega)
        have g6 : ¬ sq ≤ (2000000000 : Int) := by omega
        (first
          | (exfalso; omega)
          | (go_wp2; go_meet; (case rel => exact ⟨by rw [e], rfl⟩)))
      have g6 : sq ≤ (2000000000 : Int) := by omega
      have e := HWV.out.2 (HWI.out (by omega) g2 g4 g5 g6)
      (first
        | (exfalso; omega)
        | (go_wp2; go_meet; (case rel => exact ⟨by rw [e], rfl⟩)))
    case rest =>
    obtain ⟨rfl, hwc⟩ := hcut
    subst hwc
    clear x0 x1 x2 x3 xf xl hdv
    obtain ⟨wf, hwf⟩ : ∃ wf, wf = wv := ⟨_, rfl⟩
    have hwz := HNW.out
    subst hwz
    have HV0 : Hid (VD nn 0 (fun _ => 0) (fun _ => 0) (-1)) := ⟨by unfold VH; omega, fun i hi => absurd hi (Nat.not_lt_zero _)⟩
    go_wp2
    go_loopw [15] (fun iv wr => ∃ i : Nat, i ≤ nn / 64 ∧ iv = .int .i64 i ∧ FrT wr b5 a p nn c' 0 q d S L F fuel dead ap M Fp a1 n1 f1 b6 b7 b8 (.slice a6 nn c6) (.slice p6 u.m q6) (.slice a7 nn c7) (.slice p7 u.m q7) u.fuel u.dead ac cc pc qc dc ∧ Below w.heap.size w wr) (fun iv _ => nn - (intOf iv).toNat)
    case atStart => exact ⟨0, Nat.zero_le _, rfl, S8.out⟩
    case round =>
      obtain ⟨i, hi, rfl, hT, hB⟩ := hrel
      have HT0 : Hid (FrT wr.drew b5 a p nn c' 0 q d S L F fuel dead ap M Fp a1 n1 f1 b6 b7 b8 (.slice a6 nn c6) (.slice p6 u.m q6) (.slice a7 nn c7) (.slice p7 u.m q7) u.fuel u.dead ac cc pc qc dc) := hT.below (Below.refl _ _).drew
      have HTr : Hid (FrT wr b5 a p nn c' 0 q d S L F fuel dead ap M Fp a1 n1 f1 b6 b7 b8 (.slice a6 nn c6) (.slice p6 u.m q6) (.slice a7 nn c7) (.slice p7 u.m q7) u.fuel u.dead ac cc pc qc dc) := hT
      have HBW : Hid (Below w.heap.size w wr) := hB
      have HCC : Hid (∀ W, Below wr.heap.size wr W → FrT W b5 a p nn c' 0 q d S L F fuel dead ap M Fp a1 n1 f1 b6 b7 b8 (.slice a6 nn c6) (.slice p6 u.m q6) (.slice a7 nn c7) (.slice p7 u.m q7) u.fuel u.dead ac cc pc qc dc ∧ W.cell? ⟨b5, 0, none⟩ = some (.slice a nn c') ∧ W.cell? ⟨b5, 1, none⟩ = some (.slice p 0 q) ∧ W.cell? ⟨b5, 2, none⟩ = some (.int .i64 fuel) ∧ W.cell? ⟨b5, 3, none⟩ = some (.bool dead) ∧ W.cell? ⟨b8, 0, none⟩ = some (.slice ac nn cc) ∧ W.cell? ⟨b8, 1, none⟩ = some (.slice pc 0 qc) ∧ W.cell? ⟨b8, 2, none⟩ = some (.int .i64 (-1)) ∧ W.cell? ⟨b8, 3, none⟩ = some (.bool false)) := fun W hW => by
        have h := HTr.out.below hW
        obtain ⟨x0, x1, x2, x3, -⟩ := h.s.box.cells
        obtain ⟨y0, y1, y2, y3, -⟩ := h.c.cells
        exact ⟨h, x0, x1, x2, x3, y0, y1, y2, y3⟩
      clear hT hB S8
      have w64 : IntKind.i64.wrap (64 * (i : Int)) = 64 * (i : Int) := by rw [IntKind.wrap_i64]; omega
      obtain ⟨x0, x1, x2, x3, xf, xl⟩ := HTr.out.s.box.cells
      obtain ⟨y0, y1, y2, y3, yf, yl⟩ := HTr.out.c.cells
      by_cases hlt : i < nn / 64
      · have i1 : 64 * (i : Int) < (nn : Int) := by omega
        have i1' : decide (64 * (i : Int) < (nn : Int)) = true := decide_eq_true i1
        have HSAME : Hid (SameS dc d i) := HDC.out.1 i (.inl (fun h => by have := HWV.out.2 h; cases this))
        go_upto_region 18 with fail
        refine wp_region_late (S := (fun w' => (w'.cell? ⟨b5, 0, none⟩ = some (.slice a nn c') ∧ w'.cell? ⟨b5, 1, none⟩ = some (.slice p 0 q) ∧ w'.cell? ⟨b5, 2, none⟩ = some (.int .i64 fuel) ∧ w'.cell? ⟨b5, 3, none⟩ = some (.bool dead)) ∧ (w'.cell? ⟨b8, 0, none⟩ = some (.slice ac nn cc) ∧ w'.cell? ⟨b8, 1, none⟩ = some (.slice pc 0 qc) ∧ w'.cell? ⟨b8, 2, none⟩ = some (.int .i64 (-1)) ∧ w'.cell? ⟨b8, 3, none⟩ = some (.bool false)))) 23 (by kernel_rfl) ?_ (fun hHeld => ?_)
        · ((try dsimp only); go_keep)
        refine late_take 0 .zero (v := ?_) (by kernel_rfl) (by kernel_rfl) (by kernel_rfl) (by kernel_rfl) (fun _ _ _ h => h) (by rfl) ?_ (by assumption) ?_
        rotate_left
        · (intro w hSw; (try dsimp only at hSw); go_simp) <;> with_reducible rfl
        simp only [Act.put, List.setIfInBounds_toArray, List.set_cons_zero, List.set_cons_succ]
        refine late_take 1 (.succ .zero) (v := ?_) (by kernel_rfl) (by kernel_rfl) (by kernel_rfl) (by kernel_rfl) (fun _ _ _ h => h) (by rfl) ?_ (by assumption) ?_
        rotate_left
        · (intro w hSw; (try dsimp only at hSw); go_simp) <;> with_reducible rfl
        simp only [Act.put, List.setIfInBounds_toArray, List.set_cons_zero, List.set_cons_succ]
        refine late_take 2 (.succ (.succ .zero)) (v := ?_) (by kernel_rfl) (by kernel_rfl) (by kernel_rfl) (by kernel_rfl) (fun _ _ _ h => h) (by rfl) ?_ (by assumption) ?_
        rotate_left
        · (intro w hSw; (try dsimp only at hSw); go_simp) <;> with_reducible rfl
        simp only [Act.put, List.setIfInBounds_toArray, List.set_cons_zero, List.set_cons_succ]
        refine late_skip 3 (.succ (.succ (.succ .zero))) (by kernel_rfl) (by kernel_rfl) (by kernel_rfl) (by kernel_rfl) (fun _ _ _ h => h) (by rfl) (by assumption) ?_
        simp only [Act.put, List.setIfInBounds_toArray, List.set_cons_zero, List.set_cons_succ]
        refine late_skip 4 (.succ (.succ (.succ (.succ .zero)))) (by kernel_rfl) (by kernel_rfl) (by kernel_rfl) (by kernel_rfl) (fun _ _ _ h => h) (by rfl) (by assumption) ?_
        simp only [Act.put, List.setIfInBounds_toArray, List.set_cons_zero, List.set_cons_succ]
        refine late_skip 5 (.succ (.succ (.succ (.succ (.succ .zero))))) (by kernel_rfl) (by kernel_rfl) (by kernel_rfl) (by kernel_rfl) (fun _ _ _ h => h) (by rfl) (by assumption) ?_
        simp only [Act.put, List.setIfInBounds_toArray, List.set_cons_zero, List.set_cons_succ]
        refine late_take 6 (.succ (.succ (.succ (.succ (.succ (.succ .zero)))))) (v := ?_) (by kernel_rfl) (by kernel_rfl) (by kernel_rfl) (by kernel_rfl) (fun _ _ _ h => h) (by rfl) ?_ (by assumption) ?_
        rotate_left
        · (intro w hSw; (try dsimp only at hSw); go_simp) <;> with_reducible rfl
        simp only [Act.put, List.setIfInBounds_toArray, List.set_cons_zero, List.set_cons_succ]
        refine late_take 7 (.succ (.succ (.succ (.succ (.succ (.succ (.succ .zero))))))) (v := ?_) (by kernel_rfl) (by kernel_rfl) (by kernel_rfl) (by kernel_rfl) (fun _ _ _ h => h) (by rfl) ?_ (by assumption) ?_
        rotate_left
        · (intro w hSw; (try dsimp only at hSw); go_simp) <;> with_reducible rfl
        simp only [Act.put, List.setIfInBounds_toArray, List.set_cons_zero, List.set_cons_succ]
        refine late_skip 8 (.succ (.succ (.succ (.succ (.succ (.succ (.succ (.succ .zero)))))))) (by kernel_rfl) (by kernel_rfl) (by kernel_rfl) (by kernel_rfl) (fun _ _ _ h => h) (by rfl) (by assumption) ?_
        simp only [Act.put, List.setIfInBounds_toArray, List.set_cons_zero, List.set_cons_succ]
        refine late_skip 9 (.succ (.succ (.succ (.succ (.succ (.succ (.succ (.succ (.succ .zero))))))))) (by kernel_rfl) (by kernel_rfl) (by kernel_rfl) (by kernel_rfl) (fun _ _ _ h => h) (by rfl) (by assumption) ?_
        simp only [Act.put, List.setIfInBounds_toArray, List.set_cons_zero, List.set_cons_succ]
        refine late_skip 10 (.succ (.succ (.succ (.succ (.succ (.succ (.succ (.succ (.succ (.succ .zero)))))))))) (by kernel_rfl) (by kernel_rfl) (by kernel_rfl) (by kernel_rfl) (fun _ _ _ h => h) (by rfl) (by assumption) ?_
        simp only [Act.put, List.setIfInBounds_toArray, List.set_cons_zero, List.set_cons_succ]
        refine late_skip 11 (.succ (.succ (.succ (.succ (.succ (.succ (.succ (.succ (.succ (.succ (.succ .zero))))))))))) (by kernel_rfl) (by kernel_rfl) (by kernel_rfl) (by kernel_rfl) (fun _ _ _ h => h) (by rfl) (by assumption) ?_
        simp only [Act.put, List.setIfInBounds_toArray, List.set_cons_zero, List.set_cons_succ]
        refine late_skip 12 (.succ (.succ (.succ (.succ (.succ (.succ (.succ (.succ (.succ (.succ (.succ (.succ .zero)))))))))))) (by kernel_rfl) (by kernel_rfl) (by kernel_rfl) (by kernel_rfl) (fun _ _ _ h => h) (by rfl) (by assumption) ?_
        simp only [Act.put, List.setIfInBounds_toArray, List.set_cons_zero, List.set_cons_succ]
        refine late_take 13 (.succ (.succ (.succ (.succ (.succ (.succ (.succ (.succ (.succ (.succ (.succ (.succ (.succ .zero))))))))))))) (v := ?_) (by kernel_rfl) (by kernel_rfl) (by kernel_rfl) (by kernel_rfl) (fun _ _ _ h => h) (by rfl) ?_ (by assumption) ?_
        rotate_left
        · (intro w hSw; (try dsimp only at hSw); go_simp) <;> with_reducible rfl
        simp only [Act.put, List.setIfInBounds_toArray, List.set_cons_zero, List.set_cons_succ]
        refine late_take 14 (.succ (.succ (.succ (.succ (.succ (.succ (.succ (.succ (.succ (.succ (.succ (.succ (.succ (.succ .zero)))))))))))))) (v := ?_) (by kernel_rfl) (by kernel_rfl) (by kernel_rfl) (by kernel_rfl) (fun _ _ _ h => h) (by rfl) ?_ (by assumption) ?_
        rotate_left
        · (intro w hSw; (try dsimp only at hSw); go_simp) <;> with_reducible rfl
        simp only [Act.put, List.setIfInBounds_toArray, List.set_cons_zero, List.set_cons_succ]
        refine late_take 15 (.succ (.succ (.succ (.succ (.succ (.succ (.succ (.succ (.succ (.succ (.succ (.succ (.succ (.succ (.succ .zero))))))))))))))) (v := ?_) (by kernel_rfl) (by kernel_rfl) (by kernel_rfl) (by kernel_rfl) (fun _ _ _ h => h) (by rfl) ?_ (by assumption) ?_
        rotate_left
        · (intro w hSw; (try dsimp only at hSw); go_simp) <;> with_reducible rfl
        simp only [Act.put, List.setIfInBounds_toArray, List.set_cons_zero, List.set_cons_succ]
        refine late_take 16 (.succ (.succ (.succ (.succ (.succ (.succ (.succ (.succ (.succ (.succ (.succ (.succ (.succ (.succ (.succ (.succ .zero)))))))))))))))) (v := ?_) (by kernel_rfl) (by kernel_rfl) (by kernel_rfl) (by kernel_rfl) (fun _ _ _ h => h) (by rfl) ?_ (by assumption) ?_
        rotate_left
        · (intro w hSw; (try dsimp only at hSw); go_simp) <;> with_reducible rfl
        simp only [Act.put, List.setIfInBounds_toArray, List.set_cons_zero, List.set_cons_succ]
        refine late_take 18 (.succ (.succ (.succ (.succ (.succ (.succ (.succ (.succ (.succ (.succ (.succ (.succ (.succ (.succ (.succ (.succ (.succ (.succ .zero)))))))))))))))))) (v := ?_) (by kernel_rfl) (by kernel_rfl) (by kernel_rfl) (by kernel_rfl) (fun _ _ _ h => h) (by rfl) ?_ (by assumption) ?_
        rotate_left
        · (intro w hSw; (try dsimp only at hSw); go_simp) <;> with_reducible rfl
        simp only [Act.put, List.setIfInBounds_toArray, List.set_cons_zero, List.set_cons_succ]
        refine late_take 19 (.succ (.succ (.succ (.succ (.succ (.succ (.succ (.succ (.succ (.succ (.succ (.succ (.succ (.succ (.succ (.succ (.succ (.succ (.succ .zero))))))))))))))))))) (v := ?_) (by kernel_rfl) (by kernel_rfl) (by kernel_rfl) (by kernel_rfl) (fun _ _ _ h => h) (by rfl) ?_ (by assumption) ?_
        rotate_left
        · (intro w hSw; (try dsimp only at hSw); go_simp) <;> with_reducible rfl
        simp only [Act.put, List.setIfInBounds_toArray, List.set_cons_zero, List.set_cons_succ]
        refine late_one 17 (.succ (.succ (.succ (.succ (.succ (.succ (.succ (.succ (.succ (.succ (.succ (.succ (.succ (.succ (.succ (.succ (.succ .zero))))))))))))))))) (by kernel_rfl) (fun K hK => ?_)
        (refine step_ttr (by rfl) _ _ _ _ rfl (.agg #[.slice ac nn cc, .slice pc 0 qc, .int .i64 (-1), .bool false]) (.int .i64 (i : Int)) (by rfl) (by rfl) (enters_of Try.func11 (by kernel_rfl) rfl) ?_; refine (implRead_good ac pc nn cc 0 qc dc (fun _ => 0) (fun _ => 0) (fun _ _ => 0) (-1) false i wr.drew HT0.out.rc (Or.inl rfl) HV0.out hlt hn hcc hcc2 (by omega)).mono ?_; rintro e w20 ⟨a20, c20, rfl, ho20, hb20, -, -⟩; refine ⟨_, rfl, ?_⟩; obtain ⟨HT1, x0, x1, x2, x3, y0, y1, y2, y3⟩ := HCC.out w20 ((Below.refl _ _).drew.trans hb20))
        refine hK.out _ _ ?_ (fun hHeld2 => ?_)
        · (intro _; (try dsimp only); go_keep)
        clear hK K
        replace hHeld := hHeld2 (by decide)
        clear hHeld2
        try simp only [Act.put, List.setIfInBounds_toArray, List.set_cons_zero, List.set_cons_succ]
        refine late_one 20 (.succ (.succ (.succ (.succ (.succ (.succ (.succ (.succ (.succ (.succ (.succ (.succ (.succ (.succ (.succ (.succ (.succ (.succ (.succ (.succ .zero)))))))))))))))))))) (by kernel_rfl) (fun K hK => ?_)
        (refine step_ttr (by rfl) _ _ _ _ rfl (.agg #[.slice a nn c', .slice p 0 q, .int .i64 fuel, .bool dead]) (.int .i64 (i : Int)) (by rfl) (by rfl) (enters_of Try.func12 (by kernel_rfl) rfl) ?_; refine (specRead_good a p nn c' 0 q d S L F fuel dead i w20 HT1.s.rd HT1.s.rp HV.out hlt hn hnc hcm (by omega)).mono ?_; rintro e w21 ⟨a21, c21, rfl, ho21, hb21, -, -⟩; refine ⟨_, rfl, ?_⟩; obtain ⟨HT2, x0, x1, x2, x3, y0, y1, y2, y3⟩ := HCC.out w21 (((Below.refl _ _).drew.trans hb20).trans (hb21.mono (by have := hb20.size; exact this))))
        refine hK.out _ _ ?_ (fun hHeld2 => ?_)
        · (intro _; (try dsimp only); go_keep)
        clear hK K
        replace hHeld := hHeld2 (by decide)
        clear hHeld2
        try simp only [Act.put, List.setIfInBounds_toArray, List.set_cons_zero, List.set_cons_succ]
        refine late_one 21 (.succ (.succ (.succ (.succ (.succ (.succ (.succ (.succ (.succ (.succ (.succ (.succ (.succ (.succ (.succ (.succ (.succ (.succ (.succ (.succ (.succ .zero))))))))))))))))))))) (by kernel_rfl) (fun K hK => ?_)
        (refine step_ttr (by rfl) _ _ _ _ rfl (.slice a20 64 c20) (.slice a21 64 c21) (by rfl) (by rfl) (enters_of Try.func10 (by kernel_rfl) rfl) ?_; refine (lwBytes_eq a20 a21 64 c20 c21 _ _ w21 (ho20.below hb21).rd ho21.rd (fun j hj => HSAME.out j hj)).mono ?_; rintro e w22 ⟨rfl, hw22⟩; subst hw22; refine ⟨_, rfl, ?_⟩)
        refine hK.out _ _ ?_ (fun hHeld2 => ?_)
        · (intro _; (try dsimp only); go_keep)
        clear hK K
        replace hHeld := hHeld2 (by decide)
        clear hHeld2
        try simp only [Act.put, List.setIfInBounds_toArray, List.set_cons_zero, List.set_cons_succ]
        refine late_take 22 (.succ (.succ (.succ (.succ (.succ (.succ (.succ (.succ (.succ (.succ (.succ (.succ (.succ (.succ (.succ (.succ (.succ (.succ (.succ (.succ (.succ (.succ .zero)))))))))))))))))))))) (v := ?_) (by kernel_rfl) (by kernel_rfl) (by kernel_rfl) (by kernel_rfl) (fun _ _ _ h => h) (by rfl) ?_ (by assumption) ?_
        rotate_left
        · (intro w hSw; (try dsimp only at hSw); go_simp) <;> with_reducible rfl
        simp only [Act.put, List.setIfInBounds_toArray, List.set_cons_zero, List.set_cons_succ]
        refine late_one 23 (.succ (.succ (.succ (.succ (.succ (.succ (.succ (.succ (.succ (.succ (.succ (.succ (.succ (.succ (.succ (.succ (.succ (.succ (.succ (.succ (.succ (.succ (.succ .zero))))))))))))))))))))))) (by kernel_rfl) (fun K hK => ?_)
        go_simp
        refine hK.out _ _ ?_ (fun hHeld2 => ?_)
        · (intro hne; exact absurd rfl hne)
        clear hK K hHeld2
        refine wpLate_done (by kernel_rfl) ?_ _
        have SN : Hid (FrT w22 b5 a p nn c' 0 q d S L F fuel dead ap M Fp a1 n1 f1 b6 b7 b8 (.slice a6 nn c6) (.slice p6 u.m q6) (.slice a7 nn c7) (.slice p7 u.m q7) u.fuel u.dead ac cc pc qc dc ∧ Below w.heap.size w w22) := ⟨HT2, HBW.out.trans ((((Below.refl _ _).drew.trans hb20).trans (hb21.mono (by have := hb20.size; exact this))).mono HBW.out.size)⟩
        clear HT1 HT2 ho20 ho21 hb20 hb21 x0 x1 x2 x3 y0 y1 y2 y3 xf xl yf yl
        go_wp2
        go_roundw
        case rel => exact ⟨i + 1, by omega, by go_num, SN.out.1, SN.out.2⟩
        case measure => simp [intOf]; omega
      · have i1 : ¬ 64 * (i : Int) < (nn : Int) := by omega
        have i1' : decide (64 * (i : Int) < (nn : Int)) = false := decide_eq_false i1
        go_wp2
        go_ret
        exact ⟨rfl, HBW.out⟩
  have g2 : (0 : Int) < (KK : Int) := by omega
  by_cases hp3 : at_ + (KK : Int) - 1 < (nn : Int) / 64
  · obtain ⟨s, hs⟩ : ∃ s : Nat, at_ + (KK : Int) - 1 = (s : Int) := ⟨(at_ + (KK : Int) - 1).toNat, by omega⟩
    have HS : Hid (at_ + (KK : Int) - 1 = (s : Int)) := hs
    have hs2 : s < nn / 64 := by omega
    clear hs
    go_wp2_with fail
    refine (specRead_at (at_ + (KK : Int) - 1) a p nn c' 0 q d S L F fuel dead s w4 HS.out S3.out.1.rd S3.out.1.rp HV.out hs2 hn hnc hcm (by omega)).mono ?_
    rintro e w5 ⟨aL, cL, rfl, hoL, hbL, -, -⟩
    have S5 : Hid (FrS w5 b5 a p nn c' 0 q d S L F fuel dead ap M Fp a1 n1 f1 ∧ Below w.heap.size w w5) := ⟨S3.out.1.below hbL, S3.out.2.trans (hbL.mono S3.out.2.size)⟩
    clear hbL S3 x0 x1 x2 x3 xf xl
    rcases hoL with h0 | ⟨gL, rfl, _, hrL⟩
    · omega
    have y0 := hrL.cell (i := 0) (by omega)
    have y1 := hrL.cell (i := 1) (by omega)
    have y2 := hrL.cell (i := 2) (by omega)
    have y3 := hrL.cell (i := 3) (by omega)
    have r0 := HRR.out s 0 (by omega)
    have r1 := HRR.out s 1 (by omega)
    have r2 := HRR.out s 2 (by omega)
    have r3 := HRR.out s 3 (by omega)
    obtain ⟨e0, he0⟩ : ∃ e0, e0 = secF d S F 0 s 0 := ⟨_, rfl⟩
    obtain ⟨e1, he1⟩ : ∃ e1, e1 = secF d S F 0 s 1 := ⟨_, rfl⟩
    obtain ⟨e2, he2⟩ : ∃ e2, e2 = secF d S F 0 s 2 := ⟨_, rfl⟩
    obtain ⟨e3, he3⟩ : ∃ e3, e3 = secF d S F 0 s 3 := ⟨_, rfl⟩
    have HGN : Hid (getN (fun j => d (s * 64 + j)) 0 4 = e0 + 256 * e1 + 65536 * e2 + 16777216 * e3) := by
      rw [he0, he1, he2, he3]
      show getN (secF d S F 0 s) 0 4 = _
      simp [getN]
      omega
    rw [← he0] at y0 r0
    rw [← he1] at y1 r1
    rw [← he2] at y2 r2
    rw [← he3] at y3 r3
    clear hrL he0 he1 he2 he3
    have k1 : IntKind.i64.wrap (256 * e1) = 256 * e1 := by rw [IntKind.wrap_i64]; omega
    have k2 : IntKind.i64.wrap (65536 * e2) = 65536 * e2 := by rw [IntKind.wrap_i64]; omega
    have k3 : IntKind.i64.wrap (16777216 * e3) = 16777216 * e3 := by rw [IntKind.wrap_i64]; omega
    have k4 : IntKind.i64.wrap (e0 + 256 * e1) = e0 + 256 * e1 := by rw [IntKind.wrap_i64]; omega
    have k5 : IntKind.i64.wrap (e0 + 256 * e1 + 65536 * e2) = e0 + 256 * e1 + 65536 * e2 := by rw [IntKind.wrap_i64]; omega
    have k6 : IntKind.i64.wrap (e0 + 256 * e1 + 65536 * e2 + 16777216 * e3) = e0 + 256 * e1 + 65536 * e2 + 16777216 * e3 := by rw [IntKind.wrap_i64]; omega
    have l0 : IntKind.i64.wrap e0 = e0 := by rw [IntKind.wrap_i64]; omega
    have l1 : IntKind.i64.wrap e1 = e1 := by rw [IntKind.wrap_i64]; omega
    have l2 : IntKind.i64.wrap e2 = e2 := by rw [IntKind.wrap_i64]; omega
    have l3 : IntKind.i64.wrap e3 = e3 := by rw [IntKind.wrap_i64]; omega
    by_cases hqq : e0 + 256 * e1 + 65536 * e2 + 16777216 * e3 = sq
    · have hq1 : (e0 + 256 * e1 + 65536 * e2 + 16777216 * e3 == sq) = true := by simp [hqq]
      clear hqq
      go_wp2
      go_quiet (fail)
      go_wp2
      go_ret
      exact ⟨rfl, below_drewN S5.out.2 _⟩
    · have hq1 : (e0 + 256 * e1 + 65536 * e2 + 16777216 * e3 == sq) = false := by simp [hqq]
      have HLAST : Hid (Wr nn M at_ sq → ∀ A : Nat, at_ = (A : Int) → getN (fun j => d ((A + cntOf M - 1) * 64 + j)) 0 4 ≠ sq) := fun h A eA => by
        have h3 := HK.out
        have h4 := cntOf_pos M
        have h5 := HS.out
        unfold kOf at h3
        rw [if_pos h.1] at h3
        rw [show A + cntOf M - 1 = s by omega, HGN.out]
        exact hqq
      clear hqq
      go_wp2
      go_quiet (fail)
      clear y0 y1 y2 y3 k1 k2 k3 k4 k5 k6 l0 l1 l2 l3 hq1 r0 r1 r2 r3
      go_upto_region 11 with fail
      have S9 : Hid (FrS (w5.drewN nq) b5 a p nn c' 0 q d S L F fuel dead ap M Fp a1 n1 f1 ∧ Below w.heap.size w (w5.drewN nq)) := ⟨S5.out.1.below (below_drewN (Below.refl _ _) nq), below_drewN S5.out.2 nq⟩
      clear S5
      generalize w5.drewN nq = w9 at S9 ⊢
      clear w5
      obtain ⟨w5, hw5⟩ : ∃ w5, w5 = w9 := ⟨_, rfl⟩
      rw [← hw5] at S9 ⊢
      clear hw5
      have S5 := S9
      clear S9
      obtain ⟨x0, x1, x2, x3, xf, xl⟩ := S5.out.1.box.cells
      go_wp2_with fail
      refine (HSW.out w5 a p ap c' q cp hcp hcpm S5.out.1.rd S5.out.1.rp S5.out.1.pay).mono ?_
      rintro e w6 ⟨a6, c6, p6, q6, A6, rfl, ho6, hb6⟩
      have S6 : Hid (FrS (w6.alloc (.cells #[.slice a6 nn c6, .slice p6 u.m q6, .int .i64 u.fuel, .bool u.dead] 25)) b5 a p nn c' 0 q d S L F fuel dead ap M Fp a1 n1 f1 ∧ DkRow (w6.alloc (.cells #[.slice a6 nn c6, .slice p6 u.m q6, .int .i64 u.fuel, .bool u.dead] 25)) w6.heap.size (.slice a6 nn c6) (.slice p6 u.m q6) u.fuel u.dead ∧ Below w.heap.size w (w6.alloc (.cells #[.slice a6 nn c6, .slice p6 u.m q6, .int .i64 u.fuel, .bool u.dead] 25))) := by
        have hb : Below w.heap.size w w6 := S5.out.2.trans (hb6.mono S5.out.2.size)
        exact ⟨(S5.out.1.below hb6).below (below_alloc _ _), rowInNew _ _ _ _ _, hb.alloc hb.size _⟩
      clear ho6 hb6 S5 x0 x1 x2 x3 xf xl
      go_upto_region 12 with fail
      generalize (w6.alloc (.cells #[.slice a6 nn c6, .slice p6 u.m q6, .int .i64 u.fuel, .bool u.dead] 25)) = W6 at S6 ⊢
      generalize w6.heap.size = b6 at S6 ⊢
      obtain ⟨x0, x1, x2, x3, xf, xl⟩ := S6.out.1.box.cells
      go_wp2_with fail
      refine (HIW.out W6 a p ap c' q cp hcp hcpm S6.out.1.rd S6.out.1.rp S6.out.1.pay).mono ?_
      rintro e w7 ⟨a7, c7, p7, q7, A7, rfl, ho7, hb7⟩
      have S7 : Hid ((FrS (w7.alloc (.cells #[.slice a7 nn c7, .slice p7 u.m q7, .int .i64 u.fuel, .bool u.dead] 25)) b5 a p nn c' 0 q d S L F fuel dead ap M Fp a1 n1 f1 ∧ DkRow (w7.alloc (.cells #[.slice a7 nn c7, .slice p7 u.m q7, .int .i64 u.fuel, .bool u.dead] 25)) b6 (.slice a6 nn c6) (.slice p6 u.m q6) u.fuel u.dead ∧ DkRow (w7.alloc (.cells #[.slice a7 nn c7, .slice p7 u.m q7, .int .i64 u.fuel, .bool u.dead] 25)) w7.heap.size (.slice a7 nn c7) (.slice p7 u.m q7) u.fuel u.dead) ∧ (Rd .u8 (w7.alloc (.cells #[.slice a7 nn c7, .slice p7 u.m q7, .int .i64 u.fuel, .bool u.dead] 25)) a7 nn u.d ∧ RdP (w7.alloc (.cells #[.slice a7 nn c7, .slice p7 u.m q7, .int .i64 u.fuel, .bool u.dead] 25)) p7 u.m u.S u.L u.F) ∧ Below w.heap.size w (w7.alloc (.cells #[.slice a7 nn c7, .slice p7 u.m q7, .int .i64 u.fuel, .bool u.dead] 25))) := by
        have hb : Below w.heap.size w w7 := S6.out.2.2.trans (hb7.mono S6.out.2.2.size)
        exact ⟨⟨(S6.out.1.below hb7).below (below_alloc _ _), (S6.out.2.1.below hb7).below (below_alloc _ _), rowInNew _ _ _ _ _⟩, ⟨ho7.data.rd.below (below_alloc _ _), ho7.cache.rd.below (below_alloc _ _)⟩, hb.alloc hb.size _⟩
      clear ho7 hb7 S6 x0 x1 x2 x3 xf xl
      go_upto_region 13 with fail
      generalize (w7.alloc (.cells #[.slice a7 nn c7, .slice p7 u.m q7, .int .i64 u.fuel, .bool u.dead] 25)) = W7 at S7 ⊢
      generalize w7.heap.size = b7 at S7 ⊢
      have HUV : Hid (VD nn u.m u.S u.L u.fuel) := HU.out.1
      have hum : u.m ≤ 1048576 := (stt_vd_lens HUV.out).2.1
      obtain ⟨um, hum2⟩ : ∃ um, um = u.m := ⟨_, rfl⟩
      go_cut [13] from 106 to 109 (fun s13 wx => ∃ K, CB W7 wx s13 nn (crashTo u.d u.S u.F K 8 u.m))
      case first =>
        obtain ⟨x0, x1, x2, x3, xf, xl⟩ := S7.out.1.2.2.cells
        have J0 : Hid (Below W7.heap.size W7 W7.drew) := (Below.refl _ _).drew
        have HC7 : Hid (∀ W, Below W7.heap.size W7 W → W.cell? ⟨b7, 0, none⟩ = some (.slice a7 nn c7) ∧ W.cell? ⟨b7, 1, none⟩ = some (.slice p7 u.m q7) ∧ W.cell? ⟨b7, 2, none⟩ = some (.int .i64 u.fuel) ∧ W.cell? ⟨b7, 3, none⟩ = some (.bool u.dead)) := fun W hW => by
          obtain ⟨z0, z1, z2, z3, -⟩ := (S7.out.1.2.2.below hW).cells
          exact ⟨z0, z1, z2, z3⟩
        have J0a : Hid (∀ O, Below W7.heap.size W7 (W7.alloc O).drew) := fun O => ((Below.refl _ _).alloc (Nat.le_refl _) O).drew
        have HLK : Hid (∀ W, Below W7.heap.size W7 W → Calls Try.prog 19 #[.slice a1 n1 c1, .int .i64 0] W fun e w' => ∃ ak ck K, e = .returned (.slice ak 8 ck) ∧ RdBl w' ak 8 K ∧ Below W.heap.size W w') := fun W hW => lwKeep_any a1 n1 c1 f1 W (S7.out.1.1.more.below hW) HR1.out.2 (by omega)
        have HDC : Hid (∀ (W : World) (ak : Option Addr) (ck : Nat) (K : Nat → Bool), Below W7.heap.size W7 W → RdBl W ak 8 K → Calls Try.prog 7 #[.agg #[.slice a7 nn c7, .slice p7 u.m q7, .int .i64 u.fuel, .bool u.dead], .slice ak 8 ck] W fun e w' => RetDc W e w' nn (crashTo u.d u.S u.F K 8 u.m) 0 (fun _ => 0) (fun _ => 0) (fun _ _ => 0) (-1) false) := fun W ak ck K hW hk => implCrash_good a7 p7 ak nn c7 u.m q7 8 ck u.d u.S u.L u.F K u.fuel u.dead W (S7.out.2.1.1.below hW) (S7.out.2.1.2.below hW) hk HUV.out hn hum (by omega)
        have hlt7 : b7 < W7.heap.size := xl
        have n7 : ¬ b7 = W7.heap.size := by omega
        have n7' : ¬ W7.heap.size = b7 := by omega
        go_region_held3 (fun w' => w'.cell? ⟨b7, 0, none⟩ = some (.slice a7 nn c7) ∧ w'.cell? ⟨b7, 1, none⟩ = some (.slice p7 u.m q7) ∧ w'.cell? ⟨b7, 2, none⟩ = some (.int .i64 u.fuel) ∧ w'.cell? ⟨b7, 3, none⟩ = some (.bool u.dead)) (go_keep)
          (first
          | (go_at_call 19; (with_reducible refine (HLK.out W7.drew J0.out).mono ?_); rintro e w8 ⟨ak, ck, K, rfl, hk8, hb8⟩; have B8 := J0.out.trans (hb8.mono J0.out.size); obtain ⟨x0, x1, x2, x3⟩ := HC7.out w8 B8; have z8 := B8.size; have n8 : ¬ b7 = w8.heap.size := (by omega); have n8' : ¬ w8.heap.size = b7 := (by omega))
          | (go_at_call 19; (with_reducible refine (HLK.out (W7.alloc (.cells #[.slice none 0 0, .slice none 0 0, .int .i64 0, .bool false] 25)).drew (J0a.out _)).mono ?_); rintro e w8 ⟨ak, ck, K, rfl, hk8, hb8⟩; have B8 := (J0a.out _).trans (hb8.mono (J0a.out _).size); obtain ⟨x0, x1, x2, x3⟩ := HC7.out w8 B8; have k8 : DkRow w8 W7.heap.size (.slice none 0 0) (.slice none 0 0) 0 false := DkRow.below (w := (W7.alloc (.cells #[.slice none 0 0, .slice none 0 0, .int .i64 0, .bool false] 25)).drew) (rowInNew W7 _ _ _ _) hb8; have z8 := B8.size; have n8 : ¬ b7 = w8.heap.size := (by omega); have n8' : ¬ w8.heap.size = b7 := (by omega))
          | (go_at_call 7; (with_reducible refine (HDC.out w8 ak ck K B8 hk8).mono ?_); rintro e w9 ⟨ac, cc, pc, qc, Ac, rfl, ho9, hb9, hcc, hcc2⟩; have B9 := B8.trans (hb9.mono z8); obtain ⟨x0, x1, x2, x3⟩ := HC7.out w9 B9; have z9 := B9.size; have n9 : ¬ b7 = w9.heap.size := (by omega); have n9' : ¬ w9.heap.size = b7 := (by omega); (try have k9 := k8.below hb9); (try obtain ⟨f0, f1, f2, f3, ff, fl⟩ := k9.cells))
          | (go_at_call 7; (with_reducible refine (HDC.out (w8.alloc (.cells #[.slice none 0 0, .slice none 0 0, .int .i64 0, .bool false] 25)) ak ck K (B8.alloc z8 _) (hk8.below (below_alloc _ _))).mono ?_); rintro e w9 ⟨ac, cc, pc, qc, Ac, rfl, ho9, hb9, hcc, hcc2⟩; have B9 := (B8.alloc z8 _).trans (hb9.mono (B8.alloc z8 _).size); obtain ⟨x0, x1, x2, x3⟩ := HC7.out w9 B9; have k9 : DkRow w9 w8.heap.size (.slice none 0 0) (.slice none 0 0) 0 false := (rowInNew w8 _ _ _ _).below hb9; obtain ⟨f0, f1, f2, f3, ff, fl⟩ := k9.cells; have z9 := B9.size; have n9 : ¬ b7 = w9.heap.size := (by omega); have n9' : ¬ w9.heap.size = b7 := (by omega))
          | fail)
        all_goals
          go_wp2
          go_meet
          case rel =>
            refine ⟨K, ?_⟩
            first
            | ((with_reducible refine cb_set ho9.data hcc hcc2 k9 ?_ B9) <;> omega)
            | (with_reducible exact cb_new ho9.data hcc hcc2 B9)
            | (with_reducible exact cb_late ho9.data hcc hcc2 B9)
      case rest =>
      obtain ⟨wk, rfl⟩ : ∃ x, x = wc := ⟨_, rfl⟩
      obtain ⟨K, b8, ac, cc, pc, qc, rfl, hc8, hrc, hcc, hcc2, hb8⟩ := hcut
      obtain ⟨dc, hdc⟩ : ∃ dc, dc = crashTo u.d u.S u.F K 8 u.m := ⟨_, rfl⟩
      rw [← hdc] at hrc
      have S8 : Hid (FrT wk b5 a p nn c' 0 q d S L F fuel dead ap M Fp a1 n1 f1 b6 b7 b8 (.slice a6 nn c6) (.slice p6 u.m q6) (.slice a7 nn c7) (.slice p7 u.m q7) u.fuel u.dead ac cc pc qc dc ∧ Below w.heap.size w wk) := ⟨⟨S7.out.1.1.below hb8, S7.out.1.2.1.below hb8, S7.out.1.2.2.below hb8, hc8, hrc⟩, S7.out.2.2.trans (hb8.mono S7.out.2.2.size)⟩
      have HDC : Hid ((∀ i : Nat, ¬ Wr nn M at_ sq ∨ (i : Int) < at_ ∨ at_ + cntOf M ≤ (i : Int) → SameS dc d i) ∧ (Wr nn M at_ sq → ∀ A : Nat, at_ = (A : Int) → getN (fun j => d ((A + cntOf M - 1) * 64 + j)) 0 4 ≠ sq → ¬ recOk (fun i j => d ((A + i) * 64 + j)) ((nn : Int) / 64 - A) sq → (recOk (fun i j => dc ((A + i) * 64 + j)) ((nn : Int) / 64 - A) sq → getN ((fun i j => dc ((A + i) * 64 + j)) 0) 6 2 = (cntOf M : Int) ∧ catL (recLz (fun i j => dc ((A + i) * 64 + j))) (cntOf M) = M ∧ ∀ j, j < M → catF (recLz (fun i j => dc ((A + i) * 64 + j))) (recFz (fun i j => dc ((A + i) * 64 + j))) (cntOf M) j = Fp j) ∧ (u.dead = false → recOk (fun i j => dc ((A + i) * 64 + j)) ((nn : Int) / 64 - A) sq)) ∧ ∀ j, 0 ≤ dc j ∧ dc j < 256) := by
        rw [hdc]
        have q := rec_crash (t := ⟨d, 0, S, L, F, fuel, dead⟩) rfl HU.out.2 K 8
        exact ⟨q.1, q.2, rec_range (t := ⟨d, 0, S, L, F, fuel, dead⟩) rfl HU.out.2 K 8 HRG.out.1 HRG.out.2⟩
      clear hc8 hrc hb8 hdc S7 HSW HIW
      have HKW : Hid (Wr nn M at_ sq → (KK : Int) = cntOf M) := fun h => by rw [HK.out]; unfold kOf; rw [if_pos h.1]
      have HWI : Hid (0 < KK → 2 ≤ at_ → at_ + KK ≤ (nn : Int) / 64 → 1 ≤ sq → sq ≤ 2000000000 → Wr nn M at_ sq) := fun h1 h2 h3 h4 h5 => by
        have hk := HK.out
        unfold kOf at hk
        by_cases h : M ≤ 30000
        · rw [if_pos h] at hk
          exact ⟨h, by unfold numB; simp; omega, h2, by omega⟩
        · rw [if_neg h] at hk
          omega
      obtain ⟨x0, x1, x2, x3, xf, xl⟩ := S8.out.1.s.box.cells
      have hdv : ((nn : Int)).tdiv 64 = (nn : Int) / 64 := Int.tdiv_eq_ediv_of_nonneg (by omega)
      go_upto_region 14 with fail
      go_cut [14] from 110 to 137 (fun s14 wx => s14 = .bool wv ∧ wx = wk)
      case first =>
        have hF : ∀ {P : Prop}, (Wr nn M at_ sq → False) → wv = false := fun h => by
          cases hb : wv with
          | false => rfl
          | true => exact (h (HWV.out.1 hb)).elim
        have HF : Hid ((Wr nn M at_ sq → False) → wv = false) := fun h => hF (P := True) h
        clear hF
        by_cases h1 : KK = 0
        · have e := HF.out (fun h => by have := HKW.out h; have := cntOf_pos M; omega)
          subst h1
          (first
            | (exfalso; omega)
            | (go_wp2; go_meet; (case rel => exact ⟨by rw [e], rfl⟩)))
        have g1 : (0 : Int) < (KK : Int) := by omega
        by_cases h2 : at_ < 2
        · have e := HF.out (fun h => by have := h.2.2.1; omega)
          have g2 : ¬ (2 : Int) ≤ at_ := by omega
          (first
            | (exfalso; omega)
            | (go_wp2; go_meet; (case rel => exact ⟨by rw [e], rfl⟩)))
        have g2 : (2 : Int) ≤ at_ := by omega
        by_cases h3 : 2000 < at_
        · have e := HF.out (fun h => by have := h.2.2.2; omega)
          have g3 : ¬ at_ ≤ (2000 : Int) := by omega
          (first
            | (exfalso; omega)
            | (go_wp2; go_meet; (case rel => exact ⟨by rw [e], rfl⟩)))
        have g3 : at_ ≤ (2000 : Int) := by omega
        by_cases h4 : (nn : Int) / 64 < at_ + (KK : Int)
        · have e := HF.out (fun h => by have := h.2.2.2; have := HKW.out h; omega)
          have g4 : ¬ at_ + (KK : Int) ≤ (nn : Int) / 64 := by omega
          (first
            | (exfalso; omega)
            | (go_wp2; go_meet; (case rel => exact ⟨by rw [e], rfl⟩)))
        have g4 : at_ + (KK : Int) ≤ (nn : Int) / 64 := by omega
        by_cases h5 : sq < 1
        · have e := HF.out (fun h => by have := h.2.1; unfold numB at this; simp at this; omega)
          have g5 : ¬ (1 : Int) ≤ sq := by omega
          (first
            | (exfalso; omega)
            | (go_wp2; go_meet; (case rel => exact ⟨by rw [e], rfl⟩)))
        have g5 : (1 : Int) ≤ sq := by omega
        by_cases h6 : 2000000000 < sq
        · have e := HF.out (fun h => by have := h.2.1; unfold numB at this; simp at this; omega)
          have g6 : ¬ sq ≤ (2000000000 : Int) := by omega
          (first
            | (exfalso; omega)
            | (go_wp2; go_meet; (case rel => exact ⟨by rw [e], rfl⟩)))
        have g6 : sq ≤ (2000000000 : Int) := by omega
        have e := HWV.out.2 (HWI.out (by omega) g2 g4 g5 g6)
        (first
          | (exfalso; omega)
          | (go_wp2; go_meet; (case rel => exact ⟨by rw [e], rfl⟩)))
      case rest =>
      obtain ⟨rfl, hwc⟩ := hcut
      subst hwc
      clear x0 x1 x2 x3 xf xl hdv
      have HV0 : Hid (VD nn 0 (fun _ => 0) (fun _ => 0) (-1)) := ⟨by unfold VH; omega, fun i hi => absurd hi (Nat.not_lt_zero _)⟩
      go_wp2
      go_loopw [15] (fun iv wr => ∃ i : Nat, i ≤ nn / 64 ∧ iv = .int .i64 i ∧ FrT wr b5 a p nn c' 0 q d S L F fuel dead ap M Fp a1 n1 f1 b6 b7 b8 (.slice a6 nn c6) (.slice p6 u.m q6) (.slice a7 nn c7) (.slice p7 u.m q7) u.fuel u.dead ac cc pc qc dc ∧ Below w.heap.size w wr) (fun iv _ => nn - (intOf iv).toNat)
      case atStart => exact ⟨0, Nat.zero_le _, rfl, S8.out⟩
      case round =>
        obtain ⟨i, hi, rfl, hT, hB⟩ := hrel
        have HT0 : Hid (FrT wr.drew b5 a p nn c' 0 q d S L F fuel dead ap M Fp a1 n1 f1 b6 b7 b8 (.slice a6 nn c6) (.slice p6 u.m q6) (.slice a7 nn c7) (.slice p7 u.m q7) u.fuel u.dead ac cc pc qc dc) := hT.below (Below.refl _ _).drew
        have HTr : Hid (FrT wr b5 a p nn c' 0 q d S L F fuel dead ap M Fp a1 n1 f1 b6 b7 b8 (.slice a6 nn c6) (.slice p6 u.m q6) (.slice a7 nn c7) (.slice p7 u.m q7) u.fuel u.dead ac cc pc qc dc) := hT
        have HBW : Hid (Below w.heap.size w wr) := hB
        have HCC : Hid (∀ W, Below wr.heap.size wr W → FrT W b5 a p nn c' 0 q d S L F fuel dead ap M Fp a1 n1 f1 b6 b7 b8 (.slice a6 nn c6) (.slice p6 u.m q6) (.slice a7 nn c7) (.slice p7 u.m q7) u.fuel u.dead ac cc pc qc dc ∧ W.cell? ⟨b5, 0, none⟩ = some (.slice a nn c') ∧ W.cell? ⟨b5, 1, none⟩ = some (.slice p 0 q) ∧ W.cell? ⟨b5, 2, none⟩ = some (.int .i64 fuel) ∧ W.cell? ⟨b5, 3, none⟩ = some (.bool dead) ∧ W.cell? ⟨b8, 0, none⟩ = some (.slice ac nn cc) ∧ W.cell? ⟨b8, 1, none⟩ = some (.slice pc 0 qc) ∧ W.cell? ⟨b8, 2, none⟩ = some (.int .i64 (-1)) ∧ W.cell? ⟨b8, 3, none⟩ = some (.bool false)) := fun W hW => by
          have h := HTr.out.below hW
          obtain ⟨x0, x1, x2, x3, -⟩ := h.s.box.cells
          obtain ⟨y0, y1, y2, y3, -⟩ := h.c.cells
          exact ⟨h, x0, x1, x2, x3, y0, y1, y2, y3⟩
        clear hT hB S8
        have w64 : IntKind.i64.wrap (64 * (i : Int)) = 64 * (i : Int) := by rw [IntKind.wrap_i64]; omega
        obtain ⟨x0, x1, x2, x3, xf, xl⟩ := HTr.out.s.box.cells
        obtain ⟨y0, y1, y2, y3, yf, yl⟩ := HTr.out.c.cells
        by_cases hlt : i < nn / 64
        · have i1 : 64 * (i : Int) < (nn : Int) := by omega
          have i1' : decide (64 * (i : Int) < (nn : Int)) = true := decide_eq_true i1
          by_cases hwb : wv = false
          · have HSAME : Hid (SameS dc d i) := HDC.out.1 i (.inl (fun h => by have := HWV.out.2 h; rw [hwb] at this; cases this))
            subst hwb
            go_upto_region 18 with fail
            refine wp_region_late (S := (fun w' => (w'.cell? ⟨b5, 0, none⟩ = some (.slice a nn c') ∧ w'.cell? ⟨b5, 1, none⟩ = some (.slice p 0 q) ∧ w'.cell? ⟨b5, 2, none⟩ = some (.int .i64 fuel) ∧ w'.cell? ⟨b5, 3, none⟩ = some (.bool dead)) ∧ (w'.cell? ⟨b8, 0, none⟩ = some (.slice ac nn cc) ∧ w'.cell? ⟨b8, 1, none⟩ = some (.slice pc 0 qc) ∧ w'.cell? ⟨b8, 2, none⟩ = some (.int .i64 (-1)) ∧ w'.cell? ⟨b8, 3, none⟩ = some (.bool false)))) 23 (by kernel_rfl) ?_ (fun hHeld => ?_)
            · ((try dsimp only); go_keep)
            refine late_take 0 .zero (v := ?_) (by kernel_rfl) (by kernel_rfl) (by kernel_rfl) (by kernel_rfl) (fun _ _ _ h => h) (by rfl) ?_ (by assumption) ?_
            rotate_left
            · (intro w hSw; (try dsimp only at hSw); go_simp) <;> with_reducible rfl
            simp only [Act.put, List.setIfInBounds_toArray, List.set_cons_zero, List.set_cons_succ]
            refine late_take 1 (.succ .zero) (v := ?_) (by kernel_rfl) (by kernel_rfl) (by kernel_rfl) (by kernel_rfl) (fun _ _ _ h => h) (by rfl) ?_ (by assumption) ?_
            rotate_left
            · (intro w hSw; (try dsimp only at hSw); go_simp) <;> with_reducible rfl
            simp only [Act.put, List.setIfInBounds_toArray, List.set_cons_zero, List.set_cons_succ]
            refine late_take 2 (.succ (.succ .zero)) (v := ?_) (by kernel_rfl) (by kernel_rfl) (by kernel_rfl) (by kernel_rfl) (fun _ _ _ h => h) (by rfl) ?_ (by assumption) ?_
            rotate_left
            · (intro w hSw; (try dsimp only at hSw); go_simp) <;> with_reducible rfl
            simp only [Act.put, List.setIfInBounds_toArray, List.set_cons_zero, List.set_cons_succ]
            refine late_skip 3 (.succ (.succ (.succ .zero))) (by kernel_rfl) (by kernel_rfl) (by kernel_rfl) (by kernel_rfl) (fun _ _ _ h => h) (by rfl) (by assumption) ?_
            simp only [Act.put, List.setIfInBounds_toArray, List.set_cons_zero, List.set_cons_succ]
            refine late_skip 4 (.succ (.succ (.succ (.succ .zero)))) (by kernel_rfl) (by kernel_rfl) (by kernel_rfl) (by kernel_rfl) (fun _ _ _ h => h) (by rfl) (by assumption) ?_
            simp only [Act.put, List.setIfInBounds_toArray, List.set_cons_zero, List.set_cons_succ]
            refine late_skip 5 (.succ (.succ (.succ (.succ (.succ .zero))))) (by kernel_rfl) (by kernel_rfl) (by kernel_rfl) (by kernel_rfl) (fun _ _ _ h => h) (by rfl) (by assumption) ?_
            simp only [Act.put, List.setIfInBounds_toArray, List.set_cons_zero, List.set_cons_succ]
            refine late_take 6 (.succ (.succ (.succ (.succ (.succ (.succ .zero)))))) (v := ?_) (by kernel_rfl) (by kernel_rfl) (by kernel_rfl) (by kernel_rfl) (fun _ _ _ h => h) (by rfl) ?_ (by assumption) ?_
            rotate_left
            · (intro w hSw; (try dsimp only at hSw); go_simp) <;> with_reducible rfl
            simp only [Act.put, List.setIfInBounds_toArray, List.set_cons_zero, List.set_cons_succ]
            refine late_take 7 (.succ (.succ (.succ (.succ (.succ (.succ (.succ .zero))))))) (v := ?_) (by kernel_rfl) (by kernel_rfl) (by kernel_rfl) (by kernel_rfl) (fun _ _ _ h => h) (by rfl) ?_ (by assumption) ?_
            rotate_left
            · (intro w hSw; (try dsimp only at hSw); go_simp) <;> with_reducible rfl
            simp only [Act.put, List.setIfInBounds_toArray, List.set_cons_zero, List.set_cons_succ]
            refine late_skip 8 (.succ (.succ (.succ (.succ (.succ (.succ (.succ (.succ .zero)))))))) (by kernel_rfl) (by kernel_rfl) (by kernel_rfl) (by kernel_rfl) (fun _ _ _ h => h) (by rfl) (by assumption) ?_
            simp only [Act.put, List.setIfInBounds_toArray, List.set_cons_zero, List.set_cons_succ]
            refine late_skip 9 (.succ (.succ (.succ (.succ (.succ (.succ (.succ (.succ (.succ .zero))))))))) (by kernel_rfl) (by kernel_rfl) (by kernel_rfl) (by kernel_rfl) (fun _ _ _ h => h) (by rfl) (by assumption) ?_
            simp only [Act.put, List.setIfInBounds_toArray, List.set_cons_zero, List.set_cons_succ]
            refine late_skip 10 (.succ (.succ (.succ (.succ (.succ (.succ (.succ (.succ (.succ (.succ .zero)))))))))) (by kernel_rfl) (by kernel_rfl) (by kernel_rfl) (by kernel_rfl) (fun _ _ _ h => h) (by rfl) (by assumption) ?_
            simp only [Act.put, List.setIfInBounds_toArray, List.set_cons_zero, List.set_cons_succ]
            refine late_skip 11 (.succ (.succ (.succ (.succ (.succ (.succ (.succ (.succ (.succ (.succ (.succ .zero))))))))))) (by kernel_rfl) (by kernel_rfl) (by kernel_rfl) (by kernel_rfl) (fun _ _ _ h => h) (by rfl) (by assumption) ?_
            simp only [Act.put, List.setIfInBounds_toArray, List.set_cons_zero, List.set_cons_succ]
            refine late_skip 12 (.succ (.succ (.succ (.succ (.succ (.succ (.succ (.succ (.succ (.succ (.succ (.succ .zero)))))))))))) (by kernel_rfl) (by kernel_rfl) (by kernel_rfl) (by kernel_rfl) (fun _ _ _ h => h) (by rfl) (by assumption) ?_
            simp only [Act.put, List.setIfInBounds_toArray, List.set_cons_zero, List.set_cons_succ]
            refine late_take 13 (.succ (.succ (.succ (.succ (.succ (.succ (.succ (.succ (.succ (.succ (.succ (.succ (.succ .zero))))))))))))) (v := ?_) (by kernel_rfl) (by kernel_rfl) (by kernel_rfl) (by kernel_rfl) (fun _ _ _ h => h) (by rfl) ?_ (by assumption) ?_
            rotate_left
            · (intro w hSw; (try dsimp only at hSw); go_simp) <;> with_reducible rfl
            simp only [Act.put, List.setIfInBounds_toArray, List.set_cons_zero, List.set_cons_succ]
            refine late_take 14 (.succ (.succ (.succ (.succ (.succ (.succ (.succ (.succ (.succ (.succ (.succ (.succ (.succ (.succ .zero)))))))))))))) (v := ?_) (by kernel_rfl) (by kernel_rfl) (by kernel_rfl) (by kernel_rfl) (fun _ _ _ h => h) (by rfl) ?_ (by assumption) ?_
            rotate_left
            · (intro w hSw; (try dsimp only at hSw); go_simp) <;> with_reducible rfl
            simp only [Act.put, List.setIfInBounds_toArray, List.set_cons_zero, List.set_cons_succ]
            refine late_take 15 (.succ (.succ (.succ (.succ (.succ (.succ (.succ (.succ (.succ (.succ (.succ (.succ (.succ (.succ (.succ .zero))))))))))))))) (v := ?_) (by kernel_rfl) (by kernel_rfl) (by kernel_rfl) (by kernel_rfl) (fun _ _ _ h => h) (by rfl) ?_ (by assumption) ?_
            rotate_left
            · (intro w hSw; (try dsimp only at hSw); go_simp) <;> with_reducible rfl
            simp only [Act.put, List.setIfInBounds_toArray, List.set_cons_zero, List.set_cons_succ]
            refine late_take 16 (.succ (.succ (.succ (.succ (.succ (.succ (.succ (.succ (.succ (.succ (.succ (.succ (.succ (.succ (.succ (.succ .zero)))))))))))))))) (v := ?_) (by kernel_rfl) (by kernel_rfl) (by kernel_rfl) (by kernel_rfl) (fun _ _ _ h => h) (by rfl) ?_ (by assumption) ?_
            rotate_left
            · (intro w hSw; (try dsimp only at hSw); go_simp) <;> with_reducible rfl
            simp only [Act.put, List.setIfInBounds_toArray, List.set_cons_zero, List.set_cons_succ]
            refine late_take 18 (.succ (.succ (.succ (.succ (.succ (.succ (.succ (.succ (.succ (.succ (.succ (.succ (.succ (.succ (.succ (.succ (.succ (.succ .zero)))))))))))))))))) (v := ?_) (by kernel_rfl) (by kernel_rfl) (by kernel_rfl) (by kernel_rfl) (fun _ _ _ h => h) (by rfl) ?_ (by assumption) ?_
            rotate_left
            · (intro w hSw; (try dsimp only at hSw); go_simp) <;> with_reducible rfl
            simp only [Act.put, List.setIfInBounds_toArray, List.set_cons_zero, List.set_cons_succ]
            refine late_take 19 (.succ (.succ (.succ (.succ (.succ (.succ (.succ (.succ (.succ (.succ (.succ (.succ (.succ (.succ (.succ (.succ (.succ (.succ (.succ .zero))))))))))))))))))) (v := ?_) (by kernel_rfl) (by kernel_rfl) (by kernel_rfl) (by kernel_rfl) (fun _ _ _ h => h) (by rfl) ?_ (by assumption) ?_
            rotate_left
            · (intro w hSw; (try dsimp only at hSw); go_simp) <;> with_reducible rfl
            simp only [Act.put, List.setIfInBounds_toArray, List.set_cons_zero, List.set_cons_succ]
            refine late_one 17 (.succ (.succ (.succ (.succ (.succ (.succ (.succ (.succ (.succ (.succ (.succ (.succ (.succ (.succ (.succ (.succ (.succ .zero))))))))))))))))) (by kernel_rfl) (fun K hK => ?_)
            (refine step_ttr (by rfl) _ _ _ _ rfl (.agg #[.slice ac nn cc, .slice pc 0 qc, .int .i64 (-1), .bool false]) (.int .i64 (i : Int)) (by rfl) (by rfl) (enters_of Try.func11 (by kernel_rfl) rfl) ?_; refine (implRead_good ac pc nn cc 0 qc dc (fun _ => 0) (fun _ => 0) (fun _ _ => 0) (-1) false i wr.drew HT0.out.rc (Or.inl rfl) HV0.out hlt hn hcc hcc2 (by omega)).mono ?_; rintro e w20 ⟨a20, c20, rfl, ho20, hb20, -, -⟩; refine ⟨_, rfl, ?_⟩; obtain ⟨HT1, x0, x1, x2, x3, y0, y1, y2, y3⟩ := HCC.out w20 ((Below.refl _ _).drew.trans hb20))
            refine hK.out _ _ ?_ (fun hHeld2 => ?_)
            · (intro _; (try dsimp only); go_keep)
            clear hK K
            replace hHeld := hHeld2 (by decide)
            clear hHeld2
            try simp only [Act.put, List.setIfInBounds_toArray, List.set_cons_zero, List.set_cons_succ]
            refine late_one 20 (.succ (.succ (.succ (.succ (.succ (.succ (.succ (.succ (.succ (.succ (.succ (.succ (.succ (.succ (.succ (.succ (.succ (.succ (.succ (.succ .zero)))))))))))))))))))) (by kernel_rfl) (fun K hK => ?_)
            (refine step_ttr (by rfl) _ _ _ _ rfl (.agg #[.slice a nn c', .slice p 0 q, .int .i64 fuel, .bool dead]) (.int .i64 (i : Int)) (by rfl) (by rfl) (enters_of Try.func12 (by kernel_rfl) rfl) ?_; refine (specRead_good a p nn c' 0 q d S L F fuel dead i w20 HT1.s.rd HT1.s.rp HV.out hlt hn hnc hcm (by omega)).mono ?_; rintro e w21 ⟨a21, c21, rfl, ho21, hb21, -, -⟩; refine ⟨_, rfl, ?_⟩; obtain ⟨HT2, x0, x1, x2, x3, y0, y1, y2, y3⟩ := HCC.out w21 (((Below.refl _ _).drew.trans hb20).trans (hb21.mono (by have := hb20.size; exact this))))
            refine hK.out _ _ ?_ (fun hHeld2 => ?_)
            · (intro _; (try dsimp only); go_keep)
            clear hK K
            replace hHeld := hHeld2 (by decide)
            clear hHeld2
            try simp only [Act.put, List.setIfInBounds_toArray, List.set_cons_zero, List.set_cons_succ]
            refine late_one 21 (.succ (.succ (.succ (.succ (.succ (.succ (.succ (.succ (.succ (.succ (.succ (.succ (.succ (.succ (.succ (.succ (.succ (.succ (.succ (.succ (.succ .zero))))))))))))))))))))) (by kernel_rfl) (fun K hK => ?_)
            (refine step_ttr (by rfl) _ _ _ _ rfl (.slice a20 64 c20) (.slice a21 64 c21) (by rfl) (by rfl) (enters_of Try.func10 (by kernel_rfl) rfl) ?_; refine (lwBytes_eq a20 a21 64 c20 c21 _ _ w21 (ho20.below hb21).rd ho21.rd (fun j hj => HSAME.out j hj)).mono ?_; rintro e w22 ⟨rfl, hw22⟩; subst hw22; refine ⟨_, rfl, ?_⟩)
            refine hK.out _ _ ?_ (fun hHeld2 => ?_)
            · (intro _; (try dsimp only); go_keep)
            clear hK K
            replace hHeld := hHeld2 (by decide)
            clear hHeld2
            try simp only [Act.put, List.setIfInBounds_toArray, List.set_cons_zero, List.set_cons_succ]
            refine late_take 22 (.succ (.succ (.succ (.succ (.succ (.succ (.succ (.succ (.succ (.succ (.succ (.succ (.succ (.succ (.succ (.succ (.succ (.succ (.succ (.succ (.succ (.succ .zero)))))))))))))))))))))) (v := ?_) (by kernel_rfl) (by kernel_rfl) (by kernel_rfl) (by kernel_rfl) (fun _ _ _ h => h) (by rfl) ?_ (by assumption) ?_
            rotate_left
            · (intro w hSw; (try dsimp only at hSw); go_simp) <;> with_reducible rfl
            simp only [Act.put, List.setIfInBounds_toArray, List.set_cons_zero, List.set_cons_succ]
            refine late_one 23 (.succ (.succ (.succ (.succ (.succ (.succ (.succ (.succ (.succ (.succ (.succ (.succ (.succ (.succ (.succ (.succ (.succ (.succ (.succ (.succ (.succ (.succ (.succ .zero))))))))))))))))))))))) (by kernel_rfl) (fun K hK => ?_)
            go_simp
            refine hK.out _ _ ?_ (fun hHeld2 => ?_)
            · (intro hne; exact absurd rfl hne)
            clear hK K hHeld2
            refine wpLate_done (by kernel_rfl) ?_ _
            have SN : Hid (FrT w22 b5 a p nn c' 0 q d S L F fuel dead ap M Fp a1 n1 f1 b6 b7 b8 (.slice a6 nn c6) (.slice p6 u.m q6) (.slice a7 nn c7) (.slice p7 u.m q7) u.fuel u.dead ac cc pc qc dc ∧ Below w.heap.size w w22) := ⟨HT2, HBW.out.trans ((((Below.refl _ _).drew.trans hb20).trans (hb21.mono (by have := hb20.size; exact this))).mono HBW.out.size)⟩
            clear HT1 HT2 ho20 ho21 hb20 hb21 x0 x1 x2 x3 y0 y1 y2 y3 xf xl yf yl
            go_wp2
            go_roundw
            case rel => exact ⟨i + 1, by omega, by go_num, SN.out.1, SN.out.2⟩
            case measure => simp [intOf]; omega
          have hwt : wv = true := by cases wv with | true => rfl | false => exact absurd rfl hwb
          have hWr := HWV.out.1 hwt
          have hkk := HKW.out hWr
          have HWR : Hid (Wr nn M at_ sq) := hWr
          have hat2 : at_ + (KK : Int) ≤ 1024 := by have := hWr.2.2.2; omega
          have HKK : Hid ((KK : Int) = cntOf M) := hkk
          clear hWr hkk
          subst hwt
          clear hwb
          have hwk : IntKind.i64.wrap (at_ + (KK : Int)) = at_ + (KK : Int) := by rw [IntKind.wrap_i64]; omega
          by_cases hia : (i : Int) < at_
          · have HSAME : Hid (SameS dc d i) := HDC.out.1 i (.inr (.inl hia))
            have hia' : decide ((i : Int) < at_) = true := decide_eq_true hia
            go_upto_region 18 with fail
            refine wp_region_late (S := (fun w' => (w'.cell? ⟨b5, 0, none⟩ = some (.slice a nn c') ∧ w'.cell? ⟨b5, 1, none⟩ = some (.slice p 0 q) ∧ w'.cell? ⟨b5, 2, none⟩ = some (.int .i64 fuel) ∧ w'.cell? ⟨b5, 3, none⟩ = some (.bool dead)) ∧ (w'.cell? ⟨b8, 0, none⟩ = some (.slice ac nn cc) ∧ w'.cell? ⟨b8, 1, none⟩ = some (.slice pc 0 qc) ∧ w'.cell? ⟨b8, 2, none⟩ = some (.int .i64 (-1)) ∧ w'.cell? ⟨b8, 3, none⟩ = some (.bool false)))) 23 (by kernel_rfl) ?_ (fun hHeld => ?_)
            · ((try dsimp only); go_keep)
            refine late_take 0 .zero (v := ?_) (by kernel_rfl) (by kernel_rfl) (by kernel_rfl) (by kernel_rfl) (fun _ _ _ h => h) (by rfl) ?_ (by assumption) ?_
            rotate_left
            · (intro w hSw; (try dsimp only at hSw); go_simp) <;> with_reducible rfl
            simp only [Act.put, List.setIfInBounds_toArray, List.set_cons_zero, List.set_cons_succ]
            refine late_take 1 (.succ .zero) (v := ?_) (by kernel_rfl) (by kernel_rfl) (by kernel_rfl) (by kernel_rfl) (fun _ _ _ h => h) (by rfl) ?_ (by assumption) ?_
            rotate_left
            · (intro w hSw; (try dsimp only at hSw); go_simp) <;> with_reducible rfl
            simp only [Act.put, List.setIfInBounds_toArray, List.set_cons_zero, List.set_cons_succ]
            refine late_take 2 (.succ (.succ .zero)) (v := ?_) (by kernel_rfl) (by kernel_rfl) (by kernel_rfl) (by kernel_rfl) (fun _ _ _ h => h) (by rfl) ?_ (by assumption) ?_
            rotate_left
            · (intro w hSw; (try dsimp only at hSw); go_simp) <;> with_reducible rfl
            simp only [Act.put, List.setIfInBounds_toArray, List.set_cons_zero, List.set_cons_succ]
            refine late_take 3 (.succ (.succ (.succ .zero))) (v := ?_) (by kernel_rfl) (by kernel_rfl) (by kernel_rfl) (by kernel_rfl) (fun _ _ _ h => h) (by rfl) ?_ (by assumption) ?_
            rotate_left
            · (intro w hSw; (try dsimp only at hSw); go_simp) <;> with_reducible rfl
            simp only [Act.put, List.setIfInBounds_toArray, List.set_cons_zero, List.set_cons_succ]
            refine late_take 4 (.succ (.succ (.succ (.succ .zero)))) (v := ?_) (by kernel_rfl) (by kernel_rfl) (by kernel_rfl) (by kernel_rfl) (fun _ _ _ h => h) (by rfl) ?_ (by assumption) ?_
            rotate_left
            · (intro w hSw; (try dsimp only at hSw); go_simp) <;> with_reducible rfl
            simp only [Act.put, List.setIfInBounds_toArray, List.set_cons_zero, List.set_cons_succ]
            refine late_take 5 (.succ (.succ (.succ (.succ (.succ .zero))))) (v := ?_) (by kernel_rfl) (by kernel_rfl) (by kernel_rfl) (by kernel_rfl) (fun _ _ _ h => h) (by rfl) ?_ (by assumption) ?_
            rotate_left
            · (intro w hSw; (try dsimp only at hSw); go_simp) <;> with_reducible rfl
            simp only [Act.put, List.setIfInBounds_toArray, List.set_cons_zero, List.set_cons_succ]
            refine late_take 6 (.succ (.succ (.succ (.succ (.succ (.succ .zero)))))) (v := ?_) (by kernel_rfl) (by kernel_rfl) (by kernel_rfl) (by kernel_rfl) (fun _ _ _ h => h) (by rfl) ?_ (by assumption) ?_
            rotate_left
            · (intro w hSw; (try dsimp only at hSw); go_simp) <;> with_reducible rfl
            simp only [Act.put, List.setIfInBounds_toArray, List.set_cons_zero, List.set_cons_succ]
            refine late_take 7 (.succ (.succ (.succ (.succ (.succ (.succ (.succ .zero))))))) (v := ?_) (by kernel_rfl) (by kernel_rfl) (by kernel_rfl) (by kernel_rfl) (fun _ _ _ h => h) (by rfl) ?_ (by assumption) ?_
            rotate_left
            · (intro w hSw; (try dsimp only at hSw); go_simp) <;> with_reducible rfl
            simp only [Act.put, List.setIfInBounds_toArray, List.set_cons_zero, List.set_cons_succ]
            refine late_skip 8 (.succ (.succ (.succ (.succ (.succ (.succ (.succ (.succ .zero)))))))) (by kernel_rfl) (by kernel_rfl) (by kernel_rfl) (by kernel_rfl) (fun _ _ _ h => h) (by rfl) (by assumption) ?_
            simp only [Act.put, List.setIfInBounds_toArray, List.set_cons_zero, List.set_cons_succ]
            refine late_skip 9 (.succ (.succ (.succ (.succ (.succ (.succ (.succ (.succ (.succ .zero))))))))) (by kernel_rfl) (by kernel_rfl) (by kernel_rfl) (by kernel_rfl) (fun _ _ _ h => h) (by rfl) (by assumption) ?_
            simp only [Act.put, List.setIfInBounds_toArray, List.set_cons_zero, List.set_cons_succ]
            refine late_skip 10 (.succ (.succ (.succ (.succ (.succ (.succ (.succ (.succ (.succ (.succ .zero)))))))))) (by kernel_rfl) (by kernel_rfl) (by kernel_rfl) (by kernel_rfl) (fun _ _ _ h => h) (by rfl) (by assumption) ?_
            simp only [Act.put, List.setIfInBounds_toArray, List.set_cons_zero, List.set_cons_succ]
            refine late_skip 11 (.succ (.succ (.succ (.succ (.succ (.succ (.succ (.succ (.succ (.succ (.succ .zero))))))))))) (by kernel_rfl) (by kernel_rfl) (by kernel_rfl) (by kernel_rfl) (fun _ _ _ h => h) (by rfl) (by assumption) ?_
            simp only [Act.put, List.setIfInBounds_toArray, List.set_cons_zero, List.set_cons_succ]
            refine late_skip 12 (.succ (.succ (.succ (.succ (.succ (.succ (.succ (.succ (.succ (.succ (.succ (.succ .zero)))))))))))) (by kernel_rfl) (by kernel_rfl) (by kernel_rfl) (by kernel_rfl) (fun _ _ _ h => h) (by rfl) (by assumption) ?_
            simp only [Act.put, List.setIfInBounds_toArray, List.set_cons_zero, List.set_cons_succ]
            refine late_take 13 (.succ (.succ (.succ (.succ (.succ (.succ (.succ (.succ (.succ (.succ (.succ (.succ (.succ .zero))))))))))))) (v := ?_) (by kernel_rfl) (by kernel_rfl) (by kernel_rfl) (by kernel_rfl) (fun _ _ _ h => h) (by rfl) ?_ (by assumption) ?_
            rotate_left
            · (intro w hSw; (try dsimp only at hSw); go_simp) <;> with_reducible rfl
            simp only [Act.put, List.setIfInBounds_toArray, List.set_cons_zero, List.set_cons_succ]
            refine late_take 14 (.succ (.succ (.succ (.succ (.succ (.succ (.succ (.succ (.succ (.succ (.succ (.succ (.succ (.succ .zero)))))))))))))) (v := ?_) (by kernel_rfl) (by kernel_rfl) (by kernel_rfl) (by kernel_rfl) (fun _ _ _ h => h) (by rfl) ?_ (by assumption) ?_
            rotate_left
            · (intro w hSw; (try dsimp only at hSw); go_simp) <;> with_reducible rfl
            simp only [Act.put, List.setIfInBounds_toArray, List.set_cons_zero, List.set_cons_succ]
            refine late_take 15 (.succ (.succ (.succ (.succ (.succ (.succ (.succ (.succ (.succ (.succ (.succ (.succ (.succ (.succ (.succ .zero))))))))))))))) (v := ?_) (by kernel_rfl) (by kernel_rfl) (by kernel_rfl) (by kernel_rfl) (fun _ _ _ h => h) (by rfl) ?_ (by assumption) ?_
            rotate_left
            · (intro w hSw; (try dsimp only at hSw); go_simp) <;> with_reducible rfl
            simp only [Act.put, List.setIfInBounds_toArray, List.set_cons_zero, List.set_cons_succ]
            refine late_take 16 (.succ (.succ (.succ (.succ (.succ (.succ (.succ (.succ (.succ (.succ (.succ (.succ (.succ (.succ (.succ (.succ .zero)))))))))))))))) (v := ?_) (by kernel_rfl) (by kernel_rfl) (by kernel_rfl) (by kernel_rfl) (fun _ _ _ h => h) (by rfl) ?_ (by assumption) ?_
            rotate_left
            · (intro w hSw; (try dsimp only at hSw); go_simp) <;> with_reducible rfl
            simp only [Act.put, List.setIfInBounds_toArray, List.set_cons_zero, List.set_cons_succ]
            refine late_take 18 (.succ (.succ (.succ (.succ (.succ (.succ (.succ (.succ (.succ (.succ (.succ (.succ (.succ (.succ (.succ (.succ (.succ (.succ .zero)))))))))))))))))) (v := ?_) (by kernel_rfl) (by kernel_rfl) (by kernel_rfl) (by kernel_rfl) (fun _ _ _ h => h) (by rfl) ?_ (by assumption) ?_
            rotate_left
            · (intro w hSw; (try dsimp only at hSw); go_simp) <;> with_reducible rfl
            simp only [Act.put, List.setIfInBounds_toArray, List.set_cons_zero, List.set_cons_succ]
            refine late_take 19 (.succ (.succ (.succ (.succ (.succ (.succ (.succ (.succ (.succ (.succ (.succ (.succ (.succ (.succ (.succ (.succ (.succ (.succ (.succ .zero))))))))))))))))))) (v := ?_) (by kernel_rfl) (by kernel_rfl) (by kernel_rfl) (by kernel_rfl) (fun _ _ _ h => h) (by rfl) ?_ (by assumption) ?_
            rotate_left
            · (intro w hSw; (try dsimp only at hSw); go_simp) <;> with_reducible rfl
            simp only [Act.put, List.setIfInBounds_toArray, List.set_cons_zero, List.set_cons_succ]
            refine late_one 17 (.succ (.succ (.succ (.succ (.succ (.succ (.succ (.succ (.succ (.succ (.succ (.succ (.succ (.succ (.succ (.succ (.succ .zero))))))))))))))))) (by kernel_rfl) (fun K hK => ?_)
            (refine step_ttr (by rfl) _ _ _ _ rfl (.agg #[.slice ac nn cc, .slice pc 0 qc, .int .i64 (-1), .bool false]) (.int .i64 (i : Int)) (by rfl) (by rfl) (enters_of Try.func11 (by kernel_rfl) rfl) ?_; refine (implRead_good ac pc nn cc 0 qc dc (fun _ => 0) (fun _ => 0) (fun _ _ => 0) (-1) false i wr.drew HT0.out.rc (Or.inl rfl) HV0.out hlt hn hcc hcc2 (by omega)).mono ?_; rintro e w20 ⟨a20, c20, rfl, ho20, hb20, -, -⟩; refine ⟨_, rfl, ?_⟩; obtain ⟨HT1, x0, x1, x2, x3, y0, y1, y2, y3⟩ := HCC.out w20 ((Below.refl _ _).drew.trans hb20))
            refine hK.out _ _ ?_ (fun hHeld2 => ?_)
            · (intro _; (try dsimp only); go_keep)
            clear hK K
            replace hHeld := hHeld2 (by decide)
            clear hHeld2
            try simp only [Act.put, List.setIfInBounds_toArray, List.set_cons_zero, List.set_cons_succ]
            refine late_one 20 (.succ (.succ (.succ (.succ (.succ (.succ (.succ (.succ (.succ (.succ (.succ (.succ (.succ (.succ (.succ (.succ (.succ (.succ (.succ (.succ .zero)))))))))))))))))))) (by kernel_rfl) (fun K hK => ?_)
            (refine step_ttr (by rfl) _ _ _ _ rfl (.agg #[.slice a nn c', .slice p 0 q, .int .i64 fuel, .bool dead]) (.int .i64 (i : Int)) (by rfl) (by rfl) (enters_of Try.func12 (by kernel_rfl) rfl) ?_; refine (specRead_good a p nn c' 0 q d S L F fuel dead i w20 HT1.s.rd HT1.s.rp HV.out hlt hn hnc hcm (by omega)).mono ?_; rintro e w21 ⟨a21, c21, rfl, ho21, hb21, -, -⟩; refine ⟨_, rfl, ?_⟩; obtain ⟨HT2, x0, x1, x2, x3, y0, y1, y2, y3⟩ := HCC.out w21 (((Below.refl _ _).drew.trans hb20).trans (hb21.mono (by have := hb20.size; exact this))))
            refine hK.out _ _ ?_ (fun hHeld2 => ?_)
            · (intro _; (try dsimp only); go_keep)
            clear hK K
            replace hHeld := hHeld2 (by decide)
            clear hHeld2
            try simp only [Act.put, List.setIfInBounds_toArray, List.set_cons_zero, List.set_cons_succ]
            refine late_one 21 (.succ (.succ (.succ (.succ (.succ (.succ (.succ (.succ (.succ (.succ (.succ (.succ (.succ (.succ (.succ (.succ (.succ (.succ (.succ (.succ (.succ .zero))))))))))))))))))))) (by kernel_rfl) (fun K hK => ?_)
            (refine step_ttr (by rfl) _ _ _ _ rfl (.slice a20 64 c20) (.slice a21 64 c21) (by rfl) (by rfl) (enters_of Try.func10 (by kernel_rfl) rfl) ?_; refine (lwBytes_eq a20 a21 64 c20 c21 _ _ w21 (ho20.below hb21).rd ho21.rd (fun j hj => HSAME.out j hj)).mono ?_; rintro e w22 ⟨rfl, hw22⟩; subst hw22; refine ⟨_, rfl, ?_⟩)
            refine hK.out _ _ ?_ (fun hHeld2 => ?_)
            · (intro _; (try dsimp only); go_keep)
            clear hK K
            replace hHeld := hHeld2 (by decide)
            clear hHeld2
            try simp only [Act.put, List.setIfInBounds_toArray, List.set_cons_zero, List.set_cons_succ]
            refine late_take 22 (.succ (.succ (.succ (.succ (.succ (.succ (.succ (.succ (.succ (.succ (.succ (.succ (.succ (.succ (.succ (.succ (.succ (.succ (.succ (.succ (.succ (.succ .zero)))))))))))))))))))))) (v := ?_) (by kernel_rfl) (by kernel_rfl) (by kernel_rfl) (by kernel_rfl) (fun _ _ _ h => h) (by rfl) ?_ (by assumption) ?_
            rotate_left
            · (intro w hSw; (try dsimp only at hSw); go_simp) <;> with_reducible rfl
            simp only [Act.put, List.setIfInBounds_toArray, List.set_cons_zero, List.set_cons_succ]
            refine late_one 23 (.succ (.succ (.succ (.succ (.succ (.succ (.succ (.succ (.succ (.succ (.succ (.succ (.succ (.succ (.succ (.succ (.succ (.succ (.succ (.succ (.succ (.succ (.succ .zero))))))))))))))))))))))) (by kernel_rfl) (fun K hK => ?_)
            go_simp
            refine hK.out _ _ ?_ (fun hHeld2 => ?_)
            · (intro hne; exact absurd rfl hne)
            clear hK K hHeld2
            refine wpLate_done (by kernel_rfl) ?_ _
            have SN : Hid (FrT w22 b5 a p nn c' 0 q d S L F fuel dead ap M Fp a1 n1 f1 b6 b7 b8 (.slice a6 nn c6) (.slice p6 u.m q6) (.slice a7 nn c7) (.slice p7 u.m q7) u.fuel u.dead ac cc pc qc dc ∧ Below w.heap.size w w22) := ⟨HT2, HBW.out.trans ((((Below.refl _ _).drew.trans hb20).trans (hb21.mono (by have := hb20.size; exact this))).mono HBW.out.size)⟩
            clear HT1 HT2 ho20 ho21 hb20 hb21 x0 x1 x2 x3 y0 y1 y2 y3 xf xl yf yl
            go_wp2
            go_roundw
            case rel => exact ⟨i + 1, by omega, by go_num, SN.out.1, SN.out.2⟩
            case measure => simp [intOf]; omega
          have hia' : decide ((i : Int) < at_) = false := decide_eq_false hia
          by_cases hib : at_ + (KK : Int) ≤ (i : Int)
          · have HSAME : Hid (SameS dc d i) := HDC.out.1 i (.inr (.inr (by rw [← HKK.out]; exact hib)))
            have hib' : decide (at_ + (KK : Int) ≤ (i : Int)) = true := decide_eq_true hib
            go_upto_region 18 with fail
            refine wp_region_late (S := (fun w' => (w'.cell? ⟨b5, 0, none⟩ = some (.slice a nn c') ∧ w'.cell? ⟨b5, 1, none⟩ = some (.slice p 0 q) ∧ w'.cell? ⟨b5, 2, none⟩ = some (.int .i64 fuel) ∧ w'.cell? ⟨b5, 3, none⟩ = some (.bool dead)) ∧ (w'.cell? ⟨b8, 0, none⟩ = some (.slice ac nn cc) ∧ w'.cell? ⟨b8, 1, none⟩ = some (.slice pc 0 qc) ∧ w'.cell? ⟨b8, 2, none⟩ = some (.int .i64 (-1)) ∧ w'.cell? ⟨b8, 3, none⟩ = some (.bool false)))) 23 (by kernel_rfl) ?_ (fun hHeld => ?_)
            · ((try dsimp only); go_keep)
            refine late_take 0 .zero (v := ?_) (by kernel_rfl) (by kernel_rfl) (by kernel_rfl) (by kernel_rfl) (fun _ _ _ h => h) (by rfl) ?_ (by assumption) ?_
            rotate_left
            · (intro w hSw; (try dsimp only at hSw); go_simp) <;> with_reducible rfl
            simp only [Act.put, List.setIfInBounds_toArray, List.set_cons_zero, List.set_cons_succ]
            refine late_take 1 (.succ .zero) (v := ?_) (by kernel_rfl) (by kernel_rfl) (by kernel_rfl) (by kernel_rfl) (fun _ _ _ h => h) (by rfl) ?_ (by assumption) ?_
            rotate_left
            · (intro w hSw; (try dsimp only at hSw); go_simp) <;> with_reducible rfl
            simp only [Act.put, List.setIfInBounds_toArray, List.set_cons_zero, List.set_cons_succ]
            refine late_take 2 (.succ (.succ .zero)) (v := ?_) (by kernel_rfl) (by kernel_rfl) (by kernel_rfl) (by kernel_rfl) (fun _ _ _ h => h) (by rfl) ?_ (by assumption) ?_
            rotate_left
            · (intro w hSw; (try dsimp only at hSw); go_simp) <;> with_reducible rfl
            simp only [Act.put, List.setIfInBounds_toArray, List.set_cons_zero, List.set_cons_succ]
            refine late_take 3 (.succ (.succ (.succ .zero))) (v := ?_) (by kernel_rfl) (by kernel_rfl) (by kernel_rfl) (by kernel_rfl) (fun _ _ _ h => h) (by rfl) ?_ (by assumption) ?_
            rotate_left
            · (intro w hSw; (try dsimp only at hSw); go_simp) <;> with_reducible rfl
            simp only [Act.put, List.setIfInBounds_toArray, List.set_cons_zero, List.set_cons_succ]
            refine late_take 4 (.succ (.succ (.succ (.succ .zero)))) (v := ?_) (by kernel_rfl) (by kernel_rfl) (by kernel_rfl) (by kernel_rfl) (fun _ _ _ h => h) (by rfl) ?_ (by assumption) ?_
            rotate_left
            · (intro w hSw; (try dsimp only at hSw); go_simp) <;> with_reducible rfl
            simp only [Act.put, List.setIfInBounds_toArray, List.set_cons_zero, List.set_cons_succ]
            refine late_take 5 (.succ (.succ (.succ (.succ (.succ .zero))))) (v := ?_) (by kernel_rfl) (by kernel_rfl) (by kernel_rfl) (by kernel_rfl) (fun _ _ _ h => h) (by rfl) ?_ (by assumption) ?_
            rotate_left
            · (intro w hSw; (try dsimp only at hSw); go_simp) <;> with_reducible rfl
            simp only [Act.put, List.setIfInBounds_toArray, List.set_cons_zero, List.set_cons_succ]
            refine late_take 6 (.succ (.succ (.succ (.succ (.succ (.succ .zero)))))) (v := ?_) (by kernel_rfl) (by kernel_rfl) (by kernel_rfl) (by kernel_rfl) (fun _ _ _ h => h) (by rfl) ?_ (by assumption) ?_
            rotate_left
            · (intro w hSw; (try dsimp only at hSw); go_simp) <;> with_reducible rfl
            simp only [Act.put, List.setIfInBounds_toArray, List.set_cons_zero, List.set_cons_succ]
            refine late_take 7 (.succ (.succ (.succ (.succ (.succ (.succ (.succ .zero))))))) (v := ?_) (by kernel_rfl) (by kernel_rfl) (by kernel_rfl) (by kernel_rfl) (fun _ _ _ h => h) (by rfl) ?_ (by assumption) ?_
            rotate_left
            · (intro w hSw; (try dsimp only at hSw); go_simp) <;> with_reducible rfl
            simp only [Act.put, List.setIfInBounds_toArray, List.set_cons_zero, List.set_cons_succ]
            refine late_take 8 (.succ (.succ (.succ (.succ (.succ (.succ (.succ (.succ .zero)))))))) (v := ?_) (by kernel_rfl) (by kernel_rfl) (by kernel_rfl) (by kernel_rfl) (fun _ _ _ h => h) (by rfl) ?_ (by assumption) ?_
            rotate_left
            · (intro w hSw; (try dsimp only at hSw); go_simp) <;> with_reducible rfl
            simp only [Act.put, List.setIfInBounds_toArray, List.set_cons_zero, List.set_cons_succ]
            refine late_take 9 (.succ (.succ (.succ (.succ (.succ (.succ (.succ (.succ (.succ .zero))))))))) (v := ?_) (by kernel_rfl) (by kernel_rfl) (by kernel_rfl) (by kernel_rfl) (fun _ _ _ h => h) (by rfl) ?_ (by assumption) ?_
            rotate_left
            · (intro w hSw; (try dsimp only at hSw); go_simp) <;> with_reducible rfl
            simp only [Act.put, List.setIfInBounds_toArray, List.set_cons_zero, List.set_cons_succ]
            refine late_take 10 (.succ (.succ (.succ (.succ (.succ (.succ (.succ (.succ (.succ (.succ .zero)))))))))) (v := ?_) (by kernel_rfl) (by kernel_rfl) (by kernel_rfl) (by kernel_rfl) (fun _ _ _ h => h) (by rfl) ?_ (by assumption) ?_
            rotate_left
            · (intro w hSw; (try dsimp only at hSw); go_simp) <;> with_reducible rfl
            simp only [Act.put, List.setIfInBounds_toArray, List.set_cons_zero, List.set_cons_succ]
            refine late_take 11 (.succ (.succ (.succ (.succ (.succ (.succ (.succ (.succ (.succ (.succ (.succ .zero))))))))))) (v := ?_) (by kernel_rfl) (by kernel_rfl) (by kernel_rfl) (by kernel_rfl) (fun _ _ _ h => h) (by rfl) ?_ (by assumption) ?_
            rotate_left
            · (intro w hSw; (try dsimp only at hSw); go_simp) <;> with_reducible rfl
            simp only [Act.put, List.setIfInBounds_toArray, List.set_cons_zero, List.set_cons_succ]
            refine late_take 12 (.succ (.succ (.succ (.succ (.succ (.succ (.succ (.succ (.succ (.succ (.succ (.succ .zero)))))))))))) (v := ?_) (by kernel_rfl) (by kernel_rfl) (by kernel_rfl) (by kernel_rfl) (fun _ _ _ h => h) (by rfl) ?_ (by assumption) ?_
            rotate_left
            · (intro w hSw; (try dsimp only at hSw); go_simp) <;> with_reducible rfl
            simp only [Act.put, List.setIfInBounds_toArray, List.set_cons_zero, List.set_cons_succ]
            refine late_take 13 (.succ (.succ (.succ (.succ (.succ (.succ (.succ (.succ (.succ (.succ (.succ (.succ (.succ .zero))))))))))))) (v := ?_) (by kernel_rfl) (by kernel_rfl) (by kernel_rfl) (by kernel_rfl) (fun _ _ _ h => h) (by rfl) ?_ (by assumption) ?_
            rotate_left
            · (intro w hSw; (try dsimp only at hSw); go_simp) <;> with_reducible rfl
            simp only [Act.put, List.setIfInBounds_toArray, List.set_cons_zero, List.set_cons_succ]
            refine late_take 14 (.succ (.succ (.succ (.succ (.succ (.succ (.succ (.succ (.succ (.succ (.succ (.succ (.succ (.succ .zero)))))))))))))) (v := ?_) (by kernel_rfl) (by kernel_rfl) (by kernel_rfl) (by kernel_rfl) (fun _ _ _ h => h) (by rfl) ?_ (by assumption) ?_
            rotate_left
            · (intro w hSw; (try dsimp only at hSw); go_simp) <;> with_reducible rfl
            simp only [Act.put, List.setIfInBounds_toArray, List.set_cons_zero, List.set_cons_succ]
            refine late_take 15 (.succ (.succ (.succ (.succ (.succ (.succ (.succ (.succ (.succ (.succ (.succ (.succ (.succ (.succ (.succ .zero))))))))))))))) (v := ?_) (by kernel_rfl) (by kernel_rfl) (by kernel_rfl) (by kernel_rfl) (fun _ _ _ h => h) (by rfl) ?_ (by assumption) ?_
            rotate_left
            · (intro w hSw; (try dsimp only at hSw); go_simp) <;> with_reducible rfl
            simp only [Act.put, List.setIfInBounds_toArray, List.set_cons_zero, List.set_cons_succ]
            refine late_take 16 (.succ (.succ (.succ (.succ (.succ (.succ (.succ (.succ (.succ (.succ (.succ (.succ (.succ (.succ (.succ (.succ .zero)))))))))))))))) (v := ?_) (by kernel_rfl) (by kernel_rfl) (by kernel_rfl) (by kernel_rfl) (fun _ _ _ h => h) (by rfl) ?_ (by assumption) ?_
            rotate_left
            · (intro w hSw; (try dsimp only at hSw); go_simp) <;> with_reducible rfl
            simp only [Act.put, List.setIfInBounds_toArray, List.set_cons_zero, List.set_cons_succ]
            refine late_take 18 (.succ (.succ (.succ (.succ (.succ (.succ (.succ (.succ (.succ (.succ (.succ (.succ (.succ (.succ (.succ (.succ (.succ (.succ .zero)))))))))))))))))) (v := ?_) (by kernel_rfl) (by kernel_rfl) (by kernel_rfl) (by kernel_rfl) (fun _ _ _ h => h) (by rfl) ?_ (by assumption) ?_
            rotate_left
            · (intro w hSw; (try dsimp only at hSw); go_simp) <;> with_reducible rfl
            simp only [Act.put, List.setIfInBounds_toArray, List.set_cons_zero, List.set_cons_succ]
            refine late_take 19 (.succ (.succ (.succ (.succ (.succ (.succ (.succ (.succ (.succ (.succ (.succ (.succ (.succ (.succ (.succ (.succ (.succ (.succ (.succ .zero))))))))))))))))))) (v := ?_) (by kernel_rfl) (by kernel_rfl) (by kernel_rfl) (by kernel_rfl) (fun _ _ _ h => h) (by rfl) ?_ (by assumption) ?_
            rotate_left
            · (intro w hSw; (try dsimp only at hSw); go_simp) <;> with_reducible rfl
            simp only [Act.put, List.setIfInBounds_toArray, List.set_cons_zero, List.set_cons_succ]
            refine late_one 17 (.succ (.succ (.succ (.succ (.succ (.succ (.succ (.succ (.succ (.succ (.succ (.succ (.succ (.succ (.succ (.succ (.succ .zero))))))))))))))))) (by kernel_rfl) (fun K hK => ?_)
            (refine step_ttr (by rfl) _ _ _ _ rfl (.agg #[.slice ac nn cc, .slice pc 0 qc, .int .i64 (-1), .bool false]) (.int .i64 (i : Int)) (by rfl) (by rfl) (enters_of Try.func11 (by kernel_rfl) rfl) ?_; refine (implRead_good ac pc nn cc 0 qc dc (fun _ => 0) (fun _ => 0) (fun _ _ => 0) (-1) false i wr.drew HT0.out.rc (Or.inl rfl) HV0.out hlt hn hcc hcc2 (by omega)).mono ?_; rintro e w20 ⟨a20, c20, rfl, ho20, hb20, -, -⟩; refine ⟨_, rfl, ?_⟩; obtain ⟨HT1, x0, x1, x2, x3, y0, y1, y2, y3⟩ := HCC.out w20 ((Below.refl _ _).drew.trans hb20))
            refine hK.out _ _ ?_ (fun hHeld2 => ?_)
            · (intro _; (try dsimp only); go_keep)
            clear hK K
            replace hHeld := hHeld2 (by decide)
            clear hHeld2
            try simp only [Act.put, List.setIfInBounds_toArray, List.set_cons_zero, List.set_cons_succ]
            refine late_one 20 (.succ (.succ (.succ (.succ (.succ (.succ (.succ (.succ (.succ (.succ (.succ (.succ (.succ (.succ (.succ (.succ (.succ (.succ (.succ (.succ .zero)))))))))))))))))))) (by kernel_rfl) (fun K hK => ?_)
            (refine step_ttr (by rfl) _ _ _ _ rfl (.agg #[.slice a nn c', .slice p 0 q, .int .i64 fuel, .bool dead]) (.int .i64 (i : Int)) (by rfl) (by rfl) (enters_of Try.func12 (by kernel_rfl) rfl) ?_; refine (specRead_good a p nn c' 0 q d S L F fuel dead i w20 HT1.s.rd HT1.s.rp HV.out hlt hn hnc hcm (by omega)).mono ?_; rintro e w21 ⟨a21, c21, rfl, ho21, hb21, -, -⟩; refine ⟨_, rfl, ?_⟩; obtain ⟨HT2, x0, x1, x2, x3, y0, y1, y2, y3⟩ := HCC.out w21 (((Below.refl _ _).drew.trans hb20).trans (hb21.mono (by have := hb20.size; exact this))))
            refine hK.out _ _ ?_ (fun hHeld2 => ?_)
            · (intro _; (try dsimp only); go_keep)
            clear hK K
            replace hHeld := hHeld2 (by decide)
            clear hHeld2
            try simp only [Act.put, List.setIfInBounds_toArray, List.set_cons_zero, List.set_cons_succ]
            refine late_one 21 (.succ (.succ (.succ (.succ (.succ (.succ (.succ (.succ (.succ (.succ (.succ (.succ (.succ (.succ (.succ (.succ (.succ (.succ (.succ (.succ (.succ .zero))))))))))))))))))))) (by kernel_rfl) (fun K hK => ?_)
            (refine step_ttr (by rfl) _ _ _ _ rfl (.slice a20 64 c20) (.slice a21 64 c21) (by rfl) (by rfl) (enters_of Try.func10 (by kernel_rfl) rfl) ?_; refine (lwBytes_eq a20 a21 64 c20 c21 _ _ w21 (ho20.below hb21).rd ho21.rd (fun j hj => HSAME.out j hj)).mono ?_; rintro e w22 ⟨rfl, hw22⟩; subst hw22; refine ⟨_, rfl, ?_⟩)
            refine hK.out _ _ ?_ (fun hHeld2 => ?_)
            · (intro _; (try dsimp only); go_keep)
            clear hK K
            replace hHeld := hHeld2 (by decide)
            clear hHeld2
            try simp only [Act.put, List.setIfInBounds_toArray, List.set_cons_zero, List.set_cons_succ]
            refine late_take 22 (.succ (.succ (.succ (.succ (.succ (.succ (.succ (.succ (.succ (.succ (.succ (.succ (.succ (.succ (.succ (.succ (.succ (.succ (.succ (.succ (.succ (.succ .zero)))))))))))))))))))))) (v := ?_) (by kernel_rfl) (by kernel_rfl) (by kernel_rfl) (by kernel_rfl) (fun _ _ _ h => h) (by rfl) ?_ (by assumption) ?_
            rotate_left
            · (intro w hSw; (try dsimp only at hSw); go_simp) <;> with_reducible rfl
            simp only [Act.put, List.setIfInBounds_toArray, List.set_cons_zero, List.set_cons_succ]
            refine late_one 23 (.succ (.succ (.succ (.succ (.succ (.succ (.succ (.succ (.succ (.succ (.succ (.succ (.succ (.succ (.succ (.succ (.succ (.succ (.succ (.succ (.succ (.succ (.succ .zero))))))))))))))))))))))) (by kernel_rfl) (fun K hK => ?_)
            go_simp
            refine hK.out _ _ ?_ (fun hHeld2 => ?_)
            · (intro hne; exact absurd rfl hne)
            clear hK K hHeld2
            refine wpLate_done (by kernel_rfl) ?_ _
            have SN : Hid (FrT w22 b5 a p nn c' 0 q d S L F fuel dead ap M Fp a1 n1 f1 b6 b7 b8 (.slice a6 nn c6) (.slice p6 u.m q6) (.slice a7 nn c7) (.slice p7 u.m q7) u.fuel u.dead ac cc pc qc dc ∧ Below w.heap.size w w22) := ⟨HT2, HBW.out.trans ((((Below.refl _ _).drew.trans hb20).trans (hb21.mono (by have := hb20.size; exact this))).mono HBW.out.size)⟩
            clear HT1 HT2 ho20 ho21 hb20 hb21 x0 x1 x2 x3 y0 y1 y2 y3 xf xl yf yl
            go_wp2
            go_roundw
            case rel => exact ⟨i + 1, by omega, by go_num, SN.out.1, SN.out.2⟩
            case measure => simp [intOf]; omega
          · have hib' : decide (at_ + (KK : Int) ≤ (i : Int)) = false := decide_eq_false hib
            go_upto_region 18 with fail
            refine wp_region_late (S := (fun w' => (w'.cell? ⟨b5, 0, none⟩ = some (.slice a nn c') ∧ w'.cell? ⟨b5, 1, none⟩ = some (.slice p 0 q) ∧ w'.cell? ⟨b5, 2, none⟩ = some (.int .i64 fuel) ∧ w'.cell? ⟨b5, 3, none⟩ = some (.bool dead)) ∧ (w'.cell? ⟨b8, 0, none⟩ = some (.slice ac nn cc) ∧ w'.cell? ⟨b8, 1, none⟩ = some (.slice pc 0 qc) ∧ w'.cell? ⟨b8, 2, none⟩ = some (.int .i64 (-1)) ∧ w'.cell? ⟨b8, 3, none⟩ = some (.bool false)))) 23 (by kernel_rfl) ?_ (fun hHeld => ?_)
            · ((try dsimp only); go_keep)
            refine late_take 0 .zero (v := ?_) (by kernel_rfl) (by kernel_rfl) (by kernel_rfl) (by kernel_rfl) (fun _ _ _ h => h) (by rfl) ?_ (by assumption) ?_
            rotate_left
            · (intro w hSw; (try dsimp only at hSw); go_simp) <;> with_reducible rfl
            simp only [Act.put, List.setIfInBounds_toArray, List.set_cons_zero, List.set_cons_succ]
            refine late_take 1 (.succ .zero) (v := ?_) (by kernel_rfl) (by kernel_rfl) (by kernel_rfl) (by kernel_rfl) (fun _ _ _ h => h) (by rfl) ?_ (by assumption) ?_
            rotate_left
            · (intro w hSw; (try dsimp only at hSw); go_simp) <;> with_reducible rfl
            simp only [Act.put, List.setIfInBounds_toArray, List.set_cons_zero, List.set_cons_succ]
            refine late_take 2 (.succ (.succ .zero)) (v := ?_) (by kernel_rfl) (by kernel_rfl) (by kernel_rfl) (by kernel_rfl) (fun _ _ _ h => h) (by rfl) ?_ (by assumption) ?_
            rotate_left
            · (intro w hSw; (try dsimp only at hSw); go_simp) <;> with_reducible rfl
            simp only [Act.put, List.setIfInBounds_toArray, List.set_cons_zero, List.set_cons_succ]
            refine late_take 3 (.succ (.succ (.succ .zero))) (v := ?_) (by kernel_rfl) (by kernel_rfl) (by kernel_rfl) (by kernel_rfl) (fun _ _ _ h => h) (by rfl) ?_ (by assumption) ?_
            rotate_left
            · (intro w hSw; (try dsimp only at hSw); go_simp) <;> with_reducible rfl
            simp only [Act.put, List.setIfInBounds_toArray, List.set_cons_zero, List.set_cons_succ]
            refine late_take 4 (.succ (.succ (.succ (.succ .zero)))) (v := ?_) (by kernel_rfl) (by kernel_rfl) (by kernel_rfl) (by kernel_rfl) (fun _ _ _ h => h) (by rfl) ?_ (by assumption) ?_
            rotate_left
            · (intro w hSw; (try dsimp only at hSw); go_simp) <;> with_reducible rfl
            simp only [Act.put, List.setIfInBounds_toArray, List.set_cons_zero, List.set_cons_succ]
            refine late_take 5 (.succ (.succ (.succ (.succ (.succ .zero))))) (v := ?_) (by kernel_rfl) (by kernel_rfl) (by kernel_rfl) (by kernel_rfl) (fun _ _ _ h => h) (by rfl) ?_ (by assumption) ?_
            rotate_left
            · (intro w hSw; (try dsimp only at hSw); go_simp) <;> with_reducible rfl
            simp only [Act.put, List.setIfInBounds_toArray, List.set_cons_zero, List.set_cons_succ]
            refine late_take 6 (.succ (.succ (.succ (.succ (.succ (.succ .zero)))))) (v := ?_) (by kernel_rfl) (by kernel_rfl) (by kernel_rfl) (by kernel_rfl) (fun _ _ _ h => h) (by rfl) ?_ (by assumption) ?_
            rotate_left
            · (intro w hSw; (try dsimp only at hSw); go_simp) <;> with_reducible rfl
            simp only [Act.put, List.setIfInBounds_toArray, List.set_cons_zero, List.set_cons_succ]
            refine late_take 7 (.succ (.succ (.succ (.succ (.succ (.succ (.succ .zero))))))) (v := ?_) (by kernel_rfl) (by kernel_rfl) (by kernel_rfl) (by kernel_rfl) (fun _ _ _ h => h) (by rfl) ?_ (by assumption) ?_
            rotate_left
            · (intro w hSw; (try dsimp only at hSw); go_simp) <;> with_reducible rfl
            simp only [Act.put, List.setIfInBounds_toArray, List.set_cons_zero, List.set_cons_succ]
            refine late_take 8 (.succ (.succ (.succ (.succ (.succ (.succ (.succ (.succ .zero)))))))) (v := ?_) (by kernel_rfl) (by kernel_rfl) (by kernel_rfl) (by kernel_rfl) (fun _ _ _ h => h) (by rfl) ?_ (by assumption) ?_
            rotate_left
            · (intro w hSw; (try dsimp only at hSw); go_simp) <;> with_reducible rfl
            simp only [Act.put, List.setIfInBounds_toArray, List.set_cons_zero, List.set_cons_succ]
            refine late_take 9 (.succ (.succ (.succ (.succ (.succ (.succ (.succ (.succ (.succ .zero))))))))) (v := ?_) (by kernel_rfl) (by kernel_rfl) (by kernel_rfl) (by kernel_rfl) (fun _ _ _ h => h) (by rfl) ?_ (by assumption) ?_
            rotate_left
            · (intro w hSw; (try dsimp only at hSw); go_simp) <;> with_reducible rfl
            simp only [Act.put, List.setIfInBounds_toArray, List.set_cons_zero, List.set_cons_succ]
            refine late_take 10 (.succ (.succ (.succ (.succ (.succ (.succ (.succ (.succ (.succ (.succ .zero)))))))))) (v := ?_) (by kernel_rfl) (by kernel_rfl) (by kernel_rfl) (by kernel_rfl) (fun _ _ _ h => h) (by rfl) ?_ (by assumption) ?_
            rotate_left
            · (intro w hSw; (try dsimp only at hSw); go_simp) <;> with_reducible rfl
            simp only [Act.put, List.setIfInBounds_toArray, List.set_cons_zero, List.set_cons_succ]
            refine late_take 11 (.succ (.succ (.succ (.succ (.succ (.succ (.succ (.succ (.succ (.succ (.succ .zero))))))))))) (v := ?_) (by kernel_rfl) (by kernel_rfl) (by kernel_rfl) (by kernel_rfl) (fun _ _ _ h => h) (by rfl) ?_ (by assumption) ?_
            rotate_left
            · (intro w hSw; (try dsimp only at hSw); go_simp) <;> with_reducible rfl
            simp only [Act.put, List.setIfInBounds_toArray, List.set_cons_zero, List.set_cons_succ]
            refine late_take 12 (.succ (.succ (.succ (.succ (.succ (.succ (.succ (.succ (.succ (.succ (.succ (.succ .zero)))))))))))) (v := ?_) (by kernel_rfl) (by kernel_rfl) (by kernel_rfl) (by kernel_rfl) (fun _ _ _ h => h) (by rfl) ?_ (by assumption) ?_
            rotate_left
            · (intro w hSw; (try dsimp only at hSw); go_simp) <;> with_reducible rfl
            simp only [Act.put, List.setIfInBounds_toArray, List.set_cons_zero, List.set_cons_succ]
            refine late_take 13 (.succ (.succ (.succ (.succ (.succ (.succ (.succ (.succ (.succ (.succ (.succ (.succ (.succ .zero))))))))))))) (v := ?_) (by kernel_rfl) (by kernel_rfl) (by kernel_rfl) (by kernel_rfl) (fun _ _ _ h => h) (by rfl) ?_ (by assumption) ?_
            rotate_left
            · (intro w hSw; (try dsimp only at hSw); go_simp) <;> with_reducible rfl
            simp only [Act.put, List.setIfInBounds_toArray, List.set_cons_zero, List.set_cons_succ]
            refine late_take 14 (.succ (.succ (.succ (.succ (.succ (.succ (.succ (.succ (.succ (.succ (.succ (.succ (.succ (.succ .zero)))))))))))))) (v := ?_) (by kernel_rfl) (by kernel_rfl) (by kernel_rfl) (by kernel_rfl) (fun _ _ _ h => h) (by rfl) ?_ (by assumption) ?_
            rotate_left
            · (intro w hSw; (try dsimp only at hSw); go_simp) <;> with_reducible rfl
            simp only [Act.put, List.setIfInBounds_toArray, List.set_cons_zero, List.set_cons_succ]
            refine late_skip 15 (.succ (.succ (.succ (.succ (.succ (.succ (.succ (.succ (.succ (.succ (.succ (.succ (.succ (.succ (.succ .zero))))))))))))))) (by kernel_rfl) (by kernel_rfl) (by kernel_rfl) (by kernel_rfl) (fun _ _ _ h => h) (by rfl) (by assumption) ?_
            simp only [Act.put, List.setIfInBounds_toArray, List.set_cons_zero, List.set_cons_succ]
            refine late_skip 16 (.succ (.succ (.succ (.succ (.succ (.succ (.succ (.succ (.succ (.succ (.succ (.succ (.succ (.succ (.succ (.succ .zero)))))))))))))))) (by kernel_rfl) (by kernel_rfl) (by kernel_rfl) (by kernel_rfl) (fun _ _ _ h => h) (by rfl) (by assumption) ?_
            simp only [Act.put, List.setIfInBounds_toArray, List.set_cons_zero, List.set_cons_succ]
            refine late_skip 17 (.succ (.succ (.succ (.succ (.succ (.succ (.succ (.succ (.succ (.succ (.succ (.succ (.succ (.succ (.succ (.succ (.succ .zero))))))))))))))))) (by kernel_rfl) (by kernel_rfl) (by kernel_rfl) (by kernel_rfl) (fun _ _ _ h => h) (by rfl) (by assumption) ?_
            simp only [Act.put, List.setIfInBounds_toArray, List.set_cons_zero, List.set_cons_succ]
            refine late_skip 18 (.succ (.succ (.succ (.succ (.succ (.succ (.succ (.succ (.succ (.succ (.succ (.succ (.succ (.succ (.succ (.succ (.succ (.succ .zero)))))))))))))))))) (by kernel_rfl) (by kernel_rfl) (by kernel_rfl) (by kernel_rfl) (fun _ _ _ h => h) (by rfl) (by assumption) ?_
            simp only [Act.put, List.setIfInBounds_toArray, List.set_cons_zero, List.set_cons_succ]
            refine late_skip 19 (.succ (.succ (.succ (.succ (.succ (.succ (.succ (.succ (.succ (.succ (.succ (.succ (.succ (.succ (.succ (.succ (.succ (.succ (.succ .zero))))))))))))))))))) (by kernel_rfl) (by kernel_rfl) (by kernel_rfl) (by kernel_rfl) (fun _ _ _ h => h) (by rfl) (by assumption) ?_
            simp only [Act.put, List.setIfInBounds_toArray, List.set_cons_zero, List.set_cons_succ]
            refine late_skip 20 (.succ (.succ (.succ (.succ (.succ (.succ (.succ (.succ (.succ (.succ (.succ (.succ (.succ (.succ (.succ (.succ (.succ (.succ (.succ (.succ .zero)))))))))))))))))))) (by kernel_rfl) (by kernel_rfl) (by kernel_rfl) (by kernel_rfl) (fun _ _ _ h => h) (by rfl) (by assumption) ?_
            simp only [Act.put, List.setIfInBounds_toArray, List.set_cons_zero, List.set_cons_succ]
            refine late_skip 21 (.succ (.succ (.succ (.succ (.succ (.succ (.succ (.succ (.succ (.succ (.succ (.succ (.succ (.succ (.succ (.succ (.succ (.succ (.succ (.succ (.succ .zero))))))))))))))))))))) (by kernel_rfl) (by kernel_rfl) (by kernel_rfl) (by kernel_rfl) (fun _ _ _ h => h) (by rfl) (by assumption) ?_
            simp only [Act.put, List.setIfInBounds_toArray, List.set_cons_zero, List.set_cons_succ]
            refine late_skip 22 (.succ (.succ (.succ (.succ (.succ (.succ (.succ (.succ (.succ (.succ (.succ (.succ (.succ (.succ (.succ (.succ (.succ (.succ (.succ (.succ (.succ (.succ .zero)))))))))))))))))))))) (by kernel_rfl) (by kernel_rfl) (by kernel_rfl) (by kernel_rfl) (fun _ _ _ h => h) (by rfl) (by assumption) ?_
            simp only [Act.put, List.setIfInBounds_toArray, List.set_cons_zero, List.set_cons_succ]
            refine late_one 23 (.succ (.succ (.succ (.succ (.succ (.succ (.succ (.succ (.succ (.succ (.succ (.succ (.succ (.succ (.succ (.succ (.succ (.succ (.succ (.succ (.succ (.succ (.succ .zero))))))))))))))))))))))) (by kernel_rfl) (fun K hK => ?_)
            go_simp
            refine hK.out _ _ ?_ (fun hHeld2 => ?_)
            · (intro hne; exact absurd rfl hne)
            clear hK K hHeld2
            refine wpLate_done (by kernel_rfl) ?_ _
            have SN : Hid (FrT wr.drew b5 a p nn c' 0 q d S L F fuel dead ap M Fp a1 n1 f1 b6 b7 b8 (.slice a6 nn c6) (.slice p6 u.m q6) (.slice a7 nn c7) (.slice p7 u.m q7) u.fuel u.dead ac cc pc qc dc ∧ Below w.heap.size w wr.drew) := ⟨HT0.out, HBW.out.drew⟩
            clear x0 x1 x2 x3 y0 y1 y2 y3 xf xl yf yl
            go_wp2
            go_roundw
            case rel => exact ⟨i + 1, by omega, by go_num, SN.out.1, SN.out.2⟩
            case measure => simp [intOf]; omega
        · have i1 : ¬ 64 * (i : Int) < (nn : Int) := by omega
          have i1' : decide (64 * (i : Int) < (nn : Int)) = false := decide_eq_false i1
          cases wv with
          | false =>
            go_wp2
            go_ret
            exact ⟨rfl, HBW.out⟩
          | true =>
            have hWr := HWV.out.1 rfl
            obtain ⟨A, hA⟩ : ∃ A : Nat, at_ = (A : Int) := ⟨at_.toNat, by omega⟩
            have HWR : Hid (Wr nn M at_ sq ∧ at_ = (A : Int) ∧ (KK : Int) = cntOf M) := ⟨hWr, hA, HKW.out hWr⟩
            have hA2 : A < nn / 64 := by have := hWr.2.2.2; have := cntOf_pos M; omega
            have hM3 : M ≤ 30000 := hWr.1
            clear hWr
            have HFIN := HDC.out.2.1 HWR.out.1 A hA (HLAST.out HWR.out.1 A hA) (HNO.out A hA hA2 HWR.out.1.2.1)
            have HFI : Hid ((recOk (fun i j => dc ((A + i) * 64 + j)) ((nn : Int) / 64 - A) sq → getN ((fun i j => dc ((A + i) * 64 + j)) 0) 6 2 = (cntOf M : Int) ∧ catL (recLz (fun i j => dc ((A + i) * 64 + j))) (cntOf M) = M ∧ ∀ j, j < M → catF (recLz (fun i j => dc ((A + i) * 64 + j))) (recFz (fun i j => dc ((A + i) * 64 + j))) (cntOf M) j = Fp j) ∧ (u.dead = false → recOk (fun i j => dc ((A + i) * 64 + j)) ((nn : Int) / 64 - A) sq)) := HFIN
            clear HFIN
            subst hA
            have HRC : Hid (Calls Try.prog 20 #[.agg #[.slice ac nn cc, .slice pc 0 qc, .int .i64 (-1), .bool false], .int .i64 (A : Int), .int .i64 sq] wr fun e w' => Below wr.heap.size wr w' ∧ ((∃ ar cr, e = .returned (.agg #[.bool true, .slice ar M cr, .int .i64 (KK : Int)]) ∧ Rd .u8 w' ar M Fp) ∨ (u.dead = true ∧ e = .returned (.agg #[.bool false, .slice none 0 0, .int .i64 0])))) := by
              refine (implReadRec_in ac pc nn cc 0 qc dc (fun _ => 0) (fun _ => 0) (fun _ _ => 0) (-1) false A sq wr HTr.out.rc (Or.inl rfl) HV0.out HWR.out.1.2.1 hA2 hn hcc hcc2 (by omega) (fun s i _ => HDC.out.2.2 _)).mono ?_
              rintro e w' ⟨hb, ⟨h1, ar, cr, rfl, ho, _, _⟩ | ⟨h1, rfl⟩⟩
              · obtain ⟨e1, e2, e3⟩ := HFI.out.1 h1
                refine ⟨hb, .inl ⟨ar, cr, ?_, ?_⟩⟩
                · have e4 : (getN ((fun i => secF dc (fun _ => 0) (fun _ _ => 0) 0 (A + i)) 0) 6 2) = (cntOf M : Int) := e1
                  rw [e4, Int.toNat_natCast, HWR.out.2.2]
                  have e5 : catL (recLz (fun i => secF dc (fun _ => 0) (fun _ _ => 0) 0 (A + i))) (cntOf M) = M := e2
                  rw [e5]
                · have e4 : (getN ((fun i => secF dc (fun _ => 0) (fun _ _ => 0) 0 (A + i)) 0) 6 2) = (cntOf M : Int) := e1
                  have e5 : catL (recLz (fun i => secF dc (fun _ => 0) (fun _ _ => 0) 0 (A + i))) (cntOf M) = M := e2
                  have hr := ho.rd
                  rw [e4, Int.toNat_natCast, e5] at hr
                  exact hr.congr (fun j hj => e3 j hj)
              · refine ⟨hb, .inr ⟨?_, rfl⟩⟩
                cases hdd : u.dead with
                | true => rfl
                | false => exact absurd (HFI.out.2 hdd) h1
            go_wp2_with fail
            refine HRC.out.mono ?_
            rintro e w10 ⟨hb10, hr10⟩
            have T10 : Hid (FrT w10 b5 a p nn c' 0 q d S L F fuel dead ap M Fp a1 n1 f1 b6 b7 b8 (.slice a6 nn c6) (.slice p6 u.m q6) (.slice a7 nn c7) (.slice p7 u.m q7) u.fuel u.dead ac cc pc qc dc ∧ Below w.heap.size w w10) := ⟨HTr.out.below hb10, HBW.out.trans (hb10.mono HBW.out.size)⟩
            clear hb10 x0 x1 x2 x3 y0 y1 y2 y3 xf xl yf yl HRC HCC HT0 HTr HBW
            rcases hr10 with ⟨ar, cr, rfl, hra⟩ | ⟨hdd, rfl⟩
            · have HRA : Hid (Rd .u8 w10 ar M Fp) := hra
              clear hra
              obtain ⟨ud, hud⟩ : ∃ ud, ud = u.dead := ⟨_, rfl⟩
              obtain ⟨W11, hW11⟩ : ∃ W11, W11 = w10.alloc (.cells #[.bool true, .slice ar M cr, .int .i64 (KK : Int)] 38) := ⟨_, rfl⟩
              obtain ⟨b9, hb9⟩ : ∃ b9, b9 = w10.heap.size := ⟨_, rfl⟩
              have T11 : Hid ((W11.cell? ⟨b6, 3, none⟩ = some (.bool ud) ∧ W11.cell? ⟨b7, 3, none⟩ = some (.bool ud)) ∧ (W11.cell? ⟨b9, 0, none⟩ = some (.bool true) ∧ W11.cell? ⟨b9, 1, none⟩ = some (.slice ar M cr) ∧ W11.cell? ⟨b9, 2, none⟩ = some (.int .i64 (KK : Int))) ∧ (Rd .u8 W11 ar M Fp ∧ Rd .u8 W11 ap M Fp) ∧ Below w.heap.size w W11) := by
                rw [hW11, hb9, hud]
                have hT := T10.out.1.below (below_alloc w10 (.cells #[.bool true, .slice ar M cr, .int .i64 (KK : Int)] 38))
                obtain ⟨-, -, -, z3, -⟩ := hT.m.cells
                obtain ⟨-, -, -, z4, -⟩ := hT.e.cells
                exact ⟨⟨z3, z4⟩, ⟨by simp, by simp, by simp⟩, ⟨HRA.out.below (below_alloc _ _), hT.s.pay⟩, T10.out.2.alloc T10.out.2.size _⟩
              go_upto_region 23 with fail
              rw [← hW11, ← hb9]
              clear hW11 hb9 hud HRA T10
              obtain ⟨⟨z0, z1⟩, ⟨r0, r1, r2⟩, -, -⟩ := T11.out
              have hkq : ((KK : Int) == (KK : Int)) = true := by simp
              cases ud with
              | true =>
                go_wp2_with fail
                refine (lwBytes_eq ar ap M cr cp Fp Fp W11 T11.out.2.2.1.1 T11.out.2.2.1.2 (fun _ _ => rfl)).mono ?_
                rintro e w12 ⟨rfl, hw12⟩
                subst hw12
                go_wp2
                go_ret
                exact ⟨rfl, T11.out.2.2.2⟩
              | false =>
                go_wp2_with fail
                refine (lwBytes_eq ar ap M cr cp Fp Fp W11 T11.out.2.2.1.1 T11.out.2.2.1.2 (fun _ _ => rfl)).mono ?_
                rintro e w12 ⟨rfl, hw12⟩
                subst hw12
                go_wp2
                go_ret
                exact ⟨rfl, T11.out.2.2.2⟩
            · obtain ⟨W11, hW11⟩ : ∃ W11, W11 = w10.alloc (.cells #[.bool false, .slice none 0 0, .int .i64 0] 38) := ⟨_, rfl⟩
              obtain ⟨b9, hb9⟩ : ∃ b9, b9 = w10.heap.size := ⟨_, rfl⟩
              have T11 : Hid ((W11.cell? ⟨b6, 3, none⟩ = some (.bool true) ∧ W11.cell? ⟨b7, 3, none⟩ = some (.bool true)) ∧ (W11.cell? ⟨b9, 0, none⟩ = some (.bool false) ∧ W11.cell? ⟨b9, 1, none⟩ = some (.slice none 0 0) ∧ W11.cell? ⟨b9, 2, none⟩ = some (.int .i64 0)) ∧ Below w.heap.size w W11) := by
                rw [hW11, hb9]
                have hT := T10.out.1.below (below_alloc w10 (.cells #[.bool false, .slice none 0 0, .int .i64 0] 38))
                obtain ⟨-, -, -, z3, -⟩ := hT.m.cells
                obtain ⟨-, -, -, z4, -⟩ := hT.e.cells
                rw [hdd] at z3 z4
                exact ⟨⟨z3, z4⟩, ⟨by simp, by simp, by simp⟩, T10.out.2.alloc T10.out.2.size _⟩
              clear hdd
              go_upto_region 23 with fail
              rw [← hW11, ← hb9]
              clear hW11 hb9 T10
              obtain ⟨⟨z0, z1⟩, ⟨r0, r1, r2⟩, -⟩ := T11.out
              go_wp2
              go_ret
              exact ⟨rfl, T11.out.2.2⟩
  · have HLAST : Hid (Wr nn M at_ sq → ∀ A : Nat, at_ = (A : Int) → getN (fun j => d ((A + cntOf M - 1) * 64 + j)) 0 4 ≠ sq) := fun h => by
      exfalso
      have h2 := h.2.2.2
      have h3 := HK.out
      unfold kOf at h3
      rw [if_pos h.1] at h3
      omega
    have HNW : Hid (wv = false) := by
      cases hb : wv with
      | false => rfl
      | true => exact absurd (HWV.out.1 hb) (fun h => by have h2 := h.2.2.2; have h3 := HK.out; unfold kOf at h3; rw [if_pos h.1] at h3; omega)
    go_wp2_with fail
    refine (specRead_bad a p nn c' 0 q S L F fuel dead (at_ + (KK : Int) - 1) (fun _ => 0) w4 S3.out.1.rp (fun h => by have := h.2.2; omega) hn (by omega)).mono ?_
    rintro e w5 ⟨aL, cL, rfl, hoL, hbL, -, -⟩
    have S5 : Hid (FrS w5 b5 a p nn c' 0 q d S L F fuel dead ap M Fp a1 n1 f1 ∧ Below w.heap.size w w5) := ⟨S3.out.1.below hbL, S3.out.2.trans (hbL.mono S3.out.2.size)⟩
    clear hbL S3 x0 x1 x2 x3 xf xl hoL
    go_wp2
    go_quiet (fail)
    go_upto_region 11 with fail
    have S9 : Hid (FrS (w5.drewN nq) b5 a p nn c' 0 q d S L F fuel dead ap M Fp a1 n1 f1 ∧ Below w.heap.size w (w5.drewN nq)) := ⟨S5.out.1.below (below_drewN (Below.refl _ _) nq), below_drewN S5.out.2 nq⟩
    clear S5
    generalize w5.drewN nq = w9 at S9 ⊢
    clear w5
    obtain ⟨w5, hw5⟩ : ∃ w5, w5 = w9 := ⟨_, rfl⟩
    rw [← hw5] at S9 ⊢
    clear hw5
    have S5 := S9
    clear S9
    obtain ⟨x0, x1, x2, x3, xf, xl⟩ := S5.out.1.box.cells
    go_wp2_with fail
    refine (HSW.out w5 a p ap c' q cp hcp hcpm S5.out.1.rd S5.out.1.rp S5.out.1.pay).mono ?_
    rintro e w6 ⟨a6, c6, p6, q6, A6, rfl, ho6, hb6⟩
    have S6 : Hid (FrS (w6.alloc (.cells #[.slice a6 nn c6, .slice p6 u.m q6, .int .i64 u.fuel, .bool u.dead] 25)) b5 a p nn c' 0 q d S L F fuel dead ap M Fp a1 n1 f1 ∧ DkRow (w6.alloc (.cells #[.slice a6 nn c6, .slice p6 u.m q6, .int .i64 u.fuel, .bool u.dead] 25)) w6.heap.size (.slice a6 nn c6) (.slice p6 u.m q6) u.fuel u.dead ∧ Below w.heap.size w (w6.alloc (.cells #[.slice a6 nn c6, .slice p6 u.m q6, .int .i64 u.fuel, .bool u.dead] 25))) := by
      have hb : Below w.heap.size w w6 := S5.out.2.trans (hb6.mono S5.out.2.size)
      exact ⟨(S5.out.1.below hb6).below (below_alloc _ _), rowInNew _ _ _ _ _, hb.alloc hb.size _⟩
    clear ho6 hb6 S5 x0 x1 x2 x3 xf xl
    go_upto_region 12 with fail
    generalize (w6.alloc (.cells #[.slice a6 nn c6, .slice p6 u.m q6, .int .i64 u.fuel, .bool u.dead] 25)) = W6 at S6 ⊢
    generalize w6.heap.size = b6 at S6 ⊢
    obtain ⟨x0, x1, x2, x3, xf, xl⟩ := S6.out.1.box.cells
    go_wp2_with fail
    refine (HIW.out W6 a p ap c' q cp hcp hcpm S6.out.1.rd S6.out.1.rp S6.out.1.pay).mono ?_
    rintro e w7 ⟨a7, c7, p7, q7, A7, rfl, ho7, hb7⟩
    have S7 : Hid ((FrS (w7.alloc (.cells #[.slice a7 nn c7, .slice p7 u.m q7, .int .i64 u.fuel, .bool u.dead] 25)) b5 a p nn c' 0 q d S L F fuel dead ap M Fp a1 n1 f1 ∧ DkRow (w7.alloc (.cells #[.slice a7 nn c7, .slice p7 u.m q7, .int .i64 u.fuel, .bool u.dead] 25)) b6 (.slice a6 nn c6) (.slice p6 u.m q6) u.fuel u.dead ∧ DkRow (w7.alloc (.cells #[.slice a7 nn c7, .slice p7 u.m q7, .int .i64 u.fuel, .bool u.dead] 25)) w7.heap.size (.slice a7 nn c7) (.slice p7 u.m q7) u.fuel u.dead) ∧ (Rd .u8 (w7.alloc (.cells #[.slice a7 nn c7, .slice p7 u.m q7, .int .i64 u.fuel, .bool u.dead] 25)) a7 nn u.d ∧ RdP (w7.alloc (.cells #[.slice a7 nn c7, .slice p7 u.m q7, .int .i64 u.fuel, .bool u.dead] 25)) p7 u.m u.S u.L u.F) ∧ Below w.heap.size w (w7.alloc (.cells #[.slice a7 nn c7, .slice p7 u.m q7, .int .i64 u.fuel, .bool u.dead] 25))) := by
      have hb : Below w.heap.size w w7 := S6.out.2.2.trans (hb7.mono S6.out.2.2.size)
      exact ⟨⟨(S6.out.1.below hb7).below (below_alloc _ _), (S6.out.2.1.below hb7).below (below_alloc _ _), rowInNew _ _ _ _ _⟩, ⟨ho7.data.rd.below (below_alloc _ _), ho7.cache.rd.below (below_alloc _ _)⟩, hb.alloc hb.size _⟩
    clear ho7 hb7 S6 x0 x1 x2 x3 xf xl
    go_upto_region 13 with fail
    generalize (w7.alloc (.cells #[.slice a7 nn c7, .slice p7 u.m q7, .int .i64 u.fuel, .bool u.dead] 25)) = W7 at S7 ⊢
    generalize w7.heap.size = b7 at S7 ⊢
    have HUV : Hid (VD nn u.m u.S u.L u.fuel) := HU.out.1
    have hum : u.m ≤ 1048576 := (stt_vd_lens HUV.out).2.1
    obtain ⟨um, hum2⟩ : ∃ um, um = u.m := ⟨_, rfl⟩
    go_cut [13] from 106 to 109 (fun s13 wx => ∃ K, CB W7 wx s13 nn (crashTo u.d u.S u.F K 8 u.m))
    case first =>
      obtain ⟨x0, x1, x2, x3, xf, xl⟩ := S7.out.1.2.2.cells
      have J0 : Hid (Below W7.heap.size W7 W7.drew) := (Below.refl _ _).drew
      have HC7 : Hid (∀ W, Below W7.heap.size W7 W → W.cell? ⟨b7, 0, none⟩ = some (.slice a7 nn c7) ∧ W.cell? ⟨b7, 1, none⟩ = some (.slice p7 u.m q7) ∧ W.cell? ⟨b7, 2, none⟩ = some (.int .i64 u.fuel) ∧ W.cell? ⟨b7, 3, none⟩ = some (.bool u.dead)) := fun W hW => by
        obtain ⟨z0, z1, z2, z3, -⟩ := (S7.out.1.2.2.below hW).cells
        exact ⟨z0, z1, z2, z3⟩
      have J0a : Hid (∀ O, Below W7.heap.size W7 (W7.alloc O).drew) := fun O => ((Below.refl _ _).alloc (Nat.le_refl _) O).drew
      have HLK : Hid (∀ W, Below W7.heap.size W7 W → Calls Try.prog 19 #[.slice a1 n1 c1, .int .i64 0] W fun e w' => ∃ ak ck K, e = .returned (.slice ak 8 ck) ∧ RdBl w' ak 8 K ∧ Below W.heap.size W w') := fun W hW => lwKeep_any a1 n1 c1 f1 W (S7.out.1.1.more.below hW) HR1.out.2 (by omega)
      have HDC : Hid (∀ (W : World) (ak : Option Addr) (ck : Nat) (K : Nat → Bool), Below W7.heap.size W7 W → RdBl W ak 8 K → Calls Try.prog 7 #[.agg #[.slice a7 nn c7, .slice p7 u.m q7, .int .i64 u.fuel, .bool u.dead], .slice ak 8 ck] W fun e w' => RetDc W e w' nn (crashTo u.d u.S u.F K 8 u.m) 0 (fun _ => 0) (fun _ => 0) (fun _ _ => 0) (-1) false) := fun W ak ck K hW hk => implCrash_good a7 p7 ak nn c7 u.m q7 8 ck u.d u.S u.L u.F K u.fuel u.dead W (S7.out.2.1.1.below hW) (S7.out.2.1.2.below hW) hk HUV.out hn hum (by omega)
      have hlt7 : b7 < W7.heap.size := xl
      have n7 : ¬ b7 = W7.heap.size := by omega
      have n7' : ¬ W7.heap.size = b7 := by omega
      go_region_held3 (fun w' => w'.cell? ⟨b7, 0, none⟩ = some (.slice a7 nn c7) ∧ w'.cell? ⟨b7, 1, none⟩ = some (.slice p7 u.m q7) ∧ w'.cell? ⟨b7, 2, none⟩ = some (.int .i64 u.fuel) ∧ w'.cell? ⟨b7, 3, none⟩ = some (.bool u.dead)) (go_keep)
        (first
        | (go_at_call 19; (with_reducible refine (HLK.out W7.drew J0.out).mono ?_); rintro e w8 ⟨ak, ck, K, rfl, hk8, hb8⟩; have B8 := J0.out.trans (hb8.mono J0.out.size); obtain ⟨x0, x1, x2, x3⟩ := HC7.out w8 B8; have z8 := B8.size; have n8 : ¬ b7 = w8.heap.size := (by omega); have n8' : ¬ w8.heap.size = b7 := (by omega))
        | (go_at_call 19; (with_reducible refine (HLK.out (W7.alloc (.cells #[.slice none 0 0, .slice none 0 0, .int .i64 0, .bool false] 25)).drew (J0a.out _)).mono ?_); rintro e w8 ⟨ak, ck, K, rfl, hk8, hb8⟩; have B8 := (J0a.out _).trans (hb8.mono (J0a.out _).size); obtain ⟨x0, x1, x2, x3⟩ := HC7.out w8 B8; have k8 : DkRow w8 W7.heap.size (.slice none 0 0) (.slice none 0 0) 0 false := DkRow.below (w := (W7.alloc (.cells #[.slice none 0 0, .slice none 0 0, .int .i64 0, .bool false] 25)).drew) (rowInNew W7 _ _ _ _) hb8; have z8 := B8.size; have n8 : ¬ b7 = w8.heap.size := (by omega); have n8' : ¬ w8.heap.size = b7 := (by omega))
        | (go_at_call 7; (with_reducible refine (HDC.out w8 ak ck K B8 hk8).mono ?_); rintro e w9 ⟨ac, cc, pc, qc, Ac, rfl, ho9, hb9, hcc, hcc2⟩; have B9 := B8.trans (hb9.mono z8); obtain ⟨x0, x1, x2, x3⟩ := HC7.out w9 B9; have z9 := B9.size; have n9 : ¬ b7 = w9.heap.size := (by omega); have n9' : ¬ w9.heap.size = b7 := (by omega); (try have k9 := k8.below hb9); (try obtain ⟨f0, f1, f2, f3, ff, fl⟩ := k9.cells))
        | (go_at_call 7; (with_reducible refine (HDC.out (w8.alloc (.cells #[.slice none 0 0, .slice none 0 0, .int .i64 0, .bool false] 25)) ak ck K (B8.alloc z8 _) (hk8.below (below_alloc _ _))).mono ?_); rintro e w9 ⟨ac, cc, pc, qc, Ac, rfl, ho9, hb9, hcc, hcc2⟩; have B9 := (B8.alloc z8 _).trans (hb9.mono (B8.alloc z8 _).size); obtain ⟨x0, x1, x2, x3⟩ := HC7.out w9 B9; have k9 : DkRow w9 w8.heap.size (.slice none 0 0) (.slice none 0 0) 0 false := (rowInNew w8 _ _ _ _).below hb9; obtain ⟨f0, f1, f2, f3, ff, fl⟩ := k9.cells; have z9 := B9.size; have n9 : ¬ b7 = w9.heap.size := (by omega); have n9' : ¬ w9.heap.size = b7 := (by omega))
        | fail)
      all_goals
        go_wp2
        go_meet
        case rel =>
          refine ⟨K, ?_⟩
          first
          | ((with_reducible refine cb_set ho9.data hcc hcc2 k9 ?_ B9) <;> omega)
          | (with_reducible exact cb_new ho9.data hcc hcc2 B9)
          | (with_reducible exact cb_late ho9.data hcc hcc2 B9)
    case rest =>
    obtain ⟨wk, rfl⟩ : ∃ x, x = wc := ⟨_, rfl⟩
    obtain ⟨K, b8, ac, cc, pc, qc, rfl, hc8, hrc, hcc, hcc2, hb8⟩ := hcut
    obtain ⟨dc, hdc⟩ : ∃ dc, dc = crashTo u.d u.S u.F K 8 u.m := ⟨_, rfl⟩
    rw [← hdc] at hrc
    have S8 : Hid (FrT wk b5 a p nn c' 0 q d S L F fuel dead ap M Fp a1 n1 f1 b6 b7 b8 (.slice a6 nn c6) (.slice p6 u.m q6) (.slice a7 nn c7) (.slice p7 u.m q7) u.fuel u.dead ac cc pc qc dc ∧ Below w.heap.size w wk) := ⟨⟨S7.out.1.1.below hb8, S7.out.1.2.1.below hb8, S7.out.1.2.2.below hb8, hc8, hrc⟩, S7.out.2.2.trans (hb8.mono S7.out.2.2.size)⟩
    have HDC : Hid ((∀ i : Nat, ¬ Wr nn M at_ sq ∨ (i : Int) < at_ ∨ at_ + cntOf M ≤ (i : Int) → SameS dc d i) ∧ (Wr nn M at_ sq → ∀ A : Nat, at_ = (A : Int) → getN (fun j => d ((A + cntOf M - 1) * 64 + j)) 0 4 ≠ sq → ¬ recOk (fun i j => d ((A + i) * 64 + j)) ((nn : Int) / 64 - A) sq → (recOk (fun i j => dc ((A + i) * 64 + j)) ((nn : Int) / 64 - A) sq → getN ((fun i j => dc ((A + i) * 64 + j)) 0) 6 2 = (cntOf M : Int) ∧ catL (recLz (fun i j => dc ((A + i) * 64 + j))) (cntOf M) = M ∧ ∀ j, j < M → catF (recLz (fun i j => dc ((A + i) * 64 + j))) (recFz (fun i j => dc ((A + i) * 64 + j))) (cntOf M) j = Fp j) ∧ (u.dead = false → recOk (fun i j => dc ((A + i) * 64 + j)) ((nn : Int) / 64 - A) sq)) ∧ ∀ j, 0 ≤ dc j ∧ dc j < 256) := by
      rw [hdc]
      have q := rec_crash (t := ⟨d, 0, S, L, F, fuel, dead⟩) rfl HU.out.2 K 8
      exact ⟨q.1, q.2, rec_range (t := ⟨d, 0, S, L, F, fuel, dead⟩) rfl HU.out.2 K 8 HRG.out.1 HRG.out.2⟩
    clear hc8 hrc hb8 hdc S7 HSW HIW
    have HKW : Hid (Wr nn M at_ sq → (KK : Int) = cntOf M) := fun h => by rw [HK.out]; unfold kOf; rw [if_pos h.1]
    have HWI : Hid (0 < KK → 2 ≤ at_ → at_ + KK ≤ (nn : Int) / 64 → 1 ≤ sq → sq ≤ 2000000000 → Wr nn M at_ sq) := fun h1 h2 h3 h4 h5 => by
      have hk := HK.out
      unfold kOf at hk
      by_cases h : M ≤ 30000
      · rw [if_pos h] at hk
        exact ⟨h, by unfold numB; simp; omega, h2, by omega⟩
      · rw [if_neg h] at hk
        omega
    obtain ⟨x0, x1, x2, x3, xf, xl⟩ := S8.out.1.s.box.cells
    have hdv : ((nn : Int)).tdiv 64 = (nn : Int) / 64 := Int.tdiv_eq_ediv_of_nonneg (by omega)
    go_upto_region 14 with fail
    go_cut [14] from 110 to 137 (fun s14 wx => s14 = .bool wv ∧ wx = wk)
    case first =>
      have hF : ∀ {P : Prop}, (Wr nn M at_ sq → False) → wv = false := fun h => by
        cases hb : wv with
        | false => rfl
        | true => exact (h (HWV.out.1 hb)).elim
      have HF : Hid ((Wr nn M at_ sq → False) → wv = false) := fun h => hF (P := True) h
      clear hF
      by_cases h1 : KK = 0
      · have e := HF.out (fun h => by have := HKW.out h; have := cntOf_pos M; omega)
        subst h1
        (first
          | (exfalso; omega)
          | (go_wp2; go_meet; (case rel => exact ⟨by rw [e], rfl⟩)))
      have g1 : (0 : Int) < (KK : Int) := by omega
      by_cases h2 : at_ < 2
      · have e := HF.out (fun h => by have := h.2.2.1; omega)
        have g2 : ¬ (2 : Int) ≤ at_ := by omega
        (first
          | (exfalso; omega)
          | (go_wp2; go_meet; (case rel => exact ⟨by rw [e], rfl⟩)))
      have g2 : (2 : Int) ≤ at_ := by omega
      by_cases h3 : 2000 < at_
      · have e := HF.out (fun h => by have := h.2.2.2; omega)
        have g3 : ¬ at_ ≤ (2000 : Int) := by omega
        (first
          | (exfalso; omega)
          | (go_wp2; go_meet; (case rel => exact ⟨by rw [e], rfl⟩)))
      have g3 : at_ ≤ (2000 : Int) := by omega
      by_cases h4 : (nn : Int) / 64 < at_ + (KK : Int)
      · have e := HF.out (fun h => by have := h.2.2.2; have := HKW.out h; omega)
        have g4 : ¬ at_ + (KK : Int) ≤ (nn : Int) / 64 := by omega
        (first
          | (exfalso; omega)
          | (go_wp2; go_meet; (case rel => exact ⟨by rw [e], rfl⟩)))
      have g4 : at_ + (KK : Int) ≤ (nn : Int) / 64 := by omega
      by_cases h5 : sq < 1
      · have e := HF.out (fun h => by have := h.2.1; unfold numB at this; simp at this; omega)
        have g5 : ¬ (1 : Int) ≤ sq := by omega
        (first
          | (exfalso; omega)
          | (go_wp2; go_meet; (case rel => exact ⟨by rw [e], rfl⟩)))
      have g5 : (1 : Int) ≤ sq := by omega
      by_cases h6 : 2000000000 < sq
      · have e := HF.out (fun h => by have := h.2.1; unfold numB at this; simp at this; omega)
        have g6 : ¬ sq ≤ (2000000000 : Int) := by omega
        (first
          | (exfalso; omega)
          | (go_wp2; go_meet; (case rel => exact ⟨by rw [e], rfl⟩)))
      have g6 : sq ≤ (2000000000 : Int) := by omega
      have e := HWV.out.2 (HWI.out (by omega) g2 g4 g5 g6)
      (first
        | (exfalso; omega)
        | (go_wp2; go_meet; (case rel => exact ⟨by rw [e], rfl⟩)))
    case rest =>
    obtain ⟨rfl, hwc⟩ := hcut
    subst hwc
    clear x0 x1 x2 x3 xf xl hdv
    obtain ⟨wf, hwf⟩ : ∃ wf, wf = wv := ⟨_, rfl⟩
    have hwz := HNW.out
    subst hwz
    have HV0 : Hid (VD nn 0 (fun _ => 0) (fun _ => 0) (-1)) := ⟨by unfold VH; omega, fun i hi => absurd hi (Nat.not_lt_zero _)⟩
    go_wp2
    go_loopw [15] (fun iv wr => ∃ i : Nat, i ≤ nn / 64 ∧ iv = .int .i64 i ∧ FrT wr b5 a p nn c' 0 q d S L F fuel dead ap M Fp a1 n1 f1 b6 b7 b8 (.slice a6 nn c6) (.slice p6 u.m q6) (.slice a7 nn c7) (.slice p7 u.m q7) u.fuel u.dead ac cc pc qc dc ∧ Below w.heap.size w wr) (fun iv _ => nn - (intOf iv).toNat)
    case atStart => exact ⟨0, Nat.zero_le _, rfl, S8.out⟩
    case round =>
      obtain ⟨i, hi, rfl, hT, hB⟩ := hrel
      have HT0 : Hid (FrT wr.drew b5 a p nn c' 0 q d S L F fuel dead ap M Fp a1 n1 f1 b6 b7 b8 (.slice a6 nn c6) (.slice p6 u.m q6) (.slice a7 nn c7) (.slice p7 u.m q7) u.fuel u.dead ac cc pc qc dc) := hT.below (Below.refl _ _).drew
      have HTr : Hid (FrT wr b5 a p nn c' 0 q d S L F fuel dead ap M Fp a1 n1 f1 b6 b7 b8 (.slice a6 nn c6) (.slice p6 u.m q6) (.slice a7 nn c7) (.slice p7 u.m q7) u.fuel u.dead ac cc pc qc dc) := hT
      have HBW : Hid (Below w.heap.size w wr) := hB
      have HCC : Hid (∀ W, Below wr.heap.size wr W → FrT W b5 a p nn c' 0 q d S L F fuel dead ap M Fp a1 n1 f1 b6 b7 b8 (.slice a6 nn c6) (.slice p6 u.m q6) (.slice a7 nn c7) (.slice p7 u.m q7) u.fuel u.dead ac cc pc qc dc ∧ W.cell? ⟨b5, 0, none⟩ = some (.slice a nn c') ∧ W.cell? ⟨b5, 1, none⟩ = some (.slice p 0 q) ∧ W.cell? ⟨b5, 2, none⟩ = some (.int .i64 fuel) ∧ W.cell? ⟨b5, 3, none⟩ = some (.bool dead) ∧ W.cell? ⟨b8, 0, none⟩ = some (.slice ac nn cc) ∧ W.cell? ⟨b8, 1, none⟩ = some (.slice pc 0 qc) ∧ W.cell? ⟨b8, 2, none⟩ = some (.int .i64 (-1)) ∧ W.cell? ⟨b8, 3, none⟩ = some (.bool false)) := fun W hW => by
        have h := HTr.out.below hW
        obtain ⟨x0, x1, x2, x3, -⟩ := h.s.box.cells
        obtain ⟨y0, y1, y2, y3, -⟩ := h.c.cells
        exact ⟨h, x0, x1, x2, x3, y0, y1, y2, y3⟩
      clear hT hB S8
      have w64 : IntKind.i64.wrap (64 * (i : Int)) = 64 * (i : Int) := by rw [IntKind.wrap_i64]; omega
      obtain ⟨x0, x1, x2, x3, xf, xl⟩ := HTr.out.s.box.cells
      obtain ⟨y0, y1, y2, y3, yf, yl⟩ := HTr.out.c.cells
      by_cases hlt : i < nn / 64
      · have i1 : 64 * (i : Int) < (nn : Int) := by omega
        have i1' : decide (64 * (i : Int) < (nn : Int)) = true := decide_eq_true i1
        have HSAME : Hid (SameS dc d i) := HDC.out.1 i (.inl (fun h => by have := HWV.out.2 h; cases this))
        go_upto_region 18 with fail
        refine wp_region_late (S := (fun w' => (w'.cell? ⟨b5, 0, none⟩ = some (.slice a nn c') ∧ w'.cell? ⟨b5, 1, none⟩ = some (.slice p 0 q) ∧ w'.cell? ⟨b5, 2, none⟩ = some (.int .i64 fuel) ∧ w'.cell? ⟨b5, 3, none⟩ = some (.bool dead)) ∧ (w'.cell? ⟨b8, 0, none⟩ = some (.slice ac nn cc) ∧ w'.cell? ⟨b8, 1, none⟩ = some (.slice pc 0 qc) ∧ w'.cell? ⟨b8, 2, none⟩ = some (.int .i64 (-1)) ∧ w'.cell? ⟨b8, 3, none⟩ = some (.bool false)))) 23 (by kernel_rfl) ?_ (fun hHeld => ?_)
        · ((try dsimp only); go_keep)
        refine late_take 0 .zero (v := ?_) (by kernel_rfl) (by kernel_rfl) (by kernel_rfl) (by kernel_rfl) (fun _ _ _ h => h) (by rfl) ?_ (by assumption) ?_
        rotate_left
        · (intro w hSw; (try dsimp only at hSw); go_simp) <;> with_reducible rfl
        simp only [Act.put, List.setIfInBounds_toArray, List.set_cons_zero, List.set_cons_succ]
        refine late_take 1 (.succ .zero) (v := ?_) (by kernel_rfl) (by kernel_rfl) (by kernel_rfl) (by kernel_rfl) (fun _ _ _ h => h) (by rfl) ?_ (by assumption) ?_
        rotate_left
        · (intro w hSw; (try dsimp only at hSw); go_simp) <;> with_reducible rfl
        simp only [Act.put, List.setIfInBounds_toArray, List.set_cons_zero, List.set_cons_succ]
        refine late_take 2 (.succ (.succ .zero)) (v := ?_) (by kernel_rfl) (by kernel_rfl) (by kernel_rfl) (by kernel_rfl) (fun _ _ _ h => h) (by rfl) ?_ (by assumption) ?_
        rotate_left
        · (intro w hSw; (try dsimp only at hSw); go_simp) <;> with_reducible rfl
        simp only [Act.put, List.setIfInBounds_toArray, List.set_cons_zero, List.set_cons_succ]
        refine late_skip 3 (.succ (.succ (.succ .zero))) (by kernel_rfl) (by kernel_rfl) (by kernel_rfl) (by kernel_rfl) (fun _ _ _ h => h) (by rfl) (by assumption) ?_
        simp only [Act.put, List.setIfInBounds_toArray, List.set_cons_zero, List.set_cons_succ]
        refine late_skip 4 (.succ (.succ (.succ (.succ .zero)))) (by kernel_rfl) (by kernel_rfl) (by kernel_rfl) (by kernel_rfl) (fun _ _ _ h => h) (by rfl) (by assumption) ?_
        simp only [Act.put, List.setIfInBounds_toArray, List.set_cons_zero, List.set_cons_succ]
        refine late_skip 5 (.succ (.succ (.succ (.succ (.succ .zero))))) (by kernel_rfl) (by kernel_rfl) (by kernel_rfl) (by kernel_rfl) (fun _ _ _ h => h) (by rfl) (by assumption) ?_
        simp only [Act.put, List.setIfInBounds_toArray, List.set_cons_zero, List.set_cons_succ]
        refine late_take 6 (.succ (.succ (.succ (.succ (.succ (.succ .zero)))))) (v := ?_) (by kernel_rfl) (by kernel_rfl) (by kernel_rfl) (by kernel_rfl) (fun _ _ _ h => h) (by rfl) ?_ (by assumption) ?_
        rotate_left
        · (intro w hSw; (try dsimp only at hSw); go_simp) <;> with_reducible rfl
        simp only [Act.put, List.setIfInBounds_toArray, List.set_cons_zero, List.set_cons_succ]
        refine late_take 7 (.succ (.succ (.succ (.succ (.succ (.succ (.succ .zero))))))) (v := ?_) (by kernel_rfl) (by kernel_rfl) (by kernel_rfl) (by kernel_rfl) (fun _ _ _ h => h) (by rfl) ?_ (by assumption) ?_
        rotate_left
        · (intro w hSw; (try dsimp only at hSw); go_simp) <;> with_reducible rfl
        simp only [Act.put, List.setIfInBounds_toArray, List.set_cons_zero, List.set_cons_succ]
        refine late_skip 8 (.succ (.succ (.succ (.succ (.succ (.succ (.succ (.succ .zero)))))))) (by kernel_rfl) (by kernel_rfl) (by kernel_rfl) (by kernel_rfl) (fun _ _ _ h => h) (by rfl) (by assumption) ?_
        simp only [Act.put, List.setIfInBounds_toArray, List.set_cons_zero, List.set_cons_succ]
        refine late_skip 9 (.succ (.succ (.succ (.succ (.succ (.succ (.succ (.succ (.succ .zero))))))))) (by kernel_rfl) (by kernel_rfl) (by kernel_rfl) (by kernel_rfl) (fun _ _ _ h => h) (by rfl) (by assumption) ?_
        simp only [Act.put, List.setIfInBounds_toArray, List.set_cons_zero, List.set_cons_succ]
        refine late_skip 10 (.succ (.succ (.succ (.succ (.succ (.succ (.succ (.succ (.succ (.succ .zero)))))))))) (by kernel_rfl) (by kernel_rfl) (by kernel_rfl) (by kernel_rfl) (fun _ _ _ h => h) (by rfl) (by assumption) ?_
        simp only [Act.put, List.setIfInBounds_toArray, List.set_cons_zero, List.set_cons_succ]
        refine late_skip 11 (.succ (.succ (.succ (.succ (.succ (.succ (.succ (.succ (.succ (.succ (.succ .zero))))))))))) (by kernel_rfl) (by kernel_rfl) (by kernel_rfl) (by kernel_rfl) (fun _ _ _ h => h) (by rfl) (by assumption) ?_
        simp only [Act.put, List.setIfInBounds_toArray, List.set_cons_zero, List.set_cons_succ]
        refine late_skip 12 (.succ (.succ (.succ (.succ (.succ (.succ (.succ (.succ (.succ (.succ (.succ (.succ .zero)))))))))))) (by kernel_rfl) (by kernel_rfl) (by kernel_rfl) (by kernel_rfl) (fun _ _ _ h => h) (by rfl) (by assumption) ?_
        simp only [Act.put, List.setIfInBounds_toArray, List.set_cons_zero, List.set_cons_succ]
        refine late_take 13 (.succ (.succ (.succ (.succ (.succ (.succ (.succ (.succ (.succ (.succ (.succ (.succ (.succ .zero))))))))))))) (v := ?_) (by kernel_rfl) (by kernel_rfl) (by kernel_rfl) (by kernel_rfl) (fun _ _ _ h => h) (by rfl) ?_ (by assumption) ?_
        rotate_left
        · (intro w hSw; (try dsimp only at hSw); go_simp) <;> with_reducible rfl
        simp only [Act.put, List.setIfInBounds_toArray, List.set_cons_zero, List.set_cons_succ]
        refine late_take 14 (.succ (.succ (.succ (.succ (.succ (.succ (.succ (.succ (.succ (.succ (.succ (.succ (.succ (.succ .zero)))))))))))))) (v := ?_) (by kernel_rfl) (by kernel_rfl) (by kernel_rfl) (by kernel_rfl) (fun _ _ _ h => h) (by rfl) ?_ (by assumption) ?_
        rotate_left
        · (intro w hSw; (try dsimp only at hSw); go_simp) <;> with_reducible rfl
        simp only [Act.put, List.setIfInBounds_toArray, List.set_cons_zero, List.set_cons_succ]
        refine late_take 15 (.succ (.succ (.succ (.succ (.succ (.succ (.succ (.succ (.succ (.succ (.succ (.succ (.succ (.succ (.succ .zero))))))))))))))) (v := ?_) (by kernel_rfl) (by kernel_rfl) (by kernel_rfl) (by kernel_rfl) (fun _ _ _ h => h) (by rfl) ?_ (by assumption) ?_
        rotate_left
        · (intro w hSw; (try dsimp only at hSw); go_simp) <;> with_reducible rfl
        simp only [Act.put, List.setIfInBounds_toArray, List.set_cons_zero, List.set_cons_succ]
        refine late_take 16 (.succ (.succ (.succ (.succ (.succ (.succ (.succ (.succ (.succ (.succ (.succ (.succ (.succ (.succ (.succ (.succ .zero)))))))))))))))) (v := ?_) (by kernel_rfl) (by kernel_rfl) (by kernel_rfl) (by kernel_rfl) (fun _ _ _ h => h) (by rfl) ?_ (by assumption) ?_
        rotate_left
        · (intro w hSw; (try dsimp only at hSw); go_simp) <;> with_reducible rfl
        simp only [Act.put, List.setIfInBounds_toArray, List.set_cons_zero, List.set_cons_succ]
        refine late_take 18 (.succ (.succ (.succ (.succ (.succ (.succ (.succ (.succ (.succ (.succ (.succ (.succ (.succ (.succ (.succ (.succ (.succ (.succ .zero)))))))))))))))))) (v := ?_) (by kernel_rfl) (by kernel_rfl) (by kernel_rfl) (by kernel_rfl) (fun _ _ _ h => h) (by rfl) ?_ (by assumption) ?_
        rotate_left
        · (intro w hSw; (try dsimp only at hSw); go_simp) <;> with_reducible rfl
        simp only [Act.put, List.setIfInBounds_toArray, List.set_cons_zero, List.set_cons_succ]
        refine late_take 19 (.succ (.succ (.succ (.succ (.succ (.succ (.succ (.succ (.succ (.succ (.succ (.succ (.succ (.succ (.succ (.succ (.succ (.succ (.succ .zero))))))))))))))))))) (v := ?_) (by kernel_rfl) (by kernel_rfl) (by kernel_rfl) (by kernel_rfl) (fun _ _ _ h => h) (by rfl) ?_ (by assumption) ?_
        rotate_left
        · (intro w hSw; (try dsimp only at hSw); go_simp) <;> with_reducible rfl
        simp only [Act.put, List.setIfInBounds_toArray, List.set_cons_zero, List.set_cons_succ]
        refine late_one 17 (.succ (.succ (.succ (.succ (.succ (.succ (.succ (.succ (.succ (.succ (.succ (.succ (.succ (.succ (.succ (.succ (.succ .zero))))))))))))))))) (by kernel_rfl) (fun K hK => ?_)
        (refine step_ttr (by rfl) _ _ _ _ rfl (.agg #[.slice ac nn cc, .slice pc 0 qc, .int .i64 (-1), .bool false]) (.int .i64 (i : Int)) (by rfl) (by rfl) (enters_of Try.func11 (by kernel_rfl) rfl) ?_; refine (implRead_good ac pc nn cc 0 qc dc (fun _ => 0) (fun _ => 0) (fun _ _ => 0) (-1) false i wr.drew HT0.out.rc (Or.inl rfl) HV0.out hlt hn hcc hcc2 (by omega)).mono ?_; rintro e w20 ⟨a20, c20, rfl, ho20, hb20, -, -⟩; refine ⟨_, rfl, ?_⟩; obtain ⟨HT1, x0, x1, x2, x3, y0, y1, y2, y3⟩ := HCC.out w20 ((Below.refl _ _).drew.trans hb20))
        refine hK.out _ _ ?_ (fun hHeld2 => ?_)
        · (intro _; (try dsimp only); go_keep)
        clear hK K
        replace hHeld := hHeld2 (by decide)
        clear hHeld2
        try simp only [Act.put, List.setIfInBounds_toArray, List.set_cons_zero, List.set_cons_succ]
        refine late_one 20 (.succ (.succ (.succ (.succ (.succ (.succ (.succ (.succ (.succ (.succ (.succ (.succ (.succ (.succ (.succ (.succ (.succ (.succ (.succ (.succ .zero)))))))))))))))))))) (by kernel_rfl) (fun K hK => ?_)
        (refine step_ttr (by rfl) _ _ _ _ rfl (.agg #[.slice a nn c', .slice p 0 q, .int .i64 fuel, .bool dead]) (.int .i64 (i : Int)) (by rfl) (by rfl) (enters_of Try.func12 (by kernel_rfl) rfl) ?_; refine (specRead_good a p nn c' 0 q d S L F fuel dead i w20 HT1.s.rd HT1.s.rp HV.out hlt hn hnc hcm (by omega)).mono ?_; rintro e w21 ⟨a21, c21, rfl, ho21, hb21, -, -⟩; refine ⟨_, rfl, ?_⟩; obtain ⟨HT2, x0, x1, x2, x3, y0, y1, y2, y3⟩ := HCC.out w21 (((Below.refl _ _).drew.trans hb20).trans (hb21.mono (by have := hb20.size; exact this))))
        refine hK.out _ _ ?_ (fun hHeld2 => ?_)
        · (intro _; (try dsimp only); go_keep)
        clear hK K
        replace hHeld := hHeld2 (by decide)
        clear hHeld2
        try simp only [Act.put, List.setIfInBounds_toArray, List.set_cons_zero, List.set_cons_succ]
        refine late_one 21 (.succ (.succ (.succ (.succ (.succ (.succ (.succ (.succ (.succ (.succ (.succ (.succ (.succ (.succ (.succ (.succ (.succ (.succ (.succ (.succ (.succ .zero))))))))))))))))))))) (by kernel_rfl) (fun K hK => ?_)
        (refine step_ttr (by rfl) _ _ _ _ rfl (.slice a20 64 c20) (.slice a21 64 c21) (by rfl) (by rfl) (enters_of Try.func10 (by kernel_rfl) rfl) ?_; refine (lwBytes_eq a20 a21 64 c20 c21 _ _ w21 (ho20.below hb21).rd ho21.rd (fun j hj => HSAME.out j hj)).mono ?_; rintro e w22 ⟨rfl, hw22⟩; subst hw22; refine ⟨_, rfl, ?_⟩)
        refine hK.out _ _ ?_ (fun hHeld2 => ?_)
        · (intro _; (try dsimp only); go_keep)
        clear hK K
        replace hHeld := hHeld2 (by decide)
        clear hHeld2
        try simp only [Act.put, List.setIfInBounds_toArray, List.set_cons_zero, List.set_cons_succ]
        refine late_take 22 (.succ (.succ (.succ (.succ (.succ (.succ (.succ (.succ (.succ (.succ (.succ (.succ (.succ (.succ (.succ (.succ (.succ (.succ (.succ (.succ (.succ (.succ .zero)))))))))))))))))))))) (v := ?_) (by kernel_rfl) (by kernel_rfl) (by kernel_rfl) (by kernel_rfl) (fun _ _ _ h => h) (by rfl) ?_ (by assumption) ?_
        rotate_left
        · (intro w hSw; (try dsimp only at hSw); go_simp) <;> with_reducible rfl
        simp only [Act.put, List.setIfInBounds_toArray, List.set_cons_zero, List.set_cons_succ]
        refine late_one 23 (.succ (.succ (.succ (.succ (.succ (.succ (.succ (.succ (.succ (.succ (.succ (.succ (.succ (.succ (.succ (.succ (.succ (.succ (.succ (.succ (.succ (.succ (.succ .zero))))))))))))))))))))))) (by kernel_rfl) (fun K hK => ?_)
        go_simp
        refine hK.out _ _ ?_ (fun hHeld2 => ?_)
        · (intro hne; exact absurd rfl hne)
        clear hK K hHeld2
        refine wpLate_done (by kernel_rfl) ?_ _
        have SN : Hid (FrT w22 b5 a p nn c' 0 q d S L F fuel dead ap M Fp a1 n1 f1 b6 b7 b8 (.slice a6 nn c6) (.slice p6 u.m q6) (.slice a7 nn c7) (.slice p7 u.m q7) u.fuel u.dead ac cc pc qc dc ∧ Below w.heap.size w w22) := ⟨HT2, HBW.out.trans ((((Below.refl _ _).drew.trans hb20).trans (hb21.mono (by have := hb20.size; exact this))).mono HBW.out.size)⟩
        clear HT1 HT2 ho20 ho21 hb20 hb21 x0 x1 x2 x3 y0 y1 y2 y3 xf xl yf yl
        go_wp2
        go_roundw
        case rel => exact ⟨i + 1, by omega, by go_num, SN.out.1, SN.out.2⟩
        case measure => simp [intOf]; omega
      · have i1 : ¬ 64 * (i : Int) < (nn : Int) := by omega
        have i1' : decide (64 * (i : Int) < (nn : Int)) = false := decide_eq_false i1
        go_wp2
        go_ret
        exact ⟨rfl, HBW.out⟩
end Go.Proofs.Ytlcamfkgkcjehaa

namespace Go.Proofs.Ytlcamfkgkcjehaa
open Go.RowKit Go.Deep
set_option linter.unusedVariables false

/-- 'openByR'. -/
theorem frLaw (v u : Value) (w : World) (hv : IsBytesR w v) (hu : IsBytesR w u) : Calls Try.prog 4 #[v, u] w fun e w' => e = .returned (.bool true) ∧ Below w.heap.size w w' := by
  obtain ⟨a, n, c, f, rfl, ha, hf, _⟩ := hv
  obtain ⟨a1, n1, c1, f1, rfl, h1, hf1, _⟩ := hu
  exact frLaw0 a n c f a1 n1 c1 f1 w ha hf h1 hf1
end Go.Proofs.Ytlcamfkgkcjehaa
