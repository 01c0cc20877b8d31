import Derived.Test.YthcclkeeekppmaaNp12
import Derived.Test.YthcclkeeekppmaaNp7
import Derived.Laws.Cover1
import Derived.Deep.CutRange
namespace Go.Proofs.Ythcclkeeekppmaa
open Go.RowKit Go.Deep Go.Maps
set_option linter.unusedVariables false
set_option maxRecDepth 100000
set_option linter.unusedSimpArgs false

/-- The sets of the first k nodes. -/
def MnR (W : World) (gt n k : Nat) (fs : List Fc) (I : Nat → Int) (X R : Nat → ByteArray) (Bd : Nat → Bool) (Lb : Nat → ByteArray) : Prop := ∃ z : Nat → Option Nat, rowIn W gt 67 n (fun i => .map (z i)) ∧ ∀ i, i < k → ∃ b, z i = some b ∧ SSU W b fs (MS I X R fs i (Bd i) (Lb i))
/-- What impl.Meaning hands on to be sorted: nothing, or a set. -/
theorem SSU.set {w : World} {B : Nat} {fs : List Fc} {P : ByteArray → Prop} {gt k n : Nat} {t : TypeId} {F : Nat → Value} (h : SSU w B fs P) (hr : rowIn w gt t n F) (v : Value) : SSU (w.setCell ⟨gt, k, none⟩ v) B fs P := by
  refine ⟨?_, h.2⟩
  obtain ⟨⟨D, hown, hP⟩, _⟩ := h
  refine ⟨D, hown.setCell ?_ v, hP⟩
  obtain ⟨es, clock, hb, _⟩ := hown
  obtain ⟨cur, hc, _⟩ := hr
  intro e
  have e' : B = gt := e
  rw [e', hc] at hb
  cases hb
/-- The round of impl.Meaning's loop ahead of sorting. -/
def SrtOk : Prop := ∀ (B : Nat) (fs : List Fc) (P : ByteArray → Prop) (w : World), SSU w B fs P → fs.length ≤ 300 → ∀ w0, Below w0.heap.size w0 w →
  Calls Try.prog 32 #[.map (some B)] w fun e w1 => ∃ v, e = .returned v ∧ Below w.heap.size w w1 ∧ Calls Try.prog 31 #[v] w1 fun e w' => ∃ (v' : Value) (L : List ByteArray), e = .returned v' ∧ Asc L ∧ (∀ x, x ∈ L ↔ P x) ∧ w'.ownsRow w.heap.size 9 1 v' L.length (strL L) ∧ Below w0.heap.size w0 w'
/-- What impl.Meaning hands back. -/
def RetMe (w : World) (P : ByteArray → Prop) (e : Ending) (w' : World) : Prop := Below w.heap.size w w' ∧ ∃ (v : Value) (L : List ByteArray), e = .returned v ∧ Asc L ∧ (∀ x, x ∈ L ↔ P x) ∧ w'.ownsRow w.heap.size 9 1 v L.length (strL L)
set_option maxHeartbeats 4000000 in
theorem implMe (hSrt : SrtOk) (a : Option Addr) (n c : Nat) (I : Nat → Int) (X R : Nat → ByteArray) (fa : Option Addr) (fc : Nat) (fs : List Fc) (w : World) (h : RdN w a n I X R) (hF : RdF w fa fs) (hok : FcOk fs) (hn : n ≤ 1048576) (hc : n ≤ c) (hcm : c ≤ 9223372036854775807) (hlf : fs.length ≤ 1048576) :
    Calls Try.prog 7 #[.agg #[.slice a n c], .slice fa fs.length fc] w (RetMe w (MnP n I X R fs)) := by
  have HB0 : Hid (Below w.heap.size w (w.alloc (.cells #[.slice a n c] 25))) := below_alloc _ _
  have HRd : Hid (∀ W, Below w.heap.size w W → Calls Try.prog 28 #[.agg #[.slice a n c]] W (PathRet (CtxC n I X) W n I X R)) := fun W hW => readPath_c a n c I X R W (h.below hW) hn hc hcm
  obtain ⟨fn, hfn⟩ : ∃ fn, fn = fs.length := ⟨_, rfl⟩
  rw [← hfn] at hlf ⊢
  have HFs : Hid ((RdF w fa fs ∧ FcOk fs) ∧ fn = fs.length ∧ SrtOk) := ⟨⟨hF, hok⟩, hfn, hSrt⟩
  have HNo : Hid (∀ W, Below w.heap.size w W → ¬ (VPth n I X R ∧ fn ≤ 300) → RetMe w (MnP n I X R fs) (.returned (.slice none 0 0)) W) := fun W hW q => by
    refine ⟨hW, _, [], rfl, List.Pairwise.nil, fun x => ⟨(fun q => by cases q), fun hx => absurd ⟨hx.1, by rw [hfn]; exact hx.2.1⟩ q⟩, rfl, .inl ⟨rfl, rfl⟩⟩
  clear h hF hok hfn hSrt
  go_enter Try.func7, Try.ntmps7
  go_wp2_with fail
  refine (HRd.out _ HB0.out).mono ?_
  rintro e w1 ⟨hb1, hr⟩
  have HB1 : Hid (Below w.heap.size w w1) := HB0.out.trans (hb1.mono HB0.out.size)
  rcases hr with ⟨hno, v, rfl⟩ | ⟨hv, g, cg, AA, CC, Bd, Lb, rfl, hg0, hcg, hcg2, hctx, hpl, hop, hcc⟩
  · have HF := HNo.out w1 HB1.out (fun q => hno q.1)
    have HF2 : Hid (RetMe w (MnP n I X R fs) (.returned (.slice none 0 0)) w1) := HF
    clear hno hb1 HF HNo
    go_wp2
    go_ret
    exact HF2.out
  by_cases h3 : ¬ fn ≤ 300
  · have i3 : (300 : Int) < (fn : Int) := by omega
    have HF2 : Hid (RetMe w (MnP n I X R fs) (.returned (.slice none 0 0)) w1) := HNo.out w1 HB1.out (fun q => h3 q.2)
    clear hb1 HNo hctx hpl hop hcc
    go_wp2
    go_ret
    exact HF2.out
  · replace h3 : fn ≤ 300 := by omega
    have i3 : ¬ (300 : Int) < (fn : Int) := by omega
    have hn1 : 1 ≤ n ∧ n ≤ 100 := hv.1
    have HPl : Hid (VPth n I X R ∧ PlAt w1 g n (plF I X R AA CC Bd Lb (fun i => (hM (arI I) 100 i : Int))) ∧ ∀ i, i < n → OwnI w1 (w.alloc (.cells #[.slice a n c] 25)).heap.size (AA i) (arOf (I i)) (fun j => (opf (arI I) i j : Int))) := ⟨hv, hpl, hop⟩
    have HCX : Hid (CtxK n I X 0 Bd Lb) := hctx
    clear hv hpl hop hcc hb1 hctx HNo
    have hmk : ∀ W : World, (Instr.makeSlice 60 (.int .i64 (n : Int)) (.int .i64 (n : Int))).run Try.prog W = .ok (.slice (some ⟨W.heap.size, 0, none⟩) n n) (W.alloc (.cells (madeCells #[.map none] (n * 1)) 67)) := fun W => by
      obtain ⟨i0, hi, hz0, hz1, hz2⟩ := info_parts infoM
      have := run_make (P := Try.prog) W 60 67 i0 _ (by kernel_rfl) hi hz0 .i64 .i64 n n (by omega) (by omega) (by rw [hz2]; omega) (by omega)
      rw [hz1, show (Value.map none).cells = #[.map none] from rfl] at this
      simpa using this
    have H0 : Hid (MnR (w1.alloc (.cells (madeCells #[.map none] n) 67)) w1.heap.size n 0 fs I X R Bd Lb) := by
      refine ⟨fun _ => none, ⟨_, Array.getElem?_push_size, by rw [size_madeCells]; omega, fun i hi => ?_⟩, fun i hi => absurd hi (Nat.not_lt_zero _)⟩
      simp [madeCells, hi, Nat.mod_one]
    obtain ⟨gt, hgt⟩ : ∃ gt, gt = w1.heap.size := ⟨_, rfl⟩
    go_wp2
    rw [← hgt] at H0 ⊢
    have hgt1 : w1.heap.size ≤ gt := by omega
    clear hgt hmk
    go_loopw [8, 9, 27] (fun _ _ i wr => ∃ k : Nat, k ≤ n ∧ i = .int .i64 k ∧ MnR wr gt n k fs I X R Bd Lb ∧ Below w1.heap.size w1 wr) (fun _ _ i _ => n - (intOf i).toNat)
    case atStart => exact ⟨0, Nat.zero_le _, rfl, H0.out, below_alloc _ _⟩
    case round =>
      obtain ⟨k, hk, rfl, htx, hbr⟩ := hrel
      have HX : Hid (MnR wr gt n k fs I X R Bd Lb ∧ Below w1.heap.size w1 wr) := ⟨htx, hbr⟩
      clear htx hbr
      by_cases hlt : k < n
      · have hp := (HPl.out.2.1).below HX.out.2
        have cc : ∀ r, r < 7 → wr.cell? ⟨g, k * 7 + r, none⟩ = (plF I X R AA CC Bd Lb (fun i => (hM (arI I) 100 i : Int)) k).cells[r]? := fun r hr => hp.cell hlt hr
        have d0 := cc 0 (by omega)
        have d1 := cc 1 (by omega)
        have d2 := cc 2 (by omega)
        have d3 := cc 3 (by omega)
        have d4 := cc 4 (by omega)
        have d5 := cc 5 (by omega)
        have d6 := cc 6 (by omega)
        simp [Plc.cells, plF] at d0 d1 d2 d3 d4 d5 d6
        obtain ⟨q, hq⟩ : ∃ q, q = arOf (I k) := ⟨_, rfl⟩
        rw [← hq] at d5
        have hq2 : q ≤ 2 := by rw [hq]; exact arOf_le _
        have hop : Hid (∀ W, Below w1.heap.size w1 W → Rd .i64 W (AA k) q (fun j => (opf (arI I) k j : Int))) := fun W hW => by rw [hq]; exact ((HPl.out.2.2 k hlt).rd).below hW
        have k0 : (0 : Int) ≤ (k : Int) := by omega
        have k1 : (k : Int) < (n : Int) := by omega
        clear hp cc
        have HV : Hid (VPth n I X R) := HPl.out.1
        obtain ⟨z, hz, htz⟩ := HX.out.1
        have hg9 := (HV.out.gd k hlt)
        have HK9 : Hid (1 ≤ I k ∧ I k ≤ 9) := hg9.1
        clear hg9
        have HQ : Hid (q = arOf (I k)) := hq
        have hgtw : gt < wr.heap.size := hz.lt
        obtain ⟨ik, hik⟩ : ∃ ik, ik = I k := ⟨_, rfl⟩
        obtain ⟨xk, hxk⟩ : ∃ xk, xk = X k := ⟨_, rfl⟩
        obtain ⟨rk, hrk⟩ : ∃ rk, rk = R k := ⟨_, rfl⟩
        obtain ⟨bk, hbk⟩ : ∃ bk, bk = Bd k := ⟨_, rfl⟩
        obtain ⟨lk, hlk⟩ : ∃ lk, lk = Lb k := ⟨_, rfl⟩
        obtain ⟨ak, hak⟩ : ∃ ak, ak = AA k := ⟨_, rfl⟩
        obtain ⟨ck, hck⟩ : ∃ ck, ck = CC k := ⟨_, rfl⟩
        obtain ⟨mk, hmk⟩ : ∃ mk, mk = hM (arI I) 100 k := ⟨_, rfl⟩
        rw [← hik] at d0 HK9 HQ
        rw [← hxk] at d1
        rw [← hrk] at d2
        rw [← hbk] at d3
        rw [← hlk] at d4
        rw [← hak, ← hck] at d5
        rw [← hak] at hop
        rw [← hmk] at d6
        have HE : Hid (ik = I k ∧ xk = X k ∧ rk = R k ∧ bk = Bd k ∧ lk = Lb k) := ⟨hik, hxk, hrk, hbk, hlk⟩
        obtain ⟨W1, hW1⟩ : ∃ W1, W1 = wr.alloc (.cells #[.int .i64 ik, .string xk, .string rk, .bool bk, .string lk, .slice ak q ck, .int .i64 (mk : Int)] 65) := ⟨_, rfl⟩
        obtain ⟨bx, hbx⟩ : ∃ bx, bx = wr.heap.size := ⟨_, rfl⟩
        have hgx : gt < bx := by omega
        have HW : Hid (Below wr.heap.size wr W1 ∧ W1.heap[bx]? = some (.cells #[.int .i64 ik, .string xk, .string rk, .bool bk, .string lk, .slice ak q ck, .int .i64 (mk : Int)] 65) ∧ W1.heap.size = bx + 1) := by
          rw [hW1, hbx]
          exact ⟨below_alloc _ _, Array.getElem?_push_size, by simp⟩
        have HWB : Hid (∀ W, Below W1.heap.size W1 W → Below w1.heap.size w1 W) := fun W hW => HX.out.2.trans ((HW.out.1.trans (hW.mono HW.out.1.size)).mono HX.out.2.size)
        have HBX : Hid (∀ W, Below W1.heap.size W1 W → W.cell? ⟨bx, 0, none⟩ = some (.int .i64 ik) ∧ W.cell? ⟨bx, 1, none⟩ = some (.string xk) ∧ W.cell? ⟨bx, 2, none⟩ = some (.string rk) ∧ W.cell? ⟨bx, 3, none⟩ = some (.bool bk) ∧ W.cell? ⟨bx, 4, none⟩ = some (.string lk) ∧ W.cell? ⟨bx, 5, none⟩ = some (.slice ak q ck) ∧ W.cell? ⟨bx, 6, none⟩ = some (.int .i64 (mk : Int))) := fun W hW => by
          have hh := (hW.block bx (by rw [HW.out.2.2]; omega)).trans HW.out.2.1
          refine ⟨?_, ?_, ?_, ?_, ?_, ?_, ?_⟩ <;> simp [World.cell?, hh]
        have HBY : Hid (∀ (W : World) (v : Value), Below W1.heap.size W1 W → (W.setCell ⟨gt, k, none⟩ v).cell? ⟨bx, 0, none⟩ = some (.int .i64 ik) ∧ (W.setCell ⟨gt, k, none⟩ v).cell? ⟨bx, 1, none⟩ = some (.string xk) ∧ (W.setCell ⟨gt, k, none⟩ v).cell? ⟨bx, 2, none⟩ = some (.string rk) ∧ (W.setCell ⟨gt, k, none⟩ v).cell? ⟨bx, 3, none⟩ = some (.bool bk) ∧ (W.setCell ⟨gt, k, none⟩ v).cell? ⟨bx, 4, none⟩ = some (.string lk) ∧ (W.setCell ⟨gt, k, none⟩ v).cell? ⟨bx, 5, none⟩ = some (.slice ak q ck) ∧ (W.setCell ⟨gt, k, none⟩ v).cell? ⟨bx, 6, none⟩ = some (.int .i64 (mk : Int))) := fun W v hW => by
          have hh := (Below.heap_setCell W ⟨gt, k, none⟩ v bx (by show bx ≠ gt; omega)).trans ((hW.block bx (by rw [HW.out.2.2]; omega)).trans HW.out.2.1)
          refine ⟨?_, ?_, ?_, ?_, ?_, ?_, ?_⟩ <;> simp only [World.cell?, hh] <;> rfl
        have HZ : Hid (∀ W, Below W1.heap.size W1 W → rowIn W gt 67 n (fun i => .map (z i))) := fun W hW => by
          have hh : W.heap[gt]? = wr.heap[gt]? := (hW.block gt (by rw [HW.out.2.2]; omega)).trans (HW.out.1.block gt hgtw)
          exact hz.of_block hh
        have HS : Hid (∀ W, Below W1.heap.size W1 W → Calls Try.prog 30 #[.slice (some ⟨gt, 0, none⟩) n n, .slice ak q ck] W fun e w' => ∃ ap cp, e = .returned (.slice ap q cp) ∧ (0 < q → ∃ g, ap = some ⟨g, 0, none⟩ ∧ ∀ j, j < q → w'.cell? ⟨g, j, none⟩ = some (.map (z (opf (arI I) k j)))) ∧ Below W.heap.size W w') := fun W hW => by
          refine (pickM_any gt n n z ak q ck (fun j => opf (arI I) k j) W (fun i hi => (HZ.out W hW).cell hi) (hop.out W (HWB.out W hW)) (fun j hj => Nat.lt_trans (vp_opf_lt HV.out hlt (by rw [← HE.out.1, ← HQ.out]; exact hj)) hlt) (by omega) (by omega)).mono ?_
          rintro e w' ⟨v, rfl, hv, hb⟩
          obtain ⟨ap, cp, rfl, hp⟩ := pkM_of hv
          exact ⟨ap, cp, rfl, hp, hb⟩
        have HSS : Hid (∀ i, i < k → ∃ b, z i = some b ∧ SSU wr b fs (MS I X R fs i (Bd i) (Lb i))) := htz
        have HTx : Hid (∀ (W : World) (ap : Option Addr) (cp : Nat), Below W1.heap.size W1 W → (0 < q → ∃ g, ap = some ⟨g, 0, none⟩ ∧ ∀ j, j < q → W.cell? ⟨g, j, none⟩ = some (.map (z (opf (arI I) k j)))) → Calls Try.prog 29 #[.agg #[.int .i64 ik, .string xk, .string rk, .bool bk, .string lk, .slice ak q ck, .int .i64 (mk : Int)], .slice fa fn fc, .slice ap q cp] W (RetU W fs (MS I X R fs k (Bd k) (Lb k)))) := fun W ap cp hW hcl => by
          have hwW : Below wr.heap.size wr W := HW.out.1.trans (hW.mono HW.out.1.size)
          have hjl : ∀ j, j < q → opf (arI I) k j < k := fun j hj => vp_opf_lt HV.out hlt (by rw [← HE.out.1, ← HQ.out]; exact hj)
          obtain ⟨Bo, hBo⟩ : ∃ Bo : Nat → Nat, ∀ j, j < q → z (opf (arI I) k j) = some (Bo j) ∧ SSU wr (Bo j) fs (MS I X R fs (opf (arI I) k j) (Bd (opf (arI I) k j)) (Lb (opf (arI I) k j))) := by
            refine ⟨fun j => (z (opf (arI I) k j)).getD 0, fun j hj => ?_⟩
            obtain ⟨b, hb, hs⟩ := HSS.out _ (hjl j hj)
            show z (opf (arI I) k j) = some ((z (opf (arI I) k j)).getD 0) ∧ SSU wr ((z (opf (arI I) k j)).getD 0) fs _
            rw [hb]
            exact ⟨rfl, hs⟩
          rw [HFs.out.2.1]
          refine (meaning_node (k := ik) (q := q) HK9.out HQ.out xk rk bk lk ak q ck (mk : Int) fa fc fs ap cp Bo (fun j => MS I X R fs (opf (arI I) k j) (dnB (I k) (Bd k)) (dnG (I k) (X k) (Lb k))) W ((HFs.out.1.1.below HB1.out).below (HX.out.2.trans (hwW.mono HX.out.2.size))) (by rw [← HFs.out.2.1]; exact h3) HFs.out.1.2 (fun h0 => ?_) (fun j hj => ?_)).mono ?_
          · obtain ⟨g1, e1, e2⟩ := hcl h0
            exact ⟨g1, e1, fun j hj => by rw [e2 j hj, (hBo j hj).1]⟩
          · have hcx := HCX.out.2.2 k (Nat.zero_le _) hlt j (by rw [← HE.out.1, ← HQ.out]; exact hj)
            have := ((hBo j hj).2).below hwW
            rw [hcx.1, hcx.2] at this
            exact this
          · rintro e w' ⟨B, rfl, hs, hb⟩
            refine ⟨B, rfl, hs.congr (fun x => ?_), hb⟩
            rw [HE.out.1, HE.out.2.1, HE.out.2.2.1, HE.out.2.2.2.1, HE.out.2.2.2.2]
            exact (MS_eq (by rw [← HE.out.1]; exact HK9.out) (fun h => vp_opf_lt HV.out hlt (by omega)) (fun h => vp_opf_lt HV.out hlt (by omega)) _ _ x).symm
        have HXB : Hid (Below w1.heap.size w1 wr) := HX.out.2
        clear hz htz hop hq hik hxk hrk hbk hlk hak hck hmk HK9 HE HQ HX
        go_wp2
        rw [← hW1, ← hbx]
        clear hW1 hbx d0 d1 d2 d3 d4 d5 d6 hgtw
        have K0 : Hid (Below W1.heap.size W1 W1.drew) := (Below.refl _ _).drew
        go_region_held3 (fun w' => w'.cell? ⟨bx, 0, none⟩ = some (.int .i64 ik) ∧ w'.cell? ⟨bx, 1, none⟩ = some (.string xk) ∧ w'.cell? ⟨bx, 2, none⟩ = some (.string rk) ∧ w'.cell? ⟨bx, 3, none⟩ = some (.bool bk) ∧ w'.cell? ⟨bx, 4, none⟩ = some (.string lk) ∧ w'.cell? ⟨bx, 5, none⟩ = some (.slice ak q ck) ∧ w'.cell? ⟨bx, 6, none⟩ = some (.int .i64 (mk : Int))) (first | exact HBY.out _ _ K4.out.1 | exact HBX.out _ K4.out.1 | exact HBX.out _ K3.out.1 | exact HBX.out _ K0.out | go_keep)
          (first
          | (go_at_call 30; (with_reducible refine (HS.out _ K0.out).mono ?_); rintro e w3 ⟨ap, cp, rfl, hp3, hb3⟩; have K3 : Hid (Below W1.heap.size W1 w3 ∧ (0 < q → ∃ g, ap = some ⟨g, 0, none⟩ ∧ ∀ j, j < q → w3.cell? ⟨g, j, none⟩ = some (.map (z (opf (arI I) k j))))) := ⟨K0.out.trans (hb3.mono K0.out.size), hp3⟩; clear hb3 hp3)
          | (go_at_call 29; (with_reducible refine (HTx.out _ ap cp K3.out.1 K3.out.2).mono ?_); rintro e w4 ⟨B4, rfl, hs4, hb4⟩; have K4 : Hid (Below W1.heap.size W1 w4 ∧ SSU w4 B4 fs (MS I X R fs k (Bd k) (Lb k))) := ⟨K3.out.1.trans (hb4.mono K3.out.1.size), hs4⟩; clear hb4 hs4; have hz4 := HZ.out w4 K4.out.1; have y0 := hz4.cell hlt; have y1 := hz4.frozen; have y2 := hz4.lt; clear hz4)
          | fail)
        have HF : Hid (MnR (w4.setCell ⟨gt, k, none⟩ (.map (some B4))) gt n (k + 1) fs I X R Bd Lb ∧ Below w1.heap.size w1 (w4.setCell ⟨gt, k, none⟩ (.map (some B4)))) := by
          have hzz := HZ.out w4 K4.out.1
          refine ⟨⟨fun i => if i = k then some B4 else z i, (hzz.set k (.map (some B4))).congr (fun i hi => ?_), fun i hi => ?_⟩, (HWB.out w4 K4.out.1).setCell hgt1 _⟩
          · by_cases e : i = k
            · dsimp only; rw [if_pos e, if_pos e]
            · dsimp only; rw [if_neg e, if_neg e]
          · by_cases e : i = k
            · subst e
              exact ⟨B4, by dsimp only; rw [if_pos rfl], K4.out.2.set hzz _⟩
            · obtain ⟨b, hb, hs⟩ := HSS.out i (by omega)
              exact ⟨b, by dsimp only; rw [if_neg e]; exact hb, (hs.below (HW.out.1.trans (K4.out.1.mono HW.out.1.size))).set hzz _⟩
        go_wp2
        go_roundw
        case rel => exact ⟨k + 1, by omega, by go_num, HF.out⟩
        case measure => simp [intOf]; omega
      · have e : k = n := by omega
        subst e
        have l1 : ¬ (k : Int) < (k : Int) := by omega
        obtain ⟨m, hm⟩ : ∃ m, k = m + 1 := ⟨k - 1, by omega⟩
        subst hm
        obtain ⟨z, hz, htz⟩ := HX.out.1
        obtain ⟨bm, hbm, hsm⟩ := htz m (by omega)
        have hcz := hz.cell (show m < m + 1 by omega)
        rw [hbm] at hcz
        have HLs : Hid (Calls Try.prog 33 #[.slice (some ⟨gt, 0, none⟩) (m + 1) (m + 1)] wr fun e w' => e = .returned (.map (some bm)) ∧ w' = wr) := lastM_any gt m (m + 1) (some bm) wr hcz (by omega)
        have hb2 : Below w.heap.size w wr := HB1.out.trans (HX.out.2.mono HB1.out.size)
        have HSo := HFs.out.2.2 bm fs _ wr hsm (by rw [← HFs.out.2.1]; exact h3) w hb2
        have HSh : Hid (Calls Try.prog 32 #[.map (some bm)] wr fun e w1 => ∃ v, e = .returned v ∧ Below wr.heap.size wr w1 ∧ Calls Try.prog 31 #[v] w1 fun e w' => ∃ (v' : Value) (L : List ByteArray), e = .returned v' ∧ Asc L ∧ (∀ x, x ∈ L ↔ MS I X R fs m (Bd m) (Lb m) x) ∧ w'.ownsRow wr.heap.size 9 1 v' L.length (strL L) ∧ Below w.heap.size w w') := HSo
        have HB2 : Hid (Below w.heap.size w wr) := hb2
        clear hz htz hcz hsm hbm hb2 HSo
        go_wp2_with fail
        refine HLs.out.mono ?_
        rintro e w2 ⟨rfl, hw2⟩
        subst hw2
        go_wp2_with fail
        refine HSh.out.mono ?_
        rintro e w3 ⟨v3, rfl, hb3, hc3⟩
        have H3 : Hid (Calls Try.prog 31 #[v3] w3 fun e w' => ∃ (v' : Value) (L : List ByteArray), e = .returned v' ∧ Asc L ∧ (∀ x, x ∈ L ↔ MS I X R fs m (Bd m) (Lb m) x) ∧ w'.ownsRow w2.heap.size 9 1 v' L.length (strL L) ∧ Below w.heap.size w w') := hc3
        clear hb3 hc3
        go_wp2_with fail
        refine H3.out.mono ?_
        rintro e w4 ⟨v4, L, rfl, hA, hm, ho, hb⟩
        have HF : Hid (RetMe w (MnP (m + 1) I X R fs) (.returned v4) w4) := by
          refine ⟨hb, v4, L, rfl, hA, fun x => ?_, ?_⟩
          · rw [hm]
            unfold MnP
            rw [Nat.add_sub_cancel, ← HFs.out.2.1]
            have h1 := HCX.out.1
            have h2 := HCX.out.2.1
            rw [Nat.add_sub_cancel] at h1 h2
            rw [h1, h2]
            exact ⟨fun q => ⟨HPl.out.1, h3, q⟩, fun q => q.2.2⟩
          · obtain ⟨q1, q2⟩ := ho
            refine ⟨q1, q2.imp id ?_⟩
            rintro ⟨g0, cap, cur, e1, e2, e3⟩
            exact ⟨g0, cap, cur, e1, Nat.le_trans HB2.out.size e2, e3⟩
        clear hA hm ho hb
        go_wp2
        go_ret
        exact HF.out
end Go.Proofs.Ythcclkeeekppmaa
