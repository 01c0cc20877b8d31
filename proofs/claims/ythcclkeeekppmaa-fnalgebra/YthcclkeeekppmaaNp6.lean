import Derived.Test.YthcclkeeekppmaaNp5
import Derived.Deep.QuietTactic
import Derived.BigQuiet
namespace Go.Proofs.Ythcclkeeekppmaa
open Go.RowKit Go.Deep
set_option linter.unusedVariables false
set_option maxRecDepth 100000

set_option maxHeartbeats 4000000 in
theorem mean_6 (b o mm c : Nat) (s t : ByteArray) (v0 : Value) (v1 : Value) (fa : Option Addr) (fn fc : Nat) (fs : List Fc) (N0 N1 : Nat) (A B : Bool → ByteArray → ByteArray → Prop) (bd : Bool) (g : ByteArray) (w : World) (h : MnA w b o mm c 6 s t [v0, v1] fa fn fc fs) (k0 : KidM w v0 fa fn fc N0 A) (k1 : KidM w v1 fa fn fc N1 B) (hN0 : N0 ≤ 100000) (hN1 : N1 ≤ 100000) :
    Calls Try.prog 34 #[.slice (some ⟨b, o, none⟩) mm c, .slice fa fn fc, .bool bd, .string g] w (RetM w (N0) (nodeM 6 s t (fs.filter (cntB bd g)) (A bd g) (B bd g))) := by
  have HM : Hid (MnA w b o mm c 6 s t [v0, v1] fa fn fc fs) := h
  clear h
  go_enter Try.func34, Try.ntmps34
  go_wp2_with fail
  refine HM.out.ro.mono ?_
  rintro e w1 ⟨rfl, hb1⟩
  have HB1 : Hid (Below w.heap.size w (w1.alloc (.cells #[.int .i64 6, .string s, .string t] 35))) := hb1.trans ((below_alloc _ _).mono hb1.size)
  clear hb1
  go_wp2_with fail
  refine (HM.out.kd _ HB1.out).mono ?_
  rintro e w2 ⟨go, cpo, rfl, hks, hb2⟩
  have HB2 : Hid (Below w.heap.size w w2) := HB1.out.trans (hb2.mono HB1.out.size)
  have HBx : Hid (∀ W, Below w2.heap.size w2 W → (W.cell? ⟨w1.heap.size, 0, none⟩ = some (.int .i64 6) ∧ W.cell? ⟨w1.heap.size, 1, none⟩ = some (.string s) ∧ W.cell? ⟨w1.heap.size, 2, none⟩ = some (.string t)) ∧ w1.heap.size < W.heap.size ∧ W.cell? ⟨go, 0, none⟩ = some v0 ∧ W.cell? ⟨go, 1, none⟩ = some v1) := fun W hW => by
    have hz : w1.heap.size < w2.heap.size := by have := hb2.size; simp at this; omega
    have hh : W.heap[w1.heap.size]? = some (.cells #[.int .i64 6, .string s, .string t] 35) := (hW.block _ hz).trans ((hb2.block _ (by simp)).trans Array.getElem?_push_size)
    have hz2 := hW.size
    refine ⟨⟨?_, ?_, ?_⟩, by omega, (hW.cell (World.block_lt_of_cell? _ _ (hks 0 v0 rfl))).trans (hks 0 v0 rfl), (hW.cell (World.block_lt_of_cell? _ _ (hks 1 v1 rfl))).trans (hks 1 v1 rfl)⟩ <;> simp [World.cell?, hh]
  clear hks hb2 HB1
  obtain ⟨b3, hb3⟩ : ∃ b3, b3 = w1.heap.size := ⟨_, rfl⟩
  rw [← hb3] at HBx ⊢
  clear hb3
  obtain ⟨⟨x0, x1, x2⟩, xl, x3, x4⟩ := HBx.out w2 (Below.refl _ _)
  have HLF : Hid (∀ W, Below w.heap.size w W → Calls Try.prog 71 #[.slice fa fn fc, .bool bd, .string g] W fun e w' => ∃ a' c', e = .returned (.slice a' (fs.filter (cntB bd g)).length c') ∧ RdF w' a' (fs.filter (cntB bd g)) ∧ Below W.heap.size W w') := fun W hW => by
    rw [HM.out.fl]
    exact l6Facts_any fa fc fs bd g W (HM.out.rf.below hW) (by have := HM.out.f3; omega)
  obtain ⟨F, hF⟩ : ∃ F, F = fs.filter (cntB bd g) := ⟨_, rfl⟩
  rw [← hF] at HLF
  have HFE : Hid (F = fs.filter (cntB bd g) ∧ F.length ≤ 300) := ⟨hF, by rw [hF]; exact Nat.le_trans (List.length_filter_le _ _) HM.out.f3⟩
  obtain ⟨nF, hnF⟩ : ∃ nF, nF = F.length := ⟨_, rfl⟩
  rw [← hnF] at HLF HFE
  have HNF : Hid (nF = F.length) := hnF
  have hnF3 : nF ≤ 300 := HFE.out.2
  clear hF hnF
  obtain ⟨W3, hW3⟩ : ∃ W3, W3 = ((w2.alloc (.cells #[] 9)).alloc (.cells #[] 9)).alloc (.cells #[] 9) := ⟨_, rfl⟩
  obtain ⟨vo, hvo⟩ : ∃ vo, vo = Value.slice (some ⟨w2.heap.size, 0, none⟩) 0 0 := ⟨_, rfl⟩
  have HVO : Hid (vo = Value.slice (some ⟨w2.heap.size, 0, none⟩) 0 0) := hvo
  have H3 : Hid (Below w2.heap.size w2 W3 ∧ (NoC w2.heap.size W3 ∧ w2.heap.size < W3.heap.size) ∧ W3.ownsRow w2.heap.size 9 1 vo 0 (strL [])) := by
    rw [hW3, hvo]
    have hb2 : Below (w2.alloc (.cells #[] 9)).heap.size (w2.alloc (.cells #[] 9)) (((w2.alloc (.cells #[] 9)).alloc (.cells #[] 9)).alloc (.cells #[] 9)) := (below_alloc _ _).alloc (by simp) _
    have hz : w2.heap.size < (w2.alloc (.cells #[] 9)).heap.size := by simp
    refine ⟨((below_alloc _ _).alloc (by simp) _).alloc (by simp; omega) _, ⟨⟨9, (hb2.block _ hz).trans (blk_alloc_new _ _)⟩, by have := hb2.size; omega⟩, own_below (own_empty w2 9 w2.heap.size 1 (Nat.le_refl _)) hb2⟩
  have HK0 : Hid (∀ W, Below w2.heap.size w2 W → Calls Try.prog 34 #[v0, .slice fa fn fc, .bool bd, .string g] W (RetM W N0 (A bd g))) := fun W hW => k0 W bd g (HB2.out.trans (hW.mono HB2.out.size))
  have HK1 : Hid (∀ W, Below w2.heap.size w2 W → Calls Try.prog 34 #[v1, .slice fa fn fc, .bool bd, .string g] W (RetM W N1 (B bd g))) := fun W hW => k1 W bd g (HB2.out.trans (hW.mono HB2.out.size))
  clear k0 k1
  go_upto_region 9 with fail
  rw [← hW3, ← hvo]
  clear hW3 hvo x0 x1 x2 x3 x4 xl
  obtain ⟨⟨x0, x1, x2⟩, xl, x3, x4⟩ := HBx.out W3 H3.out.1
  go_wp2_with fail
  refine (HK0.out W3 H3.out.1).mono ?_
  intro e w4 hr
  obtain ⟨va, rfl, hla, hb4⟩ := hr.lst
  have H4 : Hid (Below w2.heap.size w2 w4 ∧ Below W3.heap.size W3 w4 ∧ LstA w4 va N0 (A bd g)) := ⟨H3.out.1.trans (hb4.mono H3.out.1.size), hb4, hla⟩
  clear hr hla hb4 x0 x1 x2 x3 x4 xl
  obtain ⟨⟨x0, x1, x2⟩, xl, x3, x4⟩ := HBx.out w4 H4.out.1
  go_wp2_with fail
  refine (HK1.out w4 H4.out.1).mono ?_
  intro e w4b hr
  obtain ⟨vb, rfl, hla, hb4⟩ := hr.lst
  have H4b : Hid (Below w2.heap.size w2 w4b ∧ Below W3.heap.size W3 w4b ∧ LstA w4b va N0 (A bd g) ∧ LstA w4b vb N1 (B bd g)) := ⟨H4.out.1.trans (hb4.mono H4.out.1.size), H4.out.2.1.trans (hb4.mono H4.out.2.1.size), H4.out.2.2.below hb4, hla⟩
  clear hr hla hb4 x0 x1 x2 x3 x4 xl H4
  go_wp2_with fail
  refine (HLF.out w4b (HB2.out.trans (H4b.out.1.mono HB2.out.size))).mono ?_
  rintro e w5 ⟨aF, cF, rfl, hrF, hb5⟩
  have H5 : Hid (Below w2.heap.size w2 w5 ∧ (NoC w2.heap.size w5 ∧ w2.heap.size < w5.heap.size ∧ w5.ownsRow w2.heap.size 9 1 vo 0 (strL [])) ∧ RdF w5 aF F ∧ LstA w5 va N0 (A bd g) ∧ LstA w5 vb N1 (B bd g)) := by
    have hb35 : Below W3.heap.size W3 w5 := H4b.out.2.1.trans (hb5.mono H4b.out.2.1.size)
    refine ⟨H4b.out.1.trans (hb5.mono H4b.out.1.size), ⟨?_, by have := hb35.size; have := H3.out.2.1.2; omega, own_below H3.out.2.2 hb35⟩, hrF, H4b.out.2.2.1.below hb5, H4b.out.2.2.2.below hb5⟩
    obtain ⟨t0, ht0⟩ := H3.out.2.1.1
    exact ⟨t0, (hb35.block _ H3.out.2.1.2).trans ht0⟩
  clear hrF hb5 H4b H3 HK0 HK1 HLF
  obtain ⟨⟨x0, x1, x2⟩, xl, -⟩ := HBx.out w5 H5.out.1
  obtain ⟨kp, hkp⟩ := boolOf (fun x => B bd g x)
  have HKP : Hid (∀ x, kp x = true ↔ B bd g x) := hkp
  clear hkp
  obtain ⟨aa, ca, La, hva, hra, hAs, hmA, hlA, -, -⟩ := H5.out.2.2.2.1
  obtain ⟨nA, hnA⟩ : ∃ nA, nA = La.length := ⟨_, rfl⟩
  rw [← hnA] at hva
  have HA : Hid (nA = La.length ∧ Asc La ∧ (∀ x, x ∈ La ↔ A bd g x) ∧ La.length ≤ N0) := ⟨hnA, hAs, hmA, hlA⟩
  have hnA2 : nA ≤ 100000 := by rw [hnA]; omega
  have HRA : Hid (∀ W, ExB w2.heap.size w5 W → (RdG W aa La ∧ LstA W vb N1 (B bd g)) ∧ RdF W aF F ∧ Below w2.heap.size w2 W) := fun W hW => ⟨⟨RdS.exB hra hW H5.out.2.1.1, H5.out.2.2.2.2.exB hW H5.out.2.1.1⟩, H5.out.2.2.1.exB hW H5.out.2.1.1, H5.out.1.trans (hW.bel (by have := H5.out.2.1.2.1; omega) (Nat.le_refl _))⟩
  clear hra hAs hmA hlA hnA
  subst hva
  go_wp2
  clear x0 x1 x2 xl
  go_loopw [11, 15] (fun u i wr => ∃ k : Nat, k ≤ nA ∧ i = .int .i64 k ∧ wr.ownsRow w2.heap.size 9 1 u ((La.take k).filter kp).length (strL ((La.take k).filter kp)) ∧ ExB w2.heap.size w5 wr ∧ (∀ g, u.ownBlock = some g → g = w2.heap.size ∨ w5.heap.size ≤ g)) (fun _ i _ => nA - (intOf i).toNat)
  case atStart => exact ⟨0, Nat.zero_le _, rfl, by simpa using H5.out.2.1.2.2, ExB.refl _ _, fun g e => .inl (by rw [HVO.out] at e; simp [Value.ownBlock] at e; omega)⟩
  case round =>
    obtain ⟨k, hk, rfl, hown, hex, hbl⟩ := hrel
    have HO : Hid (wr.ownsRow w2.heap.size 9 1 u11 ((La.take k).filter kp).length (strL ((La.take k).filter kp)) ∧ ExB w2.heap.size w5 wr ∧ (∀ g, u11.ownBlock = some g → g = w2.heap.size ∨ w5.heap.size ≤ g)) := ⟨hown, hex, hbl⟩
    have hz : w2.heap.size ≤ wr.heap.size := by have := hex.2.2.2.1; have := H5.out.2.1.2.1; omega
    clear hown hex hbl
    by_cases hlt : k < nA
    · have hkl : k < La.length := by rw [← HA.out.1]; exact hlt
      obtain ⟨bb, o1, rfl, s1⟩ := (HRA.out wr HO.out.2.1).1.1.cell hkl
      have i0 : (0 : Int) ≤ (k : Int) := by omega
      have i1 : (k : Int) < (nA : Int) := by omega
      obtain ⟨x, hx⟩ : ∃ x, x = gt La k := ⟨_, rfl⟩
      rw [← hx] at s1
      have etk : La.take (k + 1) = La.take k ++ [x] := by rw [List.take_add_one, gt_get hkl, ← hx]; rfl
      obtain ⟨m, hm⟩ : ∃ m, m = ((La.take k).filter kp).length := ⟨_, rfl⟩
      rw [← hm] at HO
      have hm2 : m ≤ nA := by rw [hm, HA.out.1]; exact Nat.le_trans (List.length_filter_le _ _) (by rw [List.length_take]; omega)
      have HE : Hid (m = ((La.take k).filter kp).length ∧ La.take (k + 1) = La.take k ++ [x]) := ⟨hm, etk⟩
      have HIn : Hid (LstA wr vb N1 (B bd g)) := (HRA.out wr HO.out.2.1).1.2
      clear hx hm etk hkl
      go_wp2_with fail
      refine (l6In_v vb N1 (B bd g) x wr HIn.out (by omega)).mono ?_
      rintro e w7 ⟨bq, rfl, hbq, hw7⟩
      replace hw7 := hw7.symm
      subst hw7
      cases bq with
      | true =>
        have hcb : kp x = true := (HKP.out x).2 (hbq.1 rfl)
        have HX : Hid (∀ (v' : Value) (w' : World), w'.ownsRow w2.heap.size 9 1 v' (m + 1) (strL ((La.take k).filter kp ++ [x])) → w'.ownsRow w2.heap.size 9 1 v' ((La.take (k + 1)).filter kp).length (strL ((La.take (k + 1)).filter kp))) := fun v' w' q => by
          rw [HE.out.2, List.filter_append, List.filter_cons_of_pos (by rw [hcb]), List.filter_nil, List.length_append, ← HE.out.1]
          exact q
        clear hcb hbq
        go_wp2_with (at_builtin; refine app_st rfl _ _ rfl w2.heap.size m u11 _ x rfl HO.out.1 rfl (by omega) hz ?_)
        intro v' w1 ho hg hv
        have HY : Hid (w1.ownsRow w2.heap.size 9 1 v' ((La.take (k + 1)).filter kp).length (strL ((La.take (k + 1)).filter kp)) ∧ ExB w2.heap.size w5 w1 ∧ (∀ g, v'.ownBlock = some g → g = w2.heap.size ∨ w5.heap.size ≤ g)) := ⟨HX.out v' w1 ho, (HO.out.2.1.below (below_alloc _ _)).grown hg HO.out.2.2, fun g e => by
          rcases hv with q | q
          · exact HO.out.2.2 g (q.symm.trans e)
          · rw [q] at e; injection e with e; have := HO.out.2.1.2.2.2.1; exact .inr (by omega)⟩
        clear ho hg hv HO
        go_wp2
        go_roundw
        case rel => exact ⟨k + 1, by omega, by go_num, HY.out⟩
        case measure => simp [intOf]; omega
      | false =>
        have hcb : kp x = false := by
          cases hq : kp x with
          | false => rfl
          | true => exact absurd ((HKP.out x).1 hq) (fun q => by have := hbq.2 q; cases this)
        have HX : Hid (wr.ownsRow w2.heap.size 9 1 u11 ((La.take (k + 1)).filter kp).length (strL ((La.take (k + 1)).filter kp)) ∧ ExB w2.heap.size w5 wr ∧ (∀ g, u11.ownBlock = some g → g = w2.heap.size ∨ w5.heap.size ≤ g)) := by
          rw [HE.out.2, List.filter_append, List.filter_cons_of_neg (by rw [hcb]; simp), List.filter_nil, List.append_nil, ← HE.out.1]
          exact HO.out
        clear hcb hbq HO
        go_wp2
        go_roundw
        case rel => exact ⟨k + 1, by omega, by go_num, HX.out⟩
        case measure => simp [intOf]; omega
    · have e : k = nA := by omega
      subst e
      have HL4 : Hid (LstA wr u11 (N0) (nodeM 6 s t (fs.filter (cntB bd g)) (A bd g) (B bd g)) ∧ RdF wr aF F ∧ Below w2.heap.size w2 wr) := by
        have ett : La.take k = La := by rw [HA.out.1]; exact List.take_length
        refine ⟨LstA.own HO.out.1 ?_ (fun x => ?_) ?_, (HRA.out wr HO.out.2.1).2⟩
        · rw [ett]; exact asc_filter HA.out.2.1 _
        · rw [ett, List.mem_filter, HA.out.2.2.1, HKP.out]; simp [nodeM]
        · rw [ett]; exact Nat.le_trans (List.length_filter_le _ _) HA.out.2.2.2
      clear HO HRA
      obtain ⟨wL, hwL⟩ : ∃ wL, wL = wr := ⟨_, rfl⟩
      subst hwL
      obtain ⟨uL, huL⟩ : ∃ uL, uL = u11 := ⟨_, rfl⟩
      subst huL
      have HF : Hid (RetM w (N0) (nodeM 6 s t (fs.filter (cntB bd g)) (A bd g) (B bd g)) (.returned uL) wL) := HL4.out.1.ret (HB2.out.trans (HL4.out.2.2.mono HB2.out.size))
      obtain ⟨⟨x0, x1, x2⟩, xl, -⟩ := HBx.out wL HL4.out.2.2
      go_wp2
      clear x0 x1 x2 xl
      go_loopw [11, 18, 19] (fun u i _ wr => ∃ j : Nat, j ≤ nF ∧ i = .int .i64 j ∧ u = uL ∧ Below wL.heap.size wL wr) (fun _ i _ _ => nF - (intOf i).toNat)
      case atStart => exact ⟨0, Nat.zero_le _, rfl, rfl, Below.refl _ _⟩
      case round =>
        obtain ⟨j, hj, rfl, hu, hbr⟩ := hrel
        replace hu := hu.symm
        subst hu
        have HB : Hid (Below wL.heap.size wL wr) := hbr
        clear hbr
        by_cases hlt : j < nF
        · have hjF : j < F.length := by rw [← HNF.out]; exact hlt
          obtain ⟨bF, oF, rfl, s0, s1, s2, s3⟩ := (HL4.out.2.1.below HB.out).at hjF
          obtain ⟨f, hf⟩ : ∃ f, f = F[j] := ⟨_, rfl⟩
          rw [← hf] at s0 s1 s2 s3
          clear hf hjF
          obtain ⟨W6, hW6⟩ : ∃ W6, W6 = wr.alloc (.cells #[.string f.s, .string f.p, .string f.o, .string f.g] 38) := ⟨_, rfl⟩
          obtain ⟨b6, hb6⟩ : ∃ b6, b6 = wr.heap.size := ⟨_, rfl⟩
          have HBA : Hid (Below wL.heap.size wL W6) := by
            have hbA : Below wr.heap.size wr W6 := by rw [hW6]; exact below_alloc _ _
            exact HB.out.trans (hbA.mono HB.out.size)
          have i0 : (0 : Int) ≤ (j : Int) := by omega
          have i1 : (j : Int) < (nF : Int) := by omega
          obtain ⟨⟨x0, x1, x2⟩, xl, -⟩ := HBx.out wr (HL4.out.2.2.trans (HB.out.mono HL4.out.2.2.size))
          go_upto_region 36 with fail
          rw [← hW6, ← hb6]
          clear hW6 hb6 s0 s1 s2 s3 x0 x1 x2 xl HB
          obtain ⟨⟨x0, x1, x2⟩, xl, -⟩ := HBx.out W6 (HL4.out.2.2.trans (HBA.out.mono HL4.out.2.2.size))
          go_wp2
          go_roundw
          case rel => exact ⟨j + 1, by omega, by go_num, rfl, HBA.out⟩
          case measure => simp [intOf]; omega
        · have e : j = nF := by omega
          subst e
          have HF2 : Hid (RetM w (N0) (nodeM 6 s t (fs.filter (cntB bd g)) (A bd g) (B bd g)) (.returned uL) wr) := (HL4.out.1.below HB.out).ret (HB2.out.trans ((HL4.out.2.2.trans (HB.out.mono HL4.out.2.2.size)).mono HB2.out.size))
          clear HB
          go_wp2
          go_ret
          exact HF2.out
end Go.Proofs.Ythcclkeeekppmaa

namespace Go.Proofs.Ythcclkeeekppmaa
open Go.RowKit Go.Deep
set_option linter.unusedVariables false
set_option maxRecDepth 100000

set_option maxHeartbeats 4000000 in
theorem mean_7 (b o mm c : Nat) (s t : ByteArray) (v0 : Value) (v1 : Value) (fa : Option Addr) (fn fc : Nat) (fs : List Fc) (N0 N1 : Nat) (A B : Bool → ByteArray → ByteArray → Prop) (bd : Bool) (g : ByteArray) (w : World) (h : MnA w b o mm c 7 s t [v0, v1] fa fn fc fs) (k0 : KidM w v0 fa fn fc N0 A) (k1 : KidM w v1 fa fn fc N1 B) (hN0 : N0 ≤ 100000) (hN1 : N1 ≤ 100000) :
    Calls Try.prog 34 #[.slice (some ⟨b, o, none⟩) mm c, .slice fa fn fc, .bool bd, .string g] w (RetM w (N0 + N1) (nodeM 7 s t (fs.filter (cntB bd g)) (A bd g) (B bd g))) := by
  have HM : Hid (MnA w b o mm c 7 s t [v0, v1] fa fn fc fs) := h
  clear h
  go_enter Try.func34, Try.ntmps34
  go_wp2_with fail
  refine HM.out.ro.mono ?_
  rintro e w1 ⟨rfl, hb1⟩
  have HB1 : Hid (Below w.heap.size w (w1.alloc (.cells #[.int .i64 7, .string s, .string t] 35))) := hb1.trans ((below_alloc _ _).mono hb1.size)
  clear hb1
  go_wp2_with fail
  refine (HM.out.kd _ HB1.out).mono ?_
  rintro e w2 ⟨go, cpo, rfl, hks, hb2⟩
  have HB2 : Hid (Below w.heap.size w w2) := HB1.out.trans (hb2.mono HB1.out.size)
  have HBx : Hid (∀ W, Below w2.heap.size w2 W → (W.cell? ⟨w1.heap.size, 0, none⟩ = some (.int .i64 7) ∧ W.cell? ⟨w1.heap.size, 1, none⟩ = some (.string s) ∧ W.cell? ⟨w1.heap.size, 2, none⟩ = some (.string t)) ∧ w1.heap.size < W.heap.size ∧ W.cell? ⟨go, 0, none⟩ = some v0 ∧ W.cell? ⟨go, 1, none⟩ = some v1) := fun W hW => by
    have hz : w1.heap.size < w2.heap.size := by have := hb2.size; simp at this; omega
    have hh : W.heap[w1.heap.size]? = some (.cells #[.int .i64 7, .string s, .string t] 35) := (hW.block _ hz).trans ((hb2.block _ (by simp)).trans Array.getElem?_push_size)
    have hz2 := hW.size
    refine ⟨⟨?_, ?_, ?_⟩, by omega, (hW.cell (World.block_lt_of_cell? _ _ (hks 0 v0 rfl))).trans (hks 0 v0 rfl), (hW.cell (World.block_lt_of_cell? _ _ (hks 1 v1 rfl))).trans (hks 1 v1 rfl)⟩ <;> simp [World.cell?, hh]
  clear hks hb2 HB1
  obtain ⟨b3, hb3⟩ : ∃ b3, b3 = w1.heap.size := ⟨_, rfl⟩
  rw [← hb3] at HBx ⊢
  clear hb3
  obtain ⟨⟨x0, x1, x2⟩, xl, x3, x4⟩ := HBx.out w2 (Below.refl _ _)
  have HLF : Hid (∀ W, Below w.heap.size w W → Calls Try.prog 71 #[.slice fa fn fc, .bool bd, .string g] W fun e w' => ∃ a' c', e = .returned (.slice a' (fs.filter (cntB bd g)).length c') ∧ RdF w' a' (fs.filter (cntB bd g)) ∧ Below W.heap.size W w') := fun W hW => by
    rw [HM.out.fl]
    exact l6Facts_any fa fc fs bd g W (HM.out.rf.below hW) (by have := HM.out.f3; omega)
  obtain ⟨F, hF⟩ : ∃ F, F = fs.filter (cntB bd g) := ⟨_, rfl⟩
  rw [← hF] at HLF
  have HFE : Hid (F = fs.filter (cntB bd g) ∧ F.length ≤ 300) := ⟨hF, by rw [hF]; exact Nat.le_trans (List.length_filter_le _ _) HM.out.f3⟩
  obtain ⟨nF, hnF⟩ : ∃ nF, nF = F.length := ⟨_, rfl⟩
  rw [← hnF] at HLF HFE
  have HNF : Hid (nF = F.length) := hnF
  have hnF3 : nF ≤ 300 := HFE.out.2
  clear hF hnF
  obtain ⟨W3, hW3⟩ : ∃ W3, W3 = ((w2.alloc (.cells #[] 9)).alloc (.cells #[] 9)).alloc (.cells #[] 9) := ⟨_, rfl⟩
  obtain ⟨vo, hvo⟩ : ∃ vo, vo = Value.slice (some ⟨w2.heap.size, 0, none⟩) 0 0 := ⟨_, rfl⟩
  have HVO : Hid (vo = Value.slice (some ⟨w2.heap.size, 0, none⟩) 0 0) := hvo
  have H3 : Hid (Below w2.heap.size w2 W3 ∧ (NoC w2.heap.size W3 ∧ w2.heap.size < W3.heap.size) ∧ W3.ownsRow w2.heap.size 9 1 vo 0 (strL [])) := by
    rw [hW3, hvo]
    have hb2 : Below (w2.alloc (.cells #[] 9)).heap.size (w2.alloc (.cells #[] 9)) (((w2.alloc (.cells #[] 9)).alloc (.cells #[] 9)).alloc (.cells #[] 9)) := (below_alloc _ _).alloc (by simp) _
    have hz : w2.heap.size < (w2.alloc (.cells #[] 9)).heap.size := by simp
    refine ⟨((below_alloc _ _).alloc (by simp) _).alloc (by simp; omega) _, ⟨⟨9, (hb2.block _ hz).trans (blk_alloc_new _ _)⟩, by have := hb2.size; omega⟩, own_below (own_empty w2 9 w2.heap.size 1 (Nat.le_refl _)) hb2⟩
  have HK0 : Hid (∀ W, Below w2.heap.size w2 W → Calls Try.prog 34 #[v0, .slice fa fn fc, .bool bd, .string g] W (RetM W N0 (A bd g))) := fun W hW => k0 W bd g (HB2.out.trans (hW.mono HB2.out.size))
  have HK1 : Hid (∀ W, Below w2.heap.size w2 W → Calls Try.prog 34 #[v1, .slice fa fn fc, .bool bd, .string g] W (RetM W N1 (B bd g))) := fun W hW => k1 W bd g (HB2.out.trans (hW.mono HB2.out.size))
  clear k0 k1
  go_upto_region 9 with fail
  rw [← hW3, ← hvo]
  clear hW3 hvo x0 x1 x2 x3 x4 xl
  obtain ⟨⟨x0, x1, x2⟩, xl, x3, x4⟩ := HBx.out W3 H3.out.1
  go_wp2_with fail
  refine (HK0.out W3 H3.out.1).mono ?_
  intro e w4 hr
  obtain ⟨va, rfl, hla, hb4⟩ := hr.lst
  have H4 : Hid (Below w2.heap.size w2 w4 ∧ Below W3.heap.size W3 w4 ∧ LstA w4 va N0 (A bd g)) := ⟨H3.out.1.trans (hb4.mono H3.out.1.size), hb4, hla⟩
  clear hr hla hb4 x0 x1 x2 x3 x4 xl
  obtain ⟨⟨x0, x1, x2⟩, xl, x3, x4⟩ := HBx.out w4 H4.out.1
  go_wp2_with fail
  refine (HK1.out w4 H4.out.1).mono ?_
  intro e w4b hr
  obtain ⟨vb, rfl, hla, hb4⟩ := hr.lst
  have H4b : Hid (Below w2.heap.size w2 w4b ∧ Below W3.heap.size W3 w4b ∧ LstA w4b va N0 (A bd g) ∧ LstA w4b vb N1 (B bd g)) := ⟨H4.out.1.trans (hb4.mono H4.out.1.size), H4.out.2.1.trans (hb4.mono H4.out.2.1.size), H4.out.2.2.below hb4, hla⟩
  clear hr hla hb4 x0 x1 x2 x3 x4 xl H4
  go_wp2_with fail
  refine (HLF.out w4b (HB2.out.trans (H4b.out.1.mono HB2.out.size))).mono ?_
  rintro e w5 ⟨aF, cF, rfl, hrF, hb5⟩
  have H5 : Hid (Below w2.heap.size w2 w5 ∧ (NoC w2.heap.size w5 ∧ w2.heap.size < w5.heap.size ∧ w5.ownsRow w2.heap.size 9 1 vo 0 (strL [])) ∧ RdF w5 aF F ∧ LstA w5 va N0 (A bd g) ∧ LstA w5 vb N1 (B bd g)) := by
    have hb35 : Below W3.heap.size W3 w5 := H4b.out.2.1.trans (hb5.mono H4b.out.2.1.size)
    refine ⟨H4b.out.1.trans (hb5.mono H4b.out.1.size), ⟨?_, by have := hb35.size; have := H3.out.2.1.2; omega, own_below H3.out.2.2 hb35⟩, hrF, H4b.out.2.2.1.below hb5, H4b.out.2.2.2.below hb5⟩
    obtain ⟨t0, ht0⟩ := H3.out.2.1.1
    exact ⟨t0, (hb35.block _ H3.out.2.1.2).trans ht0⟩
  clear hrF hb5 H4b H3 HK0 HK1 HLF
  obtain ⟨⟨x0, x1, x2⟩, xl, -⟩ := HBx.out w5 H5.out.1
  obtain ⟨ab, cb, Lb, hvb, hrb, hAs, hmB, hlB, -, -⟩ := H5.out.2.2.2.2
  obtain ⟨nB, hnB⟩ : ∃ nB, nB = Lb.length := ⟨_, rfl⟩
  rw [← hnB] at hvb
  have HA : Hid (nB = Lb.length ∧ (∀ x, x ∈ Lb ↔ B bd g x) ∧ Lb.length ≤ N1) := ⟨hnB, hmB, hlB⟩
  have hnB2 : nB ≤ 100000 := by rw [hnB]; omega
  have hnB3 : nB ≤ N1 := by rw [hnB]; exact hlB
  have HRA : Hid (RdG w5 ab Lb) := hrb
  clear hrb hAs hmB hlB hnB
  subst hvb
  go_wp2
  clear x0 x1 x2 xl
  go_loopw [11, 17] (fun u i wr => ∃ k : Nat, k ≤ nB ∧ i = .int .i64 k ∧ LstA wr u (N0 + k) (fun x => A bd g x ∨ x ∈ Lb.take k) ∧ Below w5.heap.size w5 wr) (fun _ i _ => nB - (intOf i).toNat)
  case atStart => exact ⟨0, Nat.zero_le _, rfl, H5.out.2.2.2.1.congr (fun x => by simp) (by omega), Below.refl _ _⟩
  case round =>
    obtain ⟨k, hk, rfl, hl, hbr⟩ := hrel
    have HO : Hid (LstA wr u11 (N0 + k) (fun x => A bd g x ∨ x ∈ Lb.take k) ∧ Below w5.heap.size w5 wr) := ⟨hl, hbr⟩
    clear hl hbr
    by_cases hlt : k < nB
    · have hkl : k < Lb.length := by rw [← HA.out.1]; exact hlt
      obtain ⟨bb, o1, rfl, s1⟩ := (HRA.out.below HO.out.2).cell hkl
      have i0 : (0 : Int) ≤ (k : Int) := by omega
      have i1 : (k : Int) < (nB : Int) := by omega
      obtain ⟨x, hx⟩ : ∃ x, x = gt Lb k := ⟨_, rfl⟩
      rw [← hx] at s1
      have HE : Hid (Lb.take (k + 1) = Lb.take k ++ [x]) := by rw [List.take_add_one, gt_get hkl, ← hx]; rfl
      clear hx hkl
      go_wp2_with fail
      refine (l6Add_v u11 (N0 + k) _ x wr HO.out.1 (by omega)).mono ?_
      rintro e w8 ⟨v8, rfl, hl8, hb8⟩
      have HY : Hid (LstA w8 v8 (N0 + (k + 1)) (fun x => A bd g x ∨ x ∈ Lb.take (k + 1)) ∧ Below w5.heap.size w5 w8) := ⟨hl8.congr (fun y => by rw [HE.out]; simp [or_assoc]) (by omega), HO.out.2.trans (hb8.mono HO.out.2.size)⟩
      clear hl8 hb8 HO s1
      go_wp2
      go_roundw
      case rel => exact ⟨k + 1, by omega, by go_num, HY.out⟩
      case measure => simp [intOf]; omega
    · have e : k = nB := by omega
      subst e
      have HL4 : Hid (LstA wr u11 (N0 + N1) (nodeM 7 s t (fs.filter (cntB bd g)) (A bd g) (B bd g)) ∧ RdF wr aF F ∧ Below w2.heap.size w2 wr) := by
        refine ⟨HO.out.1.congr (fun x => ?_) (by omega), H5.out.2.2.1.below HO.out.2, H5.out.1.trans (HO.out.2.mono H5.out.1.size)⟩
        rw [HA.out.1, List.take_length, HA.out.2.1]
        simp [nodeM]
      clear HO HRA
      obtain ⟨wL, hwL⟩ : ∃ wL, wL = wr := ⟨_, rfl⟩
      subst hwL
      obtain ⟨uL, huL⟩ : ∃ uL, uL = u11 := ⟨_, rfl⟩
      subst huL
      have HF : Hid (RetM w (N0 + N1) (nodeM 7 s t (fs.filter (cntB bd g)) (A bd g) (B bd g)) (.returned uL) wL) := HL4.out.1.ret (HB2.out.trans (HL4.out.2.2.mono HB2.out.size))
      obtain ⟨⟨x0, x1, x2⟩, xl, -⟩ := HBx.out wL HL4.out.2.2
      go_wp2
      clear x0 x1 x2 xl
      go_loopw [11, 18, 19] (fun u i _ wr => ∃ j : Nat, j ≤ nF ∧ i = .int .i64 j ∧ u = uL ∧ Below wL.heap.size wL wr) (fun _ i _ _ => nF - (intOf i).toNat)
      case atStart => exact ⟨0, Nat.zero_le _, rfl, rfl, Below.refl _ _⟩
      case round =>
        obtain ⟨j, hj, rfl, hu, hbr⟩ := hrel
        replace hu := hu.symm
        subst hu
        have HB : Hid (Below wL.heap.size wL wr) := hbr
        clear hbr
        by_cases hlt : j < nF
        · have hjF : j < F.length := by rw [← HNF.out]; exact hlt
          obtain ⟨bF, oF, rfl, s0, s1, s2, s3⟩ := (HL4.out.2.1.below HB.out).at hjF
          obtain ⟨f, hf⟩ : ∃ f, f = F[j] := ⟨_, rfl⟩
          rw [← hf] at s0 s1 s2 s3
          clear hf hjF
          obtain ⟨W6, hW6⟩ : ∃ W6, W6 = wr.alloc (.cells #[.string f.s, .string f.p, .string f.o, .string f.g] 38) := ⟨_, rfl⟩
          obtain ⟨b6, hb6⟩ : ∃ b6, b6 = wr.heap.size := ⟨_, rfl⟩
          have HBA : Hid (Below wL.heap.size wL W6) := by
            have hbA : Below wr.heap.size wr W6 := by rw [hW6]; exact below_alloc _ _
            exact HB.out.trans (hbA.mono HB.out.size)
          have i0 : (0 : Int) ≤ (j : Int) := by omega
          have i1 : (j : Int) < (nF : Int) := by omega
          obtain ⟨⟨x0, x1, x2⟩, xl, -⟩ := HBx.out wr (HL4.out.2.2.trans (HB.out.mono HL4.out.2.2.size))
          go_upto_region 36 with fail
          rw [← hW6, ← hb6]
          clear hW6 hb6 s0 s1 s2 s3 x0 x1 x2 xl HB
          obtain ⟨⟨x0, x1, x2⟩, xl, -⟩ := HBx.out W6 (HL4.out.2.2.trans (HBA.out.mono HL4.out.2.2.size))
          go_wp2
          go_roundw
          case rel => exact ⟨j + 1, by omega, by go_num, rfl, HBA.out⟩
          case measure => simp [intOf]; omega
        · have e : j = nF := by omega
          subst e
          have HF2 : Hid (RetM w (N0 + N1) (nodeM 7 s t (fs.filter (cntB bd g)) (A bd g) (B bd g)) (.returned uL) wr) := (HL4.out.1.below HB.out).ret (HB2.out.trans ((HL4.out.2.2.trans (HB.out.mono HL4.out.2.2.size)).mono HB2.out.size))
          clear HB
          go_wp2
          go_ret
          exact HF2.out
end Go.Proofs.Ythcclkeeekppmaa

namespace Go.Proofs.Ythcclkeeekppmaa
open Go.RowKit Go.Deep
set_option linter.unusedVariables false
set_option maxRecDepth 100000

set_option maxHeartbeats 4000000 in
theorem mean_8 (b o mm c : Nat) (s t : ByteArray) (v0 : Value) (v1 : Value) (fa : Option Addr) (fn fc : Nat) (fs : List Fc) (N0 N1 : Nat) (A B : Bool → ByteArray → ByteArray → Prop) (bd : Bool) (g : ByteArray) (w : World) (h : MnA w b o mm c 8 s t [v0, v1] fa fn fc fs) (k0 : KidM w v0 fa fn fc N0 A) (k1 : KidM w v1 fa fn fc N1 B) (hN0 : N0 ≤ 100000) (hN1 : N1 ≤ 100000) :
    Calls Try.prog 34 #[.slice (some ⟨b, o, none⟩) mm c, .slice fa fn fc, .bool bd, .string g] w (RetM w (N0) (nodeM 8 s t (fs.filter (cntB bd g)) (A bd g) (B bd g))) := by
  have HM : Hid (MnA w b o mm c 8 s t [v0, v1] fa fn fc fs) := h
  clear h
  go_enter Try.func34, Try.ntmps34
  go_wp2_with fail
  refine HM.out.ro.mono ?_
  rintro e w1 ⟨rfl, hb1⟩
  have HB1 : Hid (Below w.heap.size w (w1.alloc (.cells #[.int .i64 8, .string s, .string t] 35))) := hb1.trans ((below_alloc _ _).mono hb1.size)
  clear hb1
  go_wp2_with fail
  refine (HM.out.kd _ HB1.out).mono ?_
  rintro e w2 ⟨go, cpo, rfl, hks, hb2⟩
  have HB2 : Hid (Below w.heap.size w w2) := HB1.out.trans (hb2.mono HB1.out.size)
  have HBx : Hid (∀ W, Below w2.heap.size w2 W → (W.cell? ⟨w1.heap.size, 0, none⟩ = some (.int .i64 8) ∧ W.cell? ⟨w1.heap.size, 1, none⟩ = some (.string s) ∧ W.cell? ⟨w1.heap.size, 2, none⟩ = some (.string t)) ∧ w1.heap.size < W.heap.size ∧ W.cell? ⟨go, 0, none⟩ = some v0 ∧ W.cell? ⟨go, 1, none⟩ = some v1) := fun W hW => by
    have hz : w1.heap.size < w2.heap.size := by have := hb2.size; simp at this; omega
    have hh : W.heap[w1.heap.size]? = some (.cells #[.int .i64 8, .string s, .string t] 35) := (hW.block _ hz).trans ((hb2.block _ (by simp)).trans Array.getElem?_push_size)
    have hz2 := hW.size
    refine ⟨⟨?_, ?_, ?_⟩, by omega, (hW.cell (World.block_lt_of_cell? _ _ (hks 0 v0 rfl))).trans (hks 0 v0 rfl), (hW.cell (World.block_lt_of_cell? _ _ (hks 1 v1 rfl))).trans (hks 1 v1 rfl)⟩ <;> simp [World.cell?, hh]
  clear hks hb2 HB1
  obtain ⟨b3, hb3⟩ : ∃ b3, b3 = w1.heap.size := ⟨_, rfl⟩
  rw [← hb3] at HBx ⊢
  clear hb3
  obtain ⟨⟨x0, x1, x2⟩, xl, x3, x4⟩ := HBx.out w2 (Below.refl _ _)
  have HLF : Hid (∀ W, Below w.heap.size w W → Calls Try.prog 71 #[.slice fa fn fc, .bool bd, .string g] W fun e w' => ∃ a' c', e = .returned (.slice a' (fs.filter (cntB bd g)).length c') ∧ RdF w' a' (fs.filter (cntB bd g)) ∧ Below W.heap.size W w') := fun W hW => by
    rw [HM.out.fl]
    exact l6Facts_any fa fc fs bd g W (HM.out.rf.below hW) (by have := HM.out.f3; omega)
  obtain ⟨F, hF⟩ : ∃ F, F = fs.filter (cntB bd g) := ⟨_, rfl⟩
  rw [← hF] at HLF
  have HFE : Hid (F = fs.filter (cntB bd g) ∧ F.length ≤ 300) := ⟨hF, by rw [hF]; exact Nat.le_trans (List.length_filter_le _ _) HM.out.f3⟩
  obtain ⟨nF, hnF⟩ : ∃ nF, nF = F.length := ⟨_, rfl⟩
  rw [← hnF] at HLF HFE
  have HNF : Hid (nF = F.length) := hnF
  have hnF3 : nF ≤ 300 := HFE.out.2
  clear hF hnF
  obtain ⟨W3, hW3⟩ : ∃ W3, W3 = ((w2.alloc (.cells #[] 9)).alloc (.cells #[] 9)).alloc (.cells #[] 9) := ⟨_, rfl⟩
  obtain ⟨vo, hvo⟩ : ∃ vo, vo = Value.slice (some ⟨w2.heap.size, 0, none⟩) 0 0 := ⟨_, rfl⟩
  have HVO : Hid (vo = Value.slice (some ⟨w2.heap.size, 0, none⟩) 0 0) := hvo
  have H3 : Hid (Below w2.heap.size w2 W3 ∧ (NoC w2.heap.size W3 ∧ w2.heap.size < W3.heap.size) ∧ W3.ownsRow w2.heap.size 9 1 vo 0 (strL [])) := by
    rw [hW3, hvo]
    have hb2 : Below (w2.alloc (.cells #[] 9)).heap.size (w2.alloc (.cells #[] 9)) (((w2.alloc (.cells #[] 9)).alloc (.cells #[] 9)).alloc (.cells #[] 9)) := (below_alloc _ _).alloc (by simp) _
    have hz : w2.heap.size < (w2.alloc (.cells #[] 9)).heap.size := by simp
    refine ⟨((below_alloc _ _).alloc (by simp) _).alloc (by simp; omega) _, ⟨⟨9, (hb2.block _ hz).trans (blk_alloc_new _ _)⟩, by have := hb2.size; omega⟩, own_below (own_empty w2 9 w2.heap.size 1 (Nat.le_refl _)) hb2⟩
  have HK0 : Hid (∀ W, Below w2.heap.size w2 W → Calls Try.prog 34 #[v0, .slice fa fn fc, .bool bd, .string g] W (RetM W N0 (A bd g))) := fun W hW => k0 W bd g (HB2.out.trans (hW.mono HB2.out.size))
  have HK1 : Hid (∀ W, Below w2.heap.size w2 W → Calls Try.prog 34 #[v1, .slice fa fn fc, .bool bd, .string g] W (RetM W N1 (B bd g))) := fun W hW => k1 W bd g (HB2.out.trans (hW.mono HB2.out.size))
  clear k0 k1
  go_upto_region 9 with fail
  rw [← hW3, ← hvo]
  clear hW3 hvo x0 x1 x2 x3 x4 xl
  obtain ⟨⟨x0, x1, x2⟩, xl, x3, x4⟩ := HBx.out W3 H3.out.1
  go_wp2_with fail
  refine (HK0.out W3 H3.out.1).mono ?_
  intro e w4 hr
  obtain ⟨va, rfl, hla, hb4⟩ := hr.lst
  have H4 : Hid (Below w2.heap.size w2 w4 ∧ Below W3.heap.size W3 w4 ∧ LstA w4 va N0 (A bd g)) := ⟨H3.out.1.trans (hb4.mono H3.out.1.size), hb4, hla⟩
  clear hr hla hb4 x0 x1 x2 x3 x4 xl
  obtain ⟨⟨x0, x1, x2⟩, xl, x3, x4⟩ := HBx.out w4 H4.out.1
  go_wp2_with fail
  refine (HK1.out w4 H4.out.1).mono ?_
  intro e w4b hr
  obtain ⟨vb, rfl, hla, hb4⟩ := hr.lst
  have H4b : Hid (Below w2.heap.size w2 w4b ∧ Below W3.heap.size W3 w4b ∧ LstA w4b va N0 (A bd g) ∧ LstA w4b vb N1 (B bd g)) := ⟨H4.out.1.trans (hb4.mono H4.out.1.size), H4.out.2.1.trans (hb4.mono H4.out.2.1.size), H4.out.2.2.below hb4, hla⟩
  clear hr hla hb4 x0 x1 x2 x3 x4 xl H4
  go_wp2_with fail
  refine (HLF.out w4b (HB2.out.trans (H4b.out.1.mono HB2.out.size))).mono ?_
  rintro e w5 ⟨aF, cF, rfl, hrF, hb5⟩
  have H5 : Hid (Below w2.heap.size w2 w5 ∧ (NoC w2.heap.size w5 ∧ w2.heap.size < w5.heap.size ∧ w5.ownsRow w2.heap.size 9 1 vo 0 (strL [])) ∧ RdF w5 aF F ∧ LstA w5 va N0 (A bd g) ∧ LstA w5 vb N1 (B bd g)) := by
    have hb35 : Below W3.heap.size W3 w5 := H4b.out.2.1.trans (hb5.mono H4b.out.2.1.size)
    refine ⟨H4b.out.1.trans (hb5.mono H4b.out.1.size), ⟨?_, by have := hb35.size; have := H3.out.2.1.2; omega, own_below H3.out.2.2 hb35⟩, hrF, H4b.out.2.2.1.below hb5, H4b.out.2.2.2.below hb5⟩
    obtain ⟨t0, ht0⟩ := H3.out.2.1.1
    exact ⟨t0, (hb35.block _ H3.out.2.1.2).trans ht0⟩
  clear hrF hb5 H4b H3 HK0 HK1 HLF
  obtain ⟨⟨x0, x1, x2⟩, xl, -⟩ := HBx.out w5 H5.out.1
  obtain ⟨kp, hkp⟩ := boolOf (fun x => ¬ B bd g x)
  have HKP : Hid (∀ x, kp x = true ↔ ¬ B bd g x) := hkp
  clear hkp
  obtain ⟨aa, ca, La, hva, hra, hAs, hmA, hlA, -, -⟩ := H5.out.2.2.2.1
  obtain ⟨nA, hnA⟩ : ∃ nA, nA = La.length := ⟨_, rfl⟩
  rw [← hnA] at hva
  have HA : Hid (nA = La.length ∧ Asc La ∧ (∀ x, x ∈ La ↔ A bd g x) ∧ La.length ≤ N0) := ⟨hnA, hAs, hmA, hlA⟩
  have hnA2 : nA ≤ 100000 := by rw [hnA]; omega
  have HRA : Hid (∀ W, ExB w2.heap.size w5 W → (RdG W aa La ∧ LstA W vb N1 (B bd g)) ∧ RdF W aF F ∧ Below w2.heap.size w2 W) := fun W hW => ⟨⟨RdS.exB hra hW H5.out.2.1.1, H5.out.2.2.2.2.exB hW H5.out.2.1.1⟩, H5.out.2.2.1.exB hW H5.out.2.1.1, H5.out.1.trans (hW.bel (by have := H5.out.2.1.2.1; omega) (Nat.le_refl _))⟩
  clear hra hAs hmA hlA hnA
  subst hva
  go_wp2
  clear x0 x1 x2 xl
  go_loopw [11, 16] (fun u i wr => ∃ k : Nat, k ≤ nA ∧ i = .int .i64 k ∧ wr.ownsRow w2.heap.size 9 1 u ((La.take k).filter kp).length (strL ((La.take k).filter kp)) ∧ ExB w2.heap.size w5 wr ∧ (∀ g, u.ownBlock = some g → g = w2.heap.size ∨ w5.heap.size ≤ g)) (fun _ i _ => nA - (intOf i).toNat)
  case atStart => exact ⟨0, Nat.zero_le _, rfl, by simpa using H5.out.2.1.2.2, ExB.refl _ _, fun g e => .inl (by rw [HVO.out] at e; simp [Value.ownBlock] at e; omega)⟩
  case round =>
    obtain ⟨k, hk, rfl, hown, hex, hbl⟩ := hrel
    have HO : Hid (wr.ownsRow w2.heap.size 9 1 u11 ((La.take k).filter kp).length (strL ((La.take k).filter kp)) ∧ ExB w2.heap.size w5 wr ∧ (∀ g, u11.ownBlock = some g → g = w2.heap.size ∨ w5.heap.size ≤ g)) := ⟨hown, hex, hbl⟩
    have hz : w2.heap.size ≤ wr.heap.size := by have := hex.2.2.2.1; have := H5.out.2.1.2.1; omega
    clear hown hex hbl
    by_cases hlt : k < nA
    · have hkl : k < La.length := by rw [← HA.out.1]; exact hlt
      obtain ⟨bb, o1, rfl, s1⟩ := (HRA.out wr HO.out.2.1).1.1.cell hkl
      have i0 : (0 : Int) ≤ (k : Int) := by omega
      have i1 : (k : Int) < (nA : Int) := by omega
      obtain ⟨x, hx⟩ : ∃ x, x = gt La k := ⟨_, rfl⟩
      rw [← hx] at s1
      have etk : La.take (k + 1) = La.take k ++ [x] := by rw [List.take_add_one, gt_get hkl, ← hx]; rfl
      obtain ⟨m, hm⟩ : ∃ m, m = ((La.take k).filter kp).length := ⟨_, rfl⟩
      rw [← hm] at HO
      have hm2 : m ≤ nA := by rw [hm, HA.out.1]; exact Nat.le_trans (List.length_filter_le _ _) (by rw [List.length_take]; omega)
      have HE : Hid (m = ((La.take k).filter kp).length ∧ La.take (k + 1) = La.take k ++ [x]) := ⟨hm, etk⟩
      have HIn : Hid (LstA wr vb N1 (B bd g)) := (HRA.out wr HO.out.2.1).1.2
      clear hx hm etk hkl
      go_wp2_with fail
      refine (l6In_v vb N1 (B bd g) x wr HIn.out (by omega)).mono ?_
      rintro e w7 ⟨bq, rfl, hbq, hw7⟩
      replace hw7 := hw7.symm
      subst hw7
      cases bq with
      | false =>
        have hcb : kp x = true := (HKP.out x).2 (fun q => by have := hbq.2 q; cases this)
        have HX : Hid (∀ (v' : Value) (w' : World), w'.ownsRow w2.heap.size 9 1 v' (m + 1) (strL ((La.take k).filter kp ++ [x])) → w'.ownsRow w2.heap.size 9 1 v' ((La.take (k + 1)).filter kp).length (strL ((La.take (k + 1)).filter kp))) := fun v' w' q => by
          rw [HE.out.2, List.filter_append, List.filter_cons_of_pos (by rw [hcb]), List.filter_nil, List.length_append, ← HE.out.1]
          exact q
        clear hcb hbq
        go_wp2_with (at_builtin; refine app_st rfl _ _ rfl w2.heap.size m u11 _ x rfl HO.out.1 rfl (by omega) hz ?_)
        intro v' w1 ho hg hv
        have HY : Hid (w1.ownsRow w2.heap.size 9 1 v' ((La.take (k + 1)).filter kp).length (strL ((La.take (k + 1)).filter kp)) ∧ ExB w2.heap.size w5 w1 ∧ (∀ g, v'.ownBlock = some g → g = w2.heap.size ∨ w5.heap.size ≤ g)) := ⟨HX.out v' w1 ho, (HO.out.2.1.below (below_alloc _ _)).grown hg HO.out.2.2, fun g e => by
          rcases hv with q | q
          · exact HO.out.2.2 g (q.symm.trans e)
          · rw [q] at e; injection e with e; have := HO.out.2.1.2.2.2.1; exact .inr (by omega)⟩
        clear ho hg hv HO
        go_wp2
        go_roundw
        case rel => exact ⟨k + 1, by omega, by go_num, HY.out⟩
        case measure => simp [intOf]; omega
      | true =>
        have hcb : kp x = false := by
          cases hq : kp x with
          | false => rfl
          | true => exact absurd ((HKP.out x).1 hq) (fun q => q (hbq.1 rfl))
        have HX : Hid (wr.ownsRow w2.heap.size 9 1 u11 ((La.take (k + 1)).filter kp).length (strL ((La.take (k + 1)).filter kp)) ∧ ExB w2.heap.size w5 wr ∧ (∀ g, u11.ownBlock = some g → g = w2.heap.size ∨ w5.heap.size ≤ g)) := by
          rw [HE.out.2, List.filter_append, List.filter_cons_of_neg (by rw [hcb]; simp), List.filter_nil, List.append_nil, ← HE.out.1]
          exact HO.out
        clear hcb hbq HO
        go_wp2
        go_roundw
        case rel => exact ⟨k + 1, by omega, by go_num, HX.out⟩
        case measure => simp [intOf]; omega
    · have e : k = nA := by omega
      subst e
      have HL4 : Hid (LstA wr u11 (N0) (nodeM 8 s t (fs.filter (cntB bd g)) (A bd g) (B bd g)) ∧ RdF wr aF F ∧ Below w2.heap.size w2 wr) := by
        have ett : La.take k = La := by rw [HA.out.1]; exact List.take_length
        refine ⟨LstA.own HO.out.1 ?_ (fun x => ?_) ?_, (HRA.out wr HO.out.2.1).2⟩
        · rw [ett]; exact asc_filter HA.out.2.1 _
        · rw [ett, List.mem_filter, HA.out.2.2.1, HKP.out]; simp [nodeM]
        · rw [ett]; exact Nat.le_trans (List.length_filter_le _ _) HA.out.2.2.2
      clear HO HRA
      obtain ⟨wL, hwL⟩ : ∃ wL, wL = wr := ⟨_, rfl⟩
      subst hwL
      obtain ⟨uL, huL⟩ : ∃ uL, uL = u11 := ⟨_, rfl⟩
      subst huL
      have HF : Hid (RetM w (N0) (nodeM 8 s t (fs.filter (cntB bd g)) (A bd g) (B bd g)) (.returned uL) wL) := HL4.out.1.ret (HB2.out.trans (HL4.out.2.2.mono HB2.out.size))
      obtain ⟨⟨x0, x1, x2⟩, xl, -⟩ := HBx.out wL HL4.out.2.2
      go_wp2
      clear x0 x1 x2 xl
      go_loopw [11, 18, 19] (fun u i _ wr => ∃ j : Nat, j ≤ nF ∧ i = .int .i64 j ∧ u = uL ∧ Below wL.heap.size wL wr) (fun _ i _ _ => nF - (intOf i).toNat)
      case atStart => exact ⟨0, Nat.zero_le _, rfl, rfl, Below.refl _ _⟩
      case round =>
        obtain ⟨j, hj, rfl, hu, hbr⟩ := hrel
        replace hu := hu.symm
        subst hu
        have HB : Hid (Below wL.heap.size wL wr) := hbr
        clear hbr
        by_cases hlt : j < nF
        · have hjF : j < F.length := by rw [← HNF.out]; exact hlt
          obtain ⟨bF, oF, rfl, s0, s1, s2, s3⟩ := (HL4.out.2.1.below HB.out).at hjF
          obtain ⟨f, hf⟩ : ∃ f, f = F[j] := ⟨_, rfl⟩
          rw [← hf] at s0 s1 s2 s3
          clear hf hjF
          obtain ⟨W6, hW6⟩ : ∃ W6, W6 = wr.alloc (.cells #[.string f.s, .string f.p, .string f.o, .string f.g] 38) := ⟨_, rfl⟩
          obtain ⟨b6, hb6⟩ : ∃ b6, b6 = wr.heap.size := ⟨_, rfl⟩
          have HBA : Hid (Below wL.heap.size wL W6) := by
            have hbA : Below wr.heap.size wr W6 := by rw [hW6]; exact below_alloc _ _
            exact HB.out.trans (hbA.mono HB.out.size)
          have i0 : (0 : Int) ≤ (j : Int) := by omega
          have i1 : (j : Int) < (nF : Int) := by omega
          obtain ⟨⟨x0, x1, x2⟩, xl, -⟩ := HBx.out wr (HL4.out.2.2.trans (HB.out.mono HL4.out.2.2.size))
          go_upto_region 36 with fail
          rw [← hW6, ← hb6]
          clear hW6 hb6 s0 s1 s2 s3 x0 x1 x2 xl HB
          obtain ⟨⟨x0, x1, x2⟩, xl, -⟩ := HBx.out W6 (HL4.out.2.2.trans (HBA.out.mono HL4.out.2.2.size))
          go_wp2
          go_roundw
          case rel => exact ⟨j + 1, by omega, by go_num, rfl, HBA.out⟩
          case measure => simp [intOf]; omega
        · have e : j = nF := by omega
          subst e
          have HF2 : Hid (RetM w (N0) (nodeM 8 s t (fs.filter (cntB bd g)) (A bd g) (B bd g)) (.returned uL) wr) := (HL4.out.1.below HB.out).ret (HB2.out.trans ((HL4.out.2.2.trans (HB.out.mono HL4.out.2.2.size)).mono HB2.out.size))
          clear HB
          go_wp2
          go_ret
          exact HF2.out
end Go.Proofs.Ythcclkeeekppmaa
