import Derived.Test.YthcclkeeekppmaaNp4
import Derived.Deep.QuietTactic
import Derived.BigQuiet
namespace Go.Proofs.Ythcclkeeekppmaa
open Go.RowKit Go.Deep
set_option linter.unusedVariables false
set_option maxRecDepth 100000

set_option maxHeartbeats 4000000 in
theorem mean_4 (b o mm c : Nat) (s t : ByteArray) (v0 : Value) (fa : Option Addr) (fn fc : Nat) (fs : List Fc) (N0 : Nat) (A : Bool → ByteArray → ByteArray → Prop) (bd : Bool) (g : ByteArray) (w : World) (h : MnA w b o mm c 4 s t [v0] fa fn fc fs) (k0 : KidM w v0 fa fn fc N0 A) (hN0 : N0 ≤ 100000) :
    Calls Try.prog 34 #[.slice (some ⟨b, o, none⟩) mm c, .slice fa fn fc, .bool bd, .string g] w (RetM w (600) (nodeM 4 s t (fs.filter (cntB bd g)) (A bd g) (fun _ => False))) := by
  have HM : Hid (MnA w b o mm c 4 s t [v0] fa fn fc fs) := h
  clear h
  go_enter Try.func34, Try.ntmps34
  go_wp2_with fail
  refine HM.out.ro.mono ?_
  rintro e w1 ⟨rfl, hb1⟩
  have HB1 : Hid (Below w.heap.size w (w1.alloc (.cells #[.int .i64 4, .string s, .string t] 35))) := hb1.trans ((below_alloc _ _).mono hb1.size)
  clear hb1
  go_wp2_with fail
  refine (HM.out.kd _ HB1.out).mono ?_
  rintro e w2 ⟨go, cpo, rfl, hks, hb2⟩
  have HB2 : Hid (Below w.heap.size w w2) := HB1.out.trans (hb2.mono HB1.out.size)
  have HBx : Hid (∀ W, Below w2.heap.size w2 W → (W.cell? ⟨w1.heap.size, 0, none⟩ = some (.int .i64 4) ∧ W.cell? ⟨w1.heap.size, 1, none⟩ = some (.string s) ∧ W.cell? ⟨w1.heap.size, 2, none⟩ = some (.string t)) ∧ w1.heap.size < W.heap.size ∧ W.cell? ⟨go, 0, none⟩ = some v0) := fun W hW => by
    have hz : w1.heap.size < w2.heap.size := by have := hb2.size; simp at this; omega
    have hh : W.heap[w1.heap.size]? = some (.cells #[.int .i64 4, .string s, .string t] 35) := (hW.block _ hz).trans ((hb2.block _ (by simp)).trans Array.getElem?_push_size)
    have hz2 := hW.size
    refine ⟨⟨?_, ?_, ?_⟩, by omega, (hW.cell (World.block_lt_of_cell? _ _ (hks 0 v0 rfl))).trans (hks 0 v0 rfl)⟩ <;> simp [World.cell?, hh]
  clear hks hb2 HB1
  obtain ⟨b3, hb3⟩ : ∃ b3, b3 = w1.heap.size := ⟨_, rfl⟩
  rw [← hb3] at HBx ⊢
  clear hb3
  obtain ⟨⟨x0, x1, x2⟩, xl, x3⟩ := HBx.out w2 (Below.refl _ _)
  have HLF : Hid (∀ W, Below w.heap.size w W → Calls Try.prog 71 #[.slice fa fn fc, .bool bd, .string g] W fun e w' => ∃ a' c', e = .returned (.slice a' (fs.filter (cntB bd g)).length c') ∧ RdF w' a' (fs.filter (cntB bd g)) ∧ Below W.heap.size W w') := fun W hW => by
    rw [HM.out.fl]
    exact l6Facts_any fa fc fs bd g W (HM.out.rf.below hW) (by have := HM.out.f3; omega)
  obtain ⟨F, hF⟩ : ∃ F, F = fs.filter (cntB bd g) := ⟨_, rfl⟩
  rw [← hF] at HLF
  have HFE : Hid (F = fs.filter (cntB bd g) ∧ F.length ≤ 300) := ⟨hF, by rw [hF]; exact Nat.le_trans (List.length_filter_le _ _) HM.out.f3⟩
  obtain ⟨nF, hnF⟩ : ∃ nF, nF = F.length := ⟨_, rfl⟩
  rw [← hnF] at HLF HFE
  have HNF : Hid (nF = F.length) := hnF
  have hnF3 : nF ≤ 300 := HFE.out.2
  clear hF hnF
  obtain ⟨W3, hW3⟩ : ∃ W3, W3 = ((w2.alloc (.cells #[] 9)).alloc (.cells #[] 9)).alloc (.cells #[] 9) := ⟨_, rfl⟩
  have H3 : Hid (Below w2.heap.size w2 W3 ∧ LstA W3 (.slice (some ⟨w2.heap.size, 0, none⟩) 0 0) 0 (fun _ => False)) := by
    rw [hW3]
    exact ⟨((below_alloc _ _).alloc (by simp) _).alloc (by simp; omega) _, ((LstA.nil w2 _ (fun _ q => q)).below (below_alloc _ _)).below (below_alloc _ _)⟩
  obtain ⟨vo, hvo⟩ : ∃ vo, vo = Value.slice (some ⟨w2.heap.size, 0, none⟩) 0 0 := ⟨_, rfl⟩
  rw [← hvo] at H3
  have HK0 : Hid (∀ W, Below w2.heap.size w2 W → Calls Try.prog 34 #[v0, .slice fa fn fc, .bool bd, .string g] W (RetM W N0 (A bd g))) := fun W hW => k0 W bd g (HB2.out.trans (hW.mono HB2.out.size))
  clear k0
  go_upto_region 9 with fail
  rw [← hW3, ← hvo]
  clear hW3 hvo x0 x1 x2 x3 xl
  obtain ⟨⟨x0, x1, x2⟩, xl, x3⟩ := HBx.out W3 H3.out.1
  go_wp2_with fail
  refine (HK0.out W3 H3.out.1).mono ?_
  intro e w4 hr
  obtain ⟨va, rfl, hla, hb4⟩ := hr.lst
  have H4 : Hid (Below w2.heap.size w2 w4 ∧ LstA w4 vo 0 (fun _ => False) ∧ LstA w4 va N0 (A bd g)) := ⟨H3.out.1.trans (hb4.mono H3.out.1.size), H3.out.2.below hb4, hla⟩
  clear hr hla hb4 x0 x1 x2 x3 xl H3
  go_wp2_with fail
  refine (HLF.out w4 (HB2.out.trans (H4.out.1.mono HB2.out.size))).mono ?_
  rintro e w5 ⟨aF, cF, rfl, hrF, hb5⟩
  have H5 : Hid (Below w2.heap.size w2 w5 ∧ LstA w5 vo 0 (fun _ => False) ∧ RdF w5 aF F ∧ LstA w5 va N0 (A bd g)) := ⟨H4.out.1.trans (hb5.mono H4.out.1.size), H4.out.2.1.below hb5, hrF, H4.out.2.2.below hb5⟩
  clear hrF hb5 H4
  obtain ⟨⟨x0, x1, x2⟩, xl, x3⟩ := HBx.out w5 H5.out.1
  go_wp2
  clear x0 x1 x2 xl x3
  go_loopw [11, 18, 19] (fun u i _ wr => ∃ j : Nat, j ≤ nF ∧ i = .int .i64 j ∧ LstA wr u (2 * j) (nodeM 4 s t (F.take j) (A bd g) (fun _ => False)) ∧ Below w5.heap.size w5 wr) (fun _ i _ _ => nF - (intOf i).toNat)
  case atStart => exact ⟨0, Nat.zero_le _, rfl, H5.out.2.1.congr (fun x => ⟨(fun q => q.elim), fun q => nodeM_nil (by omega) s t _ _ x q⟩) (Nat.le_refl _), Below.refl _ _⟩
  case round =>
    obtain ⟨j, hj, rfl, hl, hbr⟩ := hrel
    have HL : Hid (LstA wr u11 (2 * j) (nodeM 4 s t (F.take j) (A bd g) (fun _ => False)) ∧ Below w5.heap.size w5 wr) := ⟨hl, hbr⟩
    clear hl hbr
    by_cases hlt : j < nF
    · have hjF : j < F.length := by rw [← HNF.out]; exact hlt
      obtain ⟨bF, oF, rfl, s0, s1, s2, s3⟩ := (H5.out.2.2.1.below HL.out.2).at hjF
      obtain ⟨f, hf⟩ : ∃ f, f = F[j] := ⟨_, rfl⟩
      rw [← hf] at s0 s1 s2 s3
      have HST : Hid (∀ x, nodeM 4 s t (F.take (j + 1)) (A bd g) (fun _ => False) x ↔ nodeM 4 s t (F.take j) (A bd g) (fun _ => False) x ∨ stepM 4 s t (A bd g) f x) := fun x => by
        have e : F.take (j + 1) = F.take j ++ [f] := by rw [List.take_add_one, List.getElem?_eq_getElem hjF, ← hf]; rfl
        rw [e]
        exact nodeM_app (by omega) s t _ f _ _ x
      clear hf hjF
      obtain ⟨W6, hW6⟩ : ∃ W6, W6 = wr.alloc (.cells #[.string f.s, .string f.p, .string f.o, .string f.g] 38) := ⟨_, rfl⟩
      obtain ⟨b6, hb6⟩ : ∃ b6, b6 = wr.heap.size := ⟨_, rfl⟩
      have HX6 : Hid (∀ W, Below W6.heap.size W6 W → ((W.cell? ⟨b3, 0, none⟩ = some (.int .i64 4) ∧ W.cell? ⟨b3, 1, none⟩ = some (.string s) ∧ W.cell? ⟨b3, 2, none⟩ = some (.string t) ∧ b3 < W.heap.size) ∧ (W.cell? ⟨b6, 0, none⟩ = some (.string f.s) ∧ W.cell? ⟨b6, 1, none⟩ = some (.string f.p) ∧ W.cell? ⟨b6, 2, none⟩ = some (.string f.o) ∧ W.cell? ⟨b6, 3, none⟩ = some (.string f.g) ∧ b6 < W.heap.size)) ∧ LstA W u11 (2 * j) (nodeM 4 s t (F.take j) (A bd g) (fun _ => False)) ∧ Below w5.heap.size w5 W ∧ LstA W va N0 (A bd g)) := fun W hW => by
        have hbA : Below wr.heap.size wr W6 := by rw [hW6]; exact below_alloc _ _
        have hb : Below wr.heap.size wr W := hbA.trans (hW.mono hbA.size)
        have hb5 : Below w5.heap.size w5 W := HL.out.2.trans (hb.mono HL.out.2.size)
        have hz : b6 < W6.heap.size := by rw [hW6, hb6]; simp
        have hh : W.heap[b6]? = some (.cells #[.string f.s, .string f.p, .string f.o, .string f.g] 38) := (hW.block _ hz).trans (by rw [hW6, hb6]; exact Array.getElem?_push_size)
        obtain ⟨⟨y0, y1, y2⟩, yl, -⟩ := HBx.out W (H5.out.1.trans (hb5.mono H5.out.1.size))
        have hz2 := hW.size
        refine ⟨⟨⟨y0, y1, y2, yl⟩, ?_, ?_, ?_, ?_, by omega⟩, HL.out.1.below hb, hb5, H5.out.2.2.2.below hb5⟩ <;> simp [World.cell?, hh]
      have i0 : (0 : Int) ≤ (j : Int) := by omega
      have i1 : (j : Int) < (nF : Int) := by omega
      obtain ⟨⟨x0, x1, x2⟩, xl, -⟩ := HBx.out wr (H5.out.1.trans (HL.out.2.mono H5.out.1.size))
      go_upto_region 36 with fail
      rw [← hW6, ← hb6]
      clear hW6 hb6 s0 s1 s2 s3 x0 x1 x2 xl HL
      obtain ⟨⟨⟨x0, x1, x2, xl⟩, z0, z1, z2, z3, zl⟩, HQ1, HQ2, HQ3⟩ := HX6.out W6 (Below.refl _ _)
      have HQ : Hid (LstA W6 u11 (2 * j) (nodeM 4 s t (F.take j) (A bd g) (fun _ => False)) ∧ Below w5.heap.size w5 W6 ∧ LstA W6 va N0 (A bd g)) := ⟨HQ1, HQ2, HQ3⟩
      clear HQ1 HQ2 HQ3
      by_cases h1 : f.p = s
      · have q1 : (f.p.toList == s.toList) = true := str_eq.2 h1
        go_wp2_with fail
        refine (l6In_v va N0 (A bd g) f.o W6 HQ.out.2.2 (by omega)).mono ?_
        rintro e w7 ⟨bq, rfl, hbq, hw7⟩
        replace hw7 := hw7.symm
        subst hw7
        cases bq with
        | true =>
          have h2 := hbq.1 rfl
          go_wp2_with fail
          rename_i xF fF heF
          simp only [List.getElem?_cons_zero, Option.some.injEq] at heF
          subst heF
          go_wp2_with fail
          refine (l6Add_v u11 (2 * j) _ f.s W6 (HX6.out W6 (Below.refl _ _)).2.1 (by omega)).mono ?_
          rintro e w8 ⟨v8, rfl, hl8, hb8⟩
          have J8 : Hid (Below W6.heap.size W6 w8) := hb8
          have HNW : Hid (LstA w8 v8 (2 * (j + 1)) (nodeM 4 s t (F.take (j + 1)) (A bd g) (fun _ => False)) ∧ Below w5.heap.size w5 w8) := ⟨hl8.congr (fun x => by rw [HST.out]; simp [stepM, h1, h2]) (by omega), (HX6.out _ J8.out).2.2.1⟩
          clear hl8 hb8 x0 x1 x2 xl z0 z1 z2 z3 zl HQ
          obtain ⟨⟨⟨x0, x1, x2, xl⟩, z0, z1, z2, z3, zl⟩, -⟩ := HX6.out w8 J8.out
          clear J8
          go_wp2
          rename_i xF fF heF
          simp only [List.getElem?_cons_zero, Option.some.injEq] at heF
          subst heF
          go_wp2
          go_roundw
          case rel => exact ⟨j + 1, by omega, by go_num, HNW.out⟩
          case measure => simp [intOf]; omega
        | false =>
          have h2 : ¬ A bd g f.o := fun q => by have := hbq.2 q; cases this
          clear hbq
          have HNW : Hid (LstA W6 u11 (2 * (j + 1)) (nodeM 4 s t (F.take (j + 1)) (A bd g) (fun _ => False)) ∧ Below w5.heap.size w5 W6) := ⟨HQ.out.1.congr (fun x => by rw [HST.out]; simp [stepM, h1, h2]) (by omega), HQ.out.2.1⟩
          clear HQ
          go_wp2
          go_roundw
          case rel => exact ⟨j + 1, by omega, by go_num, HNW.out⟩
          case measure => simp [intOf]; omega
      · have q1 : (f.p.toList == s.toList) = false := by
          cases hq : (f.p.toList == s.toList) with
          | false => rfl
          | true => exact absurd (str_eq.1 hq) h1
        have HNW : Hid (LstA W6 u11 (2 * (j + 1)) (nodeM 4 s t (F.take (j + 1)) (A bd g) (fun _ => False)) ∧ Below w5.heap.size w5 W6) := ⟨HQ.out.1.congr (fun x => by rw [HST.out]; simp [stepM, h1]) (by omega), HQ.out.2.1⟩
        clear HQ
        go_wp2
        go_roundw
        case rel => exact ⟨j + 1, by omega, by go_num, HNW.out⟩
        case measure => simp [intOf]; omega
    · have e : j = nF := by omega
      subst e
      have HF : Hid (RetM w 600 (nodeM 4 s t (fs.filter (cntB bd g)) (A bd g) (fun _ => False)) (.returned u11) wr) := by
        have hb : Below w.heap.size w wr := HB2.out.trans ((H5.out.1.trans (HL.out.2.mono H5.out.1.size)).mono HB2.out.size)
        refine (HL.out.1.congr (fun x => ?_) (by omega)).ret hb
        rw [HNF.out, List.take_length, HFE.out.1]
      go_wp2
      go_ret
      exact HF.out
end Go.Proofs.Ythcclkeeekppmaa

namespace Go.Proofs.Ythcclkeeekppmaa
open Go.RowKit Go.Deep
set_option linter.unusedVariables false
set_option maxRecDepth 100000

set_option maxHeartbeats 4000000 in
theorem mean_5 (b o mm c : Nat) (s t : ByteArray) (v0 : Value) (fa : Option Addr) (fn fc : Nat) (fs : List Fc) (N0 : Nat) (A : Bool → ByteArray → ByteArray → Prop) (bd : Bool) (g : ByteArray) (w : World) (h : MnA w b o mm c 5 s t [v0] fa fn fc fs) (k0 : KidM w v0 fa fn fc N0 A) (hN0 : N0 ≤ 100000) :
    Calls Try.prog 34 #[.slice (some ⟨b, o, none⟩) mm c, .slice fa fn fc, .bool bd, .string g] w (RetM w (600) (nodeM 5 s t (fs.filter (cntB bd g)) (A bd g) (fun _ => False))) := by
  have HM : Hid (MnA w b o mm c 5 s t [v0] fa fn fc fs) := h
  clear h
  go_enter Try.func34, Try.ntmps34
  go_wp2_with fail
  refine HM.out.ro.mono ?_
  rintro e w1 ⟨rfl, hb1⟩
  have HB1 : Hid (Below w.heap.size w (w1.alloc (.cells #[.int .i64 5, .string s, .string t] 35))) := hb1.trans ((below_alloc _ _).mono hb1.size)
  clear hb1
  go_wp2_with fail
  refine (HM.out.kd _ HB1.out).mono ?_
  rintro e w2 ⟨go, cpo, rfl, hks, hb2⟩
  have HB2 : Hid (Below w.heap.size w w2) := HB1.out.trans (hb2.mono HB1.out.size)
  have HBx : Hid (∀ W, Below w2.heap.size w2 W → (W.cell? ⟨w1.heap.size, 0, none⟩ = some (.int .i64 5) ∧ W.cell? ⟨w1.heap.size, 1, none⟩ = some (.string s) ∧ W.cell? ⟨w1.heap.size, 2, none⟩ = some (.string t)) ∧ w1.heap.size < W.heap.size ∧ W.cell? ⟨go, 0, none⟩ = some v0) := fun W hW => by
    have hz : w1.heap.size < w2.heap.size := by have := hb2.size; simp at this; omega
    have hh : W.heap[w1.heap.size]? = some (.cells #[.int .i64 5, .string s, .string t] 35) := (hW.block _ hz).trans ((hb2.block _ (by simp)).trans Array.getElem?_push_size)
    have hz2 := hW.size
    refine ⟨⟨?_, ?_, ?_⟩, by omega, (hW.cell (World.block_lt_of_cell? _ _ (hks 0 v0 rfl))).trans (hks 0 v0 rfl)⟩ <;> simp [World.cell?, hh]
  clear hks hb2 HB1
  obtain ⟨b3, hb3⟩ : ∃ b3, b3 = w1.heap.size := ⟨_, rfl⟩
  rw [← hb3] at HBx ⊢
  clear hb3
  obtain ⟨⟨x0, x1, x2⟩, xl, x3⟩ := HBx.out w2 (Below.refl _ _)
  have HLF : Hid (∀ W, Below w.heap.size w W → Calls Try.prog 71 #[.slice fa fn fc, .bool bd, .string g] W fun e w' => ∃ a' c', e = .returned (.slice a' (fs.filter (cntB bd g)).length c') ∧ RdF w' a' (fs.filter (cntB bd g)) ∧ Below W.heap.size W w') := fun W hW => by
    rw [HM.out.fl]
    exact l6Facts_any fa fc fs bd g W (HM.out.rf.below hW) (by have := HM.out.f3; omega)
  obtain ⟨F, hF⟩ : ∃ F, F = fs.filter (cntB bd g) := ⟨_, rfl⟩
  rw [← hF] at HLF
  have HFE : Hid (F = fs.filter (cntB bd g) ∧ F.length ≤ 300) := ⟨hF, by rw [hF]; exact Nat.le_trans (List.length_filter_le _ _) HM.out.f3⟩
  obtain ⟨nF, hnF⟩ : ∃ nF, nF = F.length := ⟨_, rfl⟩
  rw [← hnF] at HLF HFE
  have HNF : Hid (nF = F.length) := hnF
  have hnF3 : nF ≤ 300 := HFE.out.2
  clear hF hnF
  obtain ⟨W3, hW3⟩ : ∃ W3, W3 = ((w2.alloc (.cells #[] 9)).alloc (.cells #[] 9)).alloc (.cells #[] 9) := ⟨_, rfl⟩
  have H3 : Hid (Below w2.heap.size w2 W3 ∧ LstA W3 (.slice (some ⟨w2.heap.size, 0, none⟩) 0 0) 0 (fun _ => False)) := by
    rw [hW3]
    exact ⟨((below_alloc _ _).alloc (by simp) _).alloc (by simp; omega) _, ((LstA.nil w2 _ (fun _ q => q)).below (below_alloc _ _)).below (below_alloc _ _)⟩
  obtain ⟨vo, hvo⟩ : ∃ vo, vo = Value.slice (some ⟨w2.heap.size, 0, none⟩) 0 0 := ⟨_, rfl⟩
  rw [← hvo] at H3
  have HK0 : Hid (∀ W, Below w2.heap.size w2 W → Calls Try.prog 34 #[v0, .slice fa fn fc, .bool bd, .string g] W (RetM W N0 (A bd g))) := fun W hW => k0 W bd g (HB2.out.trans (hW.mono HB2.out.size))
  clear k0
  go_upto_region 9 with fail
  rw [← hW3, ← hvo]
  clear hW3 hvo x0 x1 x2 x3 xl
  obtain ⟨⟨x0, x1, x2⟩, xl, x3⟩ := HBx.out W3 H3.out.1
  go_wp2_with fail
  refine (HK0.out W3 H3.out.1).mono ?_
  intro e w4 hr
  obtain ⟨va, rfl, hla, hb4⟩ := hr.lst
  have H4 : Hid (Below w2.heap.size w2 w4 ∧ LstA w4 vo 0 (fun _ => False) ∧ LstA w4 va N0 (A bd g)) := ⟨H3.out.1.trans (hb4.mono H3.out.1.size), H3.out.2.below hb4, hla⟩
  clear hr hla hb4 x0 x1 x2 x3 xl H3
  go_wp2_with fail
  refine (HLF.out w4 (HB2.out.trans (H4.out.1.mono HB2.out.size))).mono ?_
  rintro e w5 ⟨aF, cF, rfl, hrF, hb5⟩
  have H5 : Hid (Below w2.heap.size w2 w5 ∧ LstA w5 vo 0 (fun _ => False) ∧ RdF w5 aF F ∧ LstA w5 va N0 (A bd g)) := ⟨H4.out.1.trans (hb5.mono H4.out.1.size), H4.out.2.1.below hb5, hrF, H4.out.2.2.below hb5⟩
  clear hrF hb5 H4
  obtain ⟨⟨x0, x1, x2⟩, xl, x3⟩ := HBx.out w5 H5.out.1
  go_wp2
  clear x0 x1 x2 xl x3
  go_loopw [11, 18, 19] (fun u i _ wr => ∃ j : Nat, j ≤ nF ∧ i = .int .i64 j ∧ LstA wr u (2 * j) (nodeM 5 s t (F.take j) (A bd g) (fun _ => False)) ∧ Below w5.heap.size w5 wr) (fun _ i _ _ => nF - (intOf i).toNat)
  case atStart => exact ⟨0, Nat.zero_le _, rfl, H5.out.2.1.congr (fun x => ⟨(fun q => q.elim), fun q => nodeM_nil (by omega) s t _ _ x q⟩) (Nat.le_refl _), Below.refl _ _⟩
  case round =>
    obtain ⟨j, hj, rfl, hl, hbr⟩ := hrel
    have HL : Hid (LstA wr u11 (2 * j) (nodeM 5 s t (F.take j) (A bd g) (fun _ => False)) ∧ Below w5.heap.size w5 wr) := ⟨hl, hbr⟩
    clear hl hbr
    by_cases hlt : j < nF
    · have hjF : j < F.length := by rw [← HNF.out]; exact hlt
      obtain ⟨bF, oF, rfl, s0, s1, s2, s3⟩ := (H5.out.2.2.1.below HL.out.2).at hjF
      obtain ⟨f, hf⟩ : ∃ f, f = F[j] := ⟨_, rfl⟩
      rw [← hf] at s0 s1 s2 s3
      have HST : Hid (∀ x, nodeM 5 s t (F.take (j + 1)) (A bd g) (fun _ => False) x ↔ nodeM 5 s t (F.take j) (A bd g) (fun _ => False) x ∨ stepM 5 s t (A bd g) f x) := fun x => by
        have e : F.take (j + 1) = F.take j ++ [f] := by rw [List.take_add_one, List.getElem?_eq_getElem hjF, ← hf]; rfl
        rw [e]
        exact nodeM_app (by omega) s t _ f _ _ x
      clear hf hjF
      obtain ⟨W6, hW6⟩ : ∃ W6, W6 = wr.alloc (.cells #[.string f.s, .string f.p, .string f.o, .string f.g] 38) := ⟨_, rfl⟩
      obtain ⟨b6, hb6⟩ : ∃ b6, b6 = wr.heap.size := ⟨_, rfl⟩
      have HX6 : Hid (∀ W, Below W6.heap.size W6 W → ((W.cell? ⟨b3, 0, none⟩ = some (.int .i64 5) ∧ W.cell? ⟨b3, 1, none⟩ = some (.string s) ∧ W.cell? ⟨b3, 2, none⟩ = some (.string t) ∧ b3 < W.heap.size) ∧ (W.cell? ⟨b6, 0, none⟩ = some (.string f.s) ∧ W.cell? ⟨b6, 1, none⟩ = some (.string f.p) ∧ W.cell? ⟨b6, 2, none⟩ = some (.string f.o) ∧ W.cell? ⟨b6, 3, none⟩ = some (.string f.g) ∧ b6 < W.heap.size)) ∧ LstA W u11 (2 * j) (nodeM 5 s t (F.take j) (A bd g) (fun _ => False)) ∧ Below w5.heap.size w5 W ∧ LstA W va N0 (A bd g)) := fun W hW => by
        have hbA : Below wr.heap.size wr W6 := by rw [hW6]; exact below_alloc _ _
        have hb : Below wr.heap.size wr W := hbA.trans (hW.mono hbA.size)
        have hb5 : Below w5.heap.size w5 W := HL.out.2.trans (hb.mono HL.out.2.size)
        have hz : b6 < W6.heap.size := by rw [hW6, hb6]; simp
        have hh : W.heap[b6]? = some (.cells #[.string f.s, .string f.p, .string f.o, .string f.g] 38) := (hW.block _ hz).trans (by rw [hW6, hb6]; exact Array.getElem?_push_size)
        obtain ⟨⟨y0, y1, y2⟩, yl, -⟩ := HBx.out W (H5.out.1.trans (hb5.mono H5.out.1.size))
        have hz2 := hW.size
        refine ⟨⟨⟨y0, y1, y2, yl⟩, ?_, ?_, ?_, ?_, by omega⟩, HL.out.1.below hb, hb5, H5.out.2.2.2.below hb5⟩ <;> simp [World.cell?, hh]
      have i0 : (0 : Int) ≤ (j : Int) := by omega
      have i1 : (j : Int) < (nF : Int) := by omega
      obtain ⟨⟨x0, x1, x2⟩, xl, -⟩ := HBx.out wr (H5.out.1.trans (HL.out.2.mono H5.out.1.size))
      go_upto_region 36 with fail
      rw [← hW6, ← hb6]
      clear hW6 hb6 s0 s1 s2 s3 x0 x1 x2 xl HL
      obtain ⟨⟨⟨x0, x1, x2, xl⟩, z0, z1, z2, z3, zl⟩, HQ1, HQ2, HQ3⟩ := HX6.out W6 (Below.refl _ _)
      have HQ : Hid (LstA W6 u11 (2 * j) (nodeM 5 s t (F.take j) (A bd g) (fun _ => False)) ∧ Below w5.heap.size w5 W6 ∧ LstA W6 va N0 (A bd g)) := ⟨HQ1, HQ2, HQ3⟩
      clear HQ1 HQ2 HQ3
      by_cases h1 : f.p = s
      · have q1 : (f.p.toList == s.toList) = true := str_eq.2 h1
        by_cases h3 : f.o = t
        · have q3 : (f.o.toList == t.toList) = true := str_eq.2 h3
          go_wp2_with fail
          refine (l6In_v va N0 (A bd g) f.s W6 HQ.out.2.2 (by omega)).mono ?_
          rintro e w7 ⟨bq, rfl, hbq, hw7⟩
          replace hw7 := hw7.symm
          subst hw7
          cases bq with
          | true =>
            have h2 := hbq.1 rfl
            go_wp2_with fail
            rename_i xF fF heF
            simp only [List.getElem?_cons_zero, Option.some.injEq] at heF
            subst heF
            go_wp2_with fail
            refine (l6Add_v u11 (2 * j) _ f.s W6 (HX6.out W6 (Below.refl _ _)).2.1 (by omega)).mono ?_
            rintro e w8 ⟨v8, rfl, hl8, hb8⟩
            have J8 : Hid (Below W6.heap.size W6 w8) := hb8
            have HNW : Hid (LstA w8 v8 (2 * (j + 1)) (nodeM 5 s t (F.take (j + 1)) (A bd g) (fun _ => False)) ∧ Below w5.heap.size w5 w8) := ⟨hl8.congr (fun x => by rw [HST.out]; simp [stepM, h1, h2, h3]) (by omega), (HX6.out _ J8.out).2.2.1⟩
            clear hl8 hb8 x0 x1 x2 xl z0 z1 z2 z3 zl HQ
            obtain ⟨⟨⟨x0, x1, x2, xl⟩, z0, z1, z2, z3, zl⟩, -⟩ := HX6.out w8 J8.out
            clear J8
            go_wp2
            go_roundw
            case rel => exact ⟨j + 1, by omega, by go_num, HNW.out⟩
            case measure => simp [intOf]; omega
          | false =>
            have h2 : ¬ A bd g f.s := fun q => by have := hbq.2 q; cases this
            clear hbq
            have HNW : Hid (LstA W6 u11 (2 * (j + 1)) (nodeM 5 s t (F.take (j + 1)) (A bd g) (fun _ => False)) ∧ Below w5.heap.size w5 W6) := ⟨HQ.out.1.congr (fun x => by rw [HST.out]; simp [stepM, h1, h2, h3]) (by omega), HQ.out.2.1⟩
            clear HQ
            go_wp2
            go_roundw
            case rel => exact ⟨j + 1, by omega, by go_num, HNW.out⟩
            case measure => simp [intOf]; omega
        · have q3 : (f.o.toList == t.toList) = false := by
            cases hq : (f.o.toList == t.toList) with
            | false => rfl
            | true => exact absurd (str_eq.1 hq) h3
          have HNW : Hid (LstA W6 u11 (2 * (j + 1)) (nodeM 5 s t (F.take (j + 1)) (A bd g) (fun _ => False)) ∧ Below w5.heap.size w5 W6) := ⟨HQ.out.1.congr (fun x => by rw [HST.out]; simp [stepM, h1, h3]) (by omega), HQ.out.2.1⟩
          clear HQ
          go_wp2
          go_roundw
          case rel => exact ⟨j + 1, by omega, by go_num, HNW.out⟩
          case measure => simp [intOf]; omega
      · have q1 : (f.p.toList == s.toList) = false := by
          cases hq : (f.p.toList == s.toList) with
          | false => rfl
          | true => exact absurd (str_eq.1 hq) h1
        have HNW : Hid (LstA W6 u11 (2 * (j + 1)) (nodeM 5 s t (F.take (j + 1)) (A bd g) (fun _ => False)) ∧ Below w5.heap.size w5 W6) := ⟨HQ.out.1.congr (fun x => by rw [HST.out]; simp [stepM, h1]) (by omega), HQ.out.2.1⟩
        clear HQ
        go_wp2
        go_roundw
        case rel => exact ⟨j + 1, by omega, by go_num, HNW.out⟩
        case measure => simp [intOf]; omega
    · have e : j = nF := by omega
      subst e
      have HF : Hid (RetM w 600 (nodeM 5 s t (fs.filter (cntB bd g)) (A bd g) (fun _ => False)) (.returned u11) wr) := by
        have hb : Below w.heap.size w wr := HB2.out.trans ((H5.out.1.trans (HL.out.2.mono H5.out.1.size)).mono HB2.out.size)
        refine (HL.out.1.congr (fun x => ?_) (by omega)).ret hb
        rw [HNF.out, List.take_length, HFE.out.1]
      go_wp2
      go_ret
      exact HF.out
end Go.Proofs.Ythcclkeeekppmaa

namespace Go.Proofs.Ythcclkeeekppmaa
open Go.RowKit Go.Deep
set_option linter.unusedVariables false
set_option maxRecDepth 100000

/-- Of the old blocks at most g has turned. -/
def ExB (g : Nat) (w w' : World) : Prop := w'.os = w.os ∧ w'.tape = w.tape ∧ w'.output = w.output ∧ w.heap.size ≤ w'.heap.size ∧ ∀ k, k < w.heap.size → k ≠ g → w'.heap[k]? = w.heap[k]?
theorem ExB.refl (b : Nat) (w : World) : ExB b w w := ⟨rfl, rfl, rfl, Nat.le_refl _, fun _ _ _ => rfl⟩
theorem ExB.below {b : Nat} {w w1 w2 : World} (h : ExB b w w1) (hb : Below w1.heap.size w1 w2) : ExB b w w2 := ⟨hb.os.trans h.1, hb.tape.trans h.2.1, hb.output.trans h.2.2.1, Nat.le_trans h.2.2.2.1 hb.size, fun k hk hn => (hb.block k (Nat.lt_of_lt_of_le hk h.2.2.2.1)).trans (h.2.2.2.2 k hk hn)⟩
theorem ExB.grown {b : Nat} {w w1 w2 : World} {r : Option Nat} (h : ExB b w w1) (hg : w1.grownBy w2 r) (hr : ∀ g, r = some g → g = b ∨ w.heap.size ≤ g) : ExB b w w2 := ⟨hg.os.trans h.1, hg.tape.trans h.2.1, hg.output.trans h.2.2.1, Nat.le_trans h.2.2.2.1 hg.size, fun k hk hn => (hg.block k (Nat.lt_of_lt_of_le hk h.2.2.2.1) (fun e => by rcases hr k e.symm with q | q <;> omega)).trans (h.2.2.2.2 k hk hn)⟩
theorem ExB.bel {b B : Nat} {w w' : World} (h : ExB b w w') (hB : B ≤ w.heap.size) (hb : B ≤ b) : Below B w w' := ⟨h.1, h.2.1, h.2.2.1, h.2.2.2.1, fun k hk => h.2.2.2.2 k (by omega) (by omega)⟩
/-- A block without cells. -/
def NoC (g : Nat) (w : World) : Prop := ∃ t, w.heap[g]? = some (.cells #[] t)
theorem NoC.ne {g b o : Nat} {w : World} {v : Value} (h : NoC g w) (hc : w.cell? ⟨b, o, none⟩ = some v) : b ≠ g := by
  intro e
  obtain ⟨t, ht⟩ := h
  rw [e] at hc
  simp [World.cell?, ht] at hc
theorem ExB.cell {g b o : Nat} {w w' : World} {v : Value} (h : ExB g w w') (hn : NoC g w) (hc : w.cell? ⟨b, o, none⟩ = some v) : w'.cell? ⟨b, o, none⟩ = some v := by
  have hl := World.block_lt_of_cell? _ _ hc
  rw [World.cell?_of_block (a := ⟨b, o, none⟩) (h.2.2.2.2 b hl (hn.ne hc))]
  exact hc
theorem RdS.exB {g : Nat} {w w' : World} {a : Option Addr} {n : Nat} {X : Nat → ByteArray} (h : RdS w a n X) (he : ExB g w w') (hn : NoC g w) : RdS w' a n X := by
  rcases h with q | ⟨b, o, rfl, hc⟩
  · exact .inl q
  · exact .inr ⟨b, o, rfl, fun i hi => he.cell hn (hc i hi)⟩
theorem LstA.exB {g : Nat} {w w' : World} {v : Value} {N : Nat} {P : ByteArray → Prop} (h : LstA w v N P) (he : ExB g w w') (hn : NoC g w) : LstA w' v N P := by
  obtain ⟨a, c, L, h1, h2, r⟩ := h
  exact ⟨a, c, L, h1, RdS.exB h2 he hn, r⟩
theorem RdF.exB {g : Nat} {w w' : World} {a : Option Addr} {fs : List Fc} (h : RdF w a fs) (he : ExB g w w') (hn : NoC g w) : RdF w' a fs := by
  rcases h with q | ⟨b, o, rfl, hc⟩
  · exact .inl q
  · exact .inr ⟨b, o, rfl, fun i x hx => ⟨he.cell hn (hc i x hx).1, he.cell hn (hc i x hx).2.1, he.cell hn (hc i x hx).2.2.1, he.cell hn (hc i x hx).2.2.2⟩⟩
theorem app_st {ops : Array Oper} {rest : List Oper} {o : Oper} {a : Act} {w2 : World} {Q : Exit → Act → World → Prop} (hgd : o.guard = none) (x y : Operand)
    (ho : o.op = .call { callee := .builtin .append, args := #[x, y], argTypes := #[30, 30] })
    (B k : Nat) (v : Value) (L : List ByteArray) (p : ByteArray) (hx : a.eval x = v) (hown : w2.ownsRow B 9 1 v k (strL L)) (hy : a.eval y = .slice (some ⟨w2.heap.size, 0, none⟩) 1 1)
    (hk : k ≤ 1048576) (hB : B ≤ w2.heap.size)
    (h : ∀ v' w', w'.ownsRow B 9 1 v' (k + 1) (strL (L ++ [p])) → (w2.alloc (.cells #[.string p] 9)).grownBy w' v.ownBlock → (v'.ownBlock = v.ownBlock ∨ v'.ownBlock = some (w2.heap.size + 1)) → wpList Try.prog ops Q rest (a.put o.dst v') w') :
    wpList Try.prog ops Q (o :: rest) a (w2.alloc (.cells #[.string p] 9)) := by
  obtain ⟨i0, hi, hz0, hz1, hz2⟩ := info_parts infoStr
  refine wpList_append_own_at _ hgd x y 30 ho B 9 i0 (.string { data := #[] }) 1 16 Try.underlying30 hi hz0 hz1 hz2 rfl (by decide) v k (strL L) hx (own_below hown (below_alloc _ _)) ⟨w2.heap.size, 0, none⟩ 1 1 [.string p] hy rfl (cell_one_new _ _ _) (fun u hu => by simp at hu; subst hu; rfl) (by unfold maxLen; omega) (by omega) (by simp; omega) (fun v' w' q1 q2 _ q4 => h v' w' (by rw [strL_app]; exact q1) q2 (by simpa using q4))
/-- Rows that are picked out of a list ascend. -/
theorem asc_filter {L : List ByteArray} (h : Asc L) (p : ByteArray → Bool) : Asc (L.filter p) := List.Pairwise.filter _ h
theorem boolOf (P : ByteArray → Prop) : ∃ p : ByteArray → Bool, ∀ x, p x = true ↔ P x := ⟨fun x => @decide (P x) (Classical.propDecidable _), fun x => by simp⟩
/-- A row of strings of the call's own, as a list. -/
theorem LstA.own {w : World} {B : Nat} {v : Value} {L : List ByteArray} {N : Nat} {P : ByteArray → Prop} (h : w.ownsRow B 9 1 v L.length (strL L)) (hA : Asc L) (hP : ∀ x, x ∈ L ↔ P x) (hN : L.length ≤ N) : LstA w v N P := by
  obtain ⟨a, c, rfl, h1, h2, h3⟩ := ownS_strL h rfl
  exact ⟨a, c, L, rfl, h1.rd, hA, hP, hN, h2, h3⟩
end Go.Proofs.Ythcclkeeekppmaa
