import Derived.Test.YthcclkeeekppmaaNp3
import Derived.Deep.RegionHeld3
import Derived.Deep.CutBlock
import Derived.Deep.QuietTactic
import Derived.BigQuiet
namespace Go.Proofs.Ythcclkeeekppmaa
open Go.RowKit Go.Deep
set_option linter.unusedVariables false
set_option maxRecDepth 100000

/-- What l6Mean has of its node: the root, its operands, the facts. -/
structure MnA (w : World) (b o mm c : Nat) (k : Int) (s t : ByteArray) (ks : List Value) (fa : Option Addr) (fn fc : Nat) (fs : List Fc) : Prop where
  ro : Calls Try.prog 70 #[.slice (some ⟨b, o, none⟩) mm c] w fun e w' => e = .returned (.agg #[.int .i64 k, .string s, .string t]) ∧ Below w.heap.size w w'
  kd : ∀ W, Below w.heap.size w W → Calls Try.prog 57 #[.slice (some ⟨b, o, none⟩) mm c] W fun e w' => ∃ go cpo, e = .returned (.slice (some ⟨go, 0, none⟩) ks.length cpo) ∧ (∀ i x, ks[i]? = some x → w'.cell? ⟨go, i, none⟩ = some x) ∧ Below W.heap.size W w'
  rf : RdF w fa fs
  fl : fn = fs.length
  f3 : fs.length ≤ 300
/-- A call of l6Mean on an operand. -/
def KidM (w : World) (v : Value) (fa : Option Addr) (fn fc N : Nat) (P : Bool → ByteArray → ByteArray → Prop) : Prop := ∀ (W : World) (bd : Bool) (g : ByteArray), Below w.heap.size w W → Calls Try.prog 34 #[v, .slice fa fn fc, .bool bd, .string g] W (RetM W N (P bd g))
set_option maxHeartbeats 4000000 in
theorem mean_9 (b o mm c : Nat) (s t : ByteArray) (v0 : Value) (fa : Option Addr) (fn fc : Nat) (fs : List Fc) (N0 : Nat) (A : Bool → ByteArray → ByteArray → Prop) (bd : Bool) (g : ByteArray) (w : World) (h : MnA w b o mm c 9 s t [v0] fa fn fc fs) (k0 : KidM w v0 fa fn fc N0 A) :
    Calls Try.prog 34 #[.slice (some ⟨b, o, none⟩) mm c, .slice fa fn fc, .bool bd, .string g] w (RetM w (N0) (nodeM 9 s t (fs.filter (cntB bd g)) (A true s) (fun _ => False))) := by
  have HM : Hid (MnA w b o mm c 9 s t [v0] fa fn fc fs) := h
  clear h
  have e9 : nodeM 9 s t (fs.filter (cntB bd g)) (A true s) (fun _ => False) = A true s := by funext x; simp [nodeM]
  rw [e9]
  clear e9
  go_enter Try.func34, Try.ntmps34
  go_wp2_with fail
  refine HM.out.ro.mono ?_
  rintro e w1 ⟨rfl, hb1⟩
  have HB1 : Hid (Below w.heap.size w (w1.alloc (.cells #[.int .i64 9, .string s, .string t] 35))) := hb1.trans ((below_alloc _ _).mono hb1.size)
  clear hb1
  go_wp2_with fail
  refine (HM.out.kd _ HB1.out).mono ?_
  rintro e w2 ⟨go, cpo, rfl, hks, hb2⟩
  have HB2 : Hid (Below w.heap.size w w2) := HB1.out.trans (hb2.mono HB1.out.size)
  have HBx : Hid (∀ W, Below w2.heap.size w2 W → (W.cell? ⟨w1.heap.size, 0, none⟩ = some (.int .i64 9) ∧ W.cell? ⟨w1.heap.size, 1, none⟩ = some (.string s) ∧ W.cell? ⟨w1.heap.size, 2, none⟩ = some (.string t)) ∧ w1.heap.size < W.heap.size ∧ W.cell? ⟨go, 0, none⟩ = some v0) := fun W hW => by
    have hz : w1.heap.size < w2.heap.size := by have := hb2.size; simp at this; omega
    have hh : W.heap[w1.heap.size]? = some (.cells #[.int .i64 9, .string s, .string t] 35) := (hW.block _ hz).trans ((hb2.block _ (by simp)).trans Array.getElem?_push_size)
    have hz2 := hW.size
    refine ⟨⟨?_, ?_, ?_⟩, by omega, (hW.cell (World.block_lt_of_cell? _ _ (hks 0 v0 rfl))).trans (hks 0 v0 rfl)⟩ <;> simp [World.cell?, hh]
  clear hks hb2 HB1
  obtain ⟨b3, hb3⟩ : ∃ b3, b3 = w1.heap.size := ⟨_, rfl⟩
  rw [← hb3] at HBx ⊢
  clear hb3
  obtain ⟨⟨x0, x1, x2⟩, xl, x3⟩ := HBx.out w2 (Below.refl _ _)
  have HK0 : Hid (KidM w v0 fa fn fc N0 A) := k0
  clear k0
  have HW3 : Hid (∀ O, Below w2.heap.size w2 (w2.alloc O)) := fun O => below_alloc _ _
  have HC : Hid (∀ W, Below w2.heap.size w2 W → Calls Try.prog 34 #[v0, .slice fa fn fc, .bool true, .string s] W (RetM W N0 (A true s))) := fun W hW => HK0.out W true s (HB2.out.trans (hW.mono HB2.out.size))
  go_upto_region 5 with fail
  obtain ⟨W3, hW3⟩ : ∃ W3, W3 = w2.alloc (.cells #[] 9) := ⟨_, rfl⟩
  have H3 : Hid (Below w2.heap.size w2 W3) := by rw [hW3]; exact HW3.out _
  rw [← hW3]
  clear hW3 x0 x1 x2 x3 xl
  obtain ⟨⟨x0, x1, x2⟩, xl, x3⟩ := HBx.out W3 H3.out
  have J0 : Hid (Below w2.heap.size w2 W3.drew) := H3.out.drew
  have JR : Hid (∀ e w', RetM W3.drew N0 (A true s) e w' → RetM w N0 (A true s) e w') := fun e w' hr => by
    obtain ⟨v, e1, e2, e3⟩ := hr.lst
    rw [e1]
    have hb := HB2.out.trans (J0.out.mono HB2.out.size)
    exact e2.ret (hb.trans (e3.mono hb.size))
  go_region_held3 (fun w' => w'.cell? ⟨b3, 1, none⟩ = some (.string s) ∧ w'.cell? ⟨go, 0, none⟩ = some v0) (first | exact ⟨(HBx.out _ J4.out.1).1.2.1, (HBx.out _ J4.out.1).2.2⟩ | go_keep)
    (first
    | (go_at_call 34; (with_reducible refine (HC.out _ J0.out).mono ?_); intro e w4 hr; have hr2 := JR.out e w4 hr; obtain ⟨v4, rfl, hl4, hb4⟩ := hr.lst; have J4 : Hid (Below w2.heap.size w2 w4 ∧ RetM w N0 (A true s) (.returned v4) w4) := ⟨J0.out.trans (hb4.mono J0.out.size), hr2⟩; clear hr hr2 hl4 hb4)
    | fail)
  go_wp2
  go_ret
  exact J4.out.2
end Go.Proofs.Ythcclkeeekppmaa

namespace Go.Proofs.Ythcclkeeekppmaa
open Go.RowKit Go.Deep
set_option linter.unusedVariables false
set_option maxRecDepth 100000

set_option maxHeartbeats 4000000 in
theorem mean_1 (b o mm c : Nat) (s t : ByteArray) (fa : Option Addr) (fn fc : Nat) (fs : List Fc) (bd : Bool) (g : ByteArray) (w : World) (h : MnA w b o mm c 1 s t [] fa fn fc fs) :
    Calls Try.prog 34 #[.slice (some ⟨b, o, none⟩) mm c, .slice fa fn fc, .bool bd, .string g] w (RetM w (600) (nodeM 1 s t (fs.filter (cntB bd g)) ((fun _ => False)) (fun _ => False))) := by
  have HM : Hid (MnA w b o mm c 1 s t [] fa fn fc fs) := h
  clear h
  go_enter Try.func34, Try.ntmps34
  go_wp2_with fail
  refine HM.out.ro.mono ?_
  rintro e w1 ⟨rfl, hb1⟩
  have HB1 : Hid (Below w.heap.size w (w1.alloc (.cells #[.int .i64 1, .string s, .string t] 35))) := hb1.trans ((below_alloc _ _).mono hb1.size)
  clear hb1
  go_wp2_with fail
  refine (HM.out.kd _ HB1.out).mono ?_
  rintro e w2 ⟨go, cpo, rfl, hks, hb2⟩
  have HB2 : Hid (Below w.heap.size w w2) := HB1.out.trans (hb2.mono HB1.out.size)
  have HBx : Hid (∀ W, Below w2.heap.size w2 W → (W.cell? ⟨w1.heap.size, 0, none⟩ = some (.int .i64 1) ∧ W.cell? ⟨w1.heap.size, 1, none⟩ = some (.string s) ∧ W.cell? ⟨w1.heap.size, 2, none⟩ = some (.string t)) ∧ w1.heap.size < W.heap.size) := fun W hW => by
    have hz : w1.heap.size < w2.heap.size := by have := hb2.size; simp at this; omega
    have hh : W.heap[w1.heap.size]? = some (.cells #[.int .i64 1, .string s, .string t] 35) := (hW.block _ hz).trans ((hb2.block _ (by simp)).trans Array.getElem?_push_size)
    have hz2 := hW.size
    refine ⟨⟨?_, ?_, ?_⟩, by omega⟩ <;> simp [World.cell?, hh]
  clear hks hb2 HB1
  obtain ⟨b3, hb3⟩ : ∃ b3, b3 = w1.heap.size := ⟨_, rfl⟩
  rw [← hb3] at HBx ⊢
  clear hb3
  obtain ⟨⟨x0, x1, x2⟩, xl⟩ := HBx.out w2 (Below.refl _ _)
  have HLF : Hid (∀ W, Below w.heap.size w W → Calls Try.prog 71 #[.slice fa fn fc, .bool bd, .string g] W fun e w' => ∃ a' c', e = .returned (.slice a' (fs.filter (cntB bd g)).length c') ∧ RdF w' a' (fs.filter (cntB bd g)) ∧ Below W.heap.size W w') := fun W hW => by
    rw [HM.out.fl]
    exact l6Facts_any fa fc fs bd g W (HM.out.rf.below hW) (by have := HM.out.f3; omega)
  obtain ⟨F, hF⟩ : ∃ F, F = fs.filter (cntB bd g) := ⟨_, rfl⟩
  rw [← hF] at HLF
  have HFE : Hid (F = fs.filter (cntB bd g) ∧ F.length ≤ 300) := ⟨hF, by rw [hF]; exact Nat.le_trans (List.length_filter_le _ _) HM.out.f3⟩
  obtain ⟨nF, hnF⟩ : ∃ nF, nF = F.length := ⟨_, rfl⟩
  rw [← hnF] at HLF HFE
  have HNF : Hid (nF = F.length) := hnF
  have hnF3 : nF ≤ 300 := HFE.out.2
  clear hF hnF
  obtain ⟨W3, hW3⟩ : ∃ W3, W3 = ((w2.alloc (.cells #[] 9)).alloc (.cells #[] 9)).alloc (.cells #[] 9) := ⟨_, rfl⟩
  have H3 : Hid (Below w2.heap.size w2 W3 ∧ LstA W3 (.slice (some ⟨w2.heap.size, 0, none⟩) 0 0) 0 (fun _ => False)) := by
    rw [hW3]
    exact ⟨((below_alloc _ _).alloc (by simp) _).alloc (by simp; omega) _, ((LstA.nil w2 _ (fun _ q => q)).below (below_alloc _ _)).below (below_alloc _ _)⟩
  obtain ⟨vo, hvo⟩ : ∃ vo, vo = Value.slice (some ⟨w2.heap.size, 0, none⟩) 0 0 := ⟨_, rfl⟩
  rw [← hvo] at H3
  go_upto_region 12 with fail
  rw [← hW3, ← hvo]
  clear hW3 hvo x0 x1 x2 xl
  go_wp2_with fail
  refine (HLF.out W3 (HB2.out.trans (H3.out.1.mono HB2.out.size))).mono ?_
  rintro e w5 ⟨aF, cF, rfl, hrF, hb5⟩
  have H5 : Hid (Below w2.heap.size w2 w5 ∧ LstA w5 vo 0 (fun _ => False) ∧ RdF w5 aF F) := ⟨H3.out.1.trans (hb5.mono H3.out.1.size), H3.out.2.below hb5, hrF⟩
  clear hrF hb5 H3
  obtain ⟨⟨x0, x1, x2⟩, xl⟩ := HBx.out w5 H5.out.1
  go_wp2
  clear x0 x1 x2 xl
  go_loopw [11, 18, 19] (fun u i _ wr => ∃ j : Nat, j ≤ nF ∧ i = .int .i64 j ∧ LstA wr u (2 * j) (nodeM 1 s t (F.take j) ((fun _ => False)) (fun _ => False)) ∧ Below w5.heap.size w5 wr) (fun _ i _ _ => nF - (intOf i).toNat)
  case atStart => exact ⟨0, Nat.zero_le _, rfl, H5.out.2.1.congr (fun x => ⟨(fun q => q.elim), fun q => nodeM_nil (by omega) s t _ _ x q⟩) (Nat.le_refl _), Below.refl _ _⟩
  case round =>
    obtain ⟨j, hj, rfl, hl, hbr⟩ := hrel
    have HL : Hid (LstA wr u11 (2 * j) (nodeM 1 s t (F.take j) ((fun _ => False)) (fun _ => False)) ∧ Below w5.heap.size w5 wr) := ⟨hl, hbr⟩
    clear hl hbr
    by_cases hlt : j < nF
    · have hjF : j < F.length := by rw [← HNF.out]; exact hlt
      obtain ⟨bF, oF, rfl, s0, s1, s2, s3⟩ := (H5.out.2.2.below HL.out.2).at hjF
      obtain ⟨f, hf⟩ : ∃ f, f = F[j] := ⟨_, rfl⟩
      rw [← hf] at s0 s1 s2 s3
      have HST : Hid (∀ x, nodeM 1 s t (F.take (j + 1)) ((fun _ => False)) (fun _ => False) x ↔ nodeM 1 s t (F.take j) ((fun _ => False)) (fun _ => False) x ∨ stepM 1 s t ((fun _ => False)) f x) := fun x => by
        have e : F.take (j + 1) = F.take j ++ [f] := by rw [List.take_add_one, List.getElem?_eq_getElem hjF, ← hf]; rfl
        rw [e]
        exact nodeM_app (by omega) s t _ f _ _ x
      clear hf hjF
      obtain ⟨W6, hW6⟩ : ∃ W6, W6 = wr.alloc (.cells #[.string f.s, .string f.p, .string f.o, .string f.g] 38) := ⟨_, rfl⟩
      obtain ⟨b6, hb6⟩ : ∃ b6, b6 = wr.heap.size := ⟨_, rfl⟩
      have HX6 : Hid (∀ W, Below W6.heap.size W6 W → ((W.cell? ⟨b3, 0, none⟩ = some (.int .i64 1) ∧ W.cell? ⟨b3, 1, none⟩ = some (.string s) ∧ W.cell? ⟨b3, 2, none⟩ = some (.string t) ∧ b3 < W.heap.size) ∧ (W.cell? ⟨b6, 0, none⟩ = some (.string f.s) ∧ W.cell? ⟨b6, 1, none⟩ = some (.string f.p) ∧ W.cell? ⟨b6, 2, none⟩ = some (.string f.o) ∧ W.cell? ⟨b6, 3, none⟩ = some (.string f.g) ∧ b6 < W.heap.size)) ∧ LstA W u11 (2 * j) (nodeM 1 s t (F.take j) ((fun _ => False)) (fun _ => False)) ∧ Below w5.heap.size w5 W) := fun W hW => by
        have hbA : Below wr.heap.size wr W6 := by rw [hW6]; exact below_alloc _ _
        have hb : Below wr.heap.size wr W := hbA.trans (hW.mono hbA.size)
        have hb5 : Below w5.heap.size w5 W := HL.out.2.trans (hb.mono HL.out.2.size)
        have hz : b6 < W6.heap.size := by rw [hW6, hb6]; simp
        have hh : W.heap[b6]? = some (.cells #[.string f.s, .string f.p, .string f.o, .string f.g] 38) := (hW.block _ hz).trans (by rw [hW6, hb6]; exact Array.getElem?_push_size)
        obtain ⟨⟨y0, y1, y2⟩, yl⟩ := HBx.out W (H5.out.1.trans (hb5.mono H5.out.1.size))
        have hz2 := hW.size
        refine ⟨⟨⟨y0, y1, y2, yl⟩, ?_, ?_, ?_, ?_, by omega⟩, HL.out.1.below hb, hb5⟩ <;> simp [World.cell?, hh]
      have i0 : (0 : Int) ≤ (j : Int) := by omega
      have i1 : (j : Int) < (nF : Int) := by omega
      obtain ⟨⟨x0, x1, x2⟩, xl⟩ := HBx.out wr (H5.out.1.trans (HL.out.2.mono H5.out.1.size))
      go_upto_region 36 with fail
      rw [← hW6, ← hb6]
      clear hW6 hb6 s0 s1 s2 s3 x0 x1 x2 xl HL
      obtain ⟨⟨⟨x0, x1, x2, xl⟩, z0, z1, z2, z3, zl⟩, HQ1, HQ2⟩ := HX6.out W6 (Below.refl _ _)
      have HQ : Hid (LstA W6 u11 (2 * j) (nodeM 1 s t (F.take j) ((fun _ => False)) (fun _ => False)) ∧ Below w5.heap.size w5 W6) := ⟨HQ1, HQ2⟩
      clear HQ1 HQ2
      have J0 : Hid (Below W6.heap.size W6 W6.drew) := (Below.refl _ _).drew
      go_upto_region 37 with fail
      go_region_held3 (fun w' => w'.cell? ⟨b6, 0, none⟩ = some (.string f.s) ∧ w'.cell? ⟨b6, 2, none⟩ = some (.string f.o)) (first | exact ⟨(HX6.out _ J8.out.1).1.2.1, (HX6.out _ J8.out.1).1.2.2.2.1⟩ | exact ⟨(HX6.out _ J7.out.1).1.2.1, (HX6.out _ J7.out.1).1.2.2.2.1⟩ | exact ⟨(HX6.out _ J0.out).1.2.1, (HX6.out _ J0.out).1.2.2.2.1⟩ | go_keep)
        (first
        | (go_at_call 73; (with_reducible refine (l6Add_v u11 (2 * j) _ f.s _ (HX6.out _ J0.out).2.1 (by omega)).mono ?_); rintro e w7 ⟨v7, rfl, hl7, hb7⟩; have J7 : Hid (Below W6.heap.size W6 w7 ∧ LstA w7 v7 (2 * j + 1) (fun x => nodeM 1 s t (F.take j) (fun _ => False) (fun _ => False) x ∨ x = f.s)) := ⟨J0.out.trans (hb7.mono J0.out.size), hl7⟩; clear hl7 hb7)
        | (go_at_call 73; (with_reducible refine (l6Add_v v7 (2 * j + 1) _ f.o _ J7.out.2 (by omega)).mono ?_); rintro e w8 ⟨v8, rfl, hl8, hb8⟩; have J8 : Hid (Below W6.heap.size W6 w8 ∧ LstA w8 v8 (2 * j + 1 + 1) (fun x => (nodeM 1 s t (F.take j) (fun _ => False) (fun _ => False) x ∨ x = f.s) ∨ x = f.o)) := ⟨J7.out.1.trans (hb8.mono J7.out.1.size), hl8⟩; clear hl8 hb8)
        | fail)
      have HNW : Hid (LstA w8 v8 (2 * (j + 1)) (nodeM 1 s t (F.take (j + 1)) ((fun _ => False)) (fun _ => False)) ∧ Below w5.heap.size w5 w8) := ⟨J8.out.2.congr (fun x => by rw [HST.out]; simp [stepM, or_assoc]) (by omega), (HX6.out _ J8.out.1).2.2⟩
      clear x0 x1 x2 xl z0 z1 z2 z3 zl
      obtain ⟨⟨⟨x0, x1, x2, xl⟩, z0, z1, z2, z3, zl⟩, -, -⟩ := HX6.out w8 J8.out.1
      clear J8 J7 J0 HQ
      go_wp2
      go_roundw
      case rel => exact ⟨j + 1, by omega, by go_num, HNW.out⟩
      case measure => simp [intOf]; omega
    · have e : j = nF := by omega
      subst e
      have HF : Hid (RetM w 600 (nodeM 1 s t (fs.filter (cntB bd g)) ((fun _ => False)) (fun _ => False)) (.returned u11) wr) := by
        have hb : Below w.heap.size w wr := HB2.out.trans ((H5.out.1.trans (HL.out.2.mono H5.out.1.size)).mono HB2.out.size)
        refine (HL.out.1.congr (fun x => ?_) (by omega)).ret hb
        rw [HNF.out, List.take_length, HFE.out.1]
      go_wp2
      go_ret
      exact HF.out
end Go.Proofs.Ythcclkeeekppmaa

namespace Go.Proofs.Ythcclkeeekppmaa
open Go.RowKit Go.Deep
set_option linter.unusedVariables false
set_option maxRecDepth 100000

set_option maxHeartbeats 4000000 in
theorem mean_2 (b o mm c : Nat) (s t : ByteArray) (fa : Option Addr) (fn fc : Nat) (fs : List Fc) (bd : Bool) (g : ByteArray) (w : World) (h : MnA w b o mm c 2 s t [] fa fn fc fs) :
    Calls Try.prog 34 #[.slice (some ⟨b, o, none⟩) mm c, .slice fa fn fc, .bool bd, .string g] w (RetM w (600) (nodeM 2 s t (fs.filter (cntB bd g)) ((fun _ => False)) (fun _ => False))) := by
  have HM : Hid (MnA w b o mm c 2 s t [] fa fn fc fs) := h
  clear h
  go_enter Try.func34, Try.ntmps34
  go_wp2_with fail
  refine HM.out.ro.mono ?_
  rintro e w1 ⟨rfl, hb1⟩
  have HB1 : Hid (Below w.heap.size w (w1.alloc (.cells #[.int .i64 2, .string s, .string t] 35))) := hb1.trans ((below_alloc _ _).mono hb1.size)
  clear hb1
  go_wp2_with fail
  refine (HM.out.kd _ HB1.out).mono ?_
  rintro e w2 ⟨go, cpo, rfl, hks, hb2⟩
  have HB2 : Hid (Below w.heap.size w w2) := HB1.out.trans (hb2.mono HB1.out.size)
  have HBx : Hid (∀ W, Below w2.heap.size w2 W → (W.cell? ⟨w1.heap.size, 0, none⟩ = some (.int .i64 2) ∧ W.cell? ⟨w1.heap.size, 1, none⟩ = some (.string s) ∧ W.cell? ⟨w1.heap.size, 2, none⟩ = some (.string t)) ∧ w1.heap.size < W.heap.size) := fun W hW => by
    have hz : w1.heap.size < w2.heap.size := by have := hb2.size; simp at this; omega
    have hh : W.heap[w1.heap.size]? = some (.cells #[.int .i64 2, .string s, .string t] 35) := (hW.block _ hz).trans ((hb2.block _ (by simp)).trans Array.getElem?_push_size)
    have hz2 := hW.size
    refine ⟨⟨?_, ?_, ?_⟩, by omega⟩ <;> simp [World.cell?, hh]
  clear hks hb2 HB1
  obtain ⟨b3, hb3⟩ : ∃ b3, b3 = w1.heap.size := ⟨_, rfl⟩
  rw [← hb3] at HBx ⊢
  clear hb3
  obtain ⟨⟨x0, x1, x2⟩, xl⟩ := HBx.out w2 (Below.refl _ _)
  have HLF : Hid (∀ W, Below w.heap.size w W → Calls Try.prog 71 #[.slice fa fn fc, .bool bd, .string g] W fun e w' => ∃ a' c', e = .returned (.slice a' (fs.filter (cntB bd g)).length c') ∧ RdF w' a' (fs.filter (cntB bd g)) ∧ Below W.heap.size W w') := fun W hW => by
    rw [HM.out.fl]
    exact l6Facts_any fa fc fs bd g W (HM.out.rf.below hW) (by have := HM.out.f3; omega)
  obtain ⟨F, hF⟩ : ∃ F, F = fs.filter (cntB bd g) := ⟨_, rfl⟩
  rw [← hF] at HLF
  have HFE : Hid (F = fs.filter (cntB bd g) ∧ F.length ≤ 300) := ⟨hF, by rw [hF]; exact Nat.le_trans (List.length_filter_le _ _) HM.out.f3⟩
  obtain ⟨nF, hnF⟩ : ∃ nF, nF = F.length := ⟨_, rfl⟩
  rw [← hnF] at HLF HFE
  have HNF : Hid (nF = F.length) := hnF
  have hnF3 : nF ≤ 300 := HFE.out.2
  clear hF hnF
  obtain ⟨W3, hW3⟩ : ∃ W3, W3 = ((w2.alloc (.cells #[] 9)).alloc (.cells #[] 9)).alloc (.cells #[] 9) := ⟨_, rfl⟩
  have H3 : Hid (Below w2.heap.size w2 W3 ∧ LstA W3 (.slice (some ⟨w2.heap.size, 0, none⟩) 0 0) 0 (fun _ => False)) := by
    rw [hW3]
    exact ⟨((below_alloc _ _).alloc (by simp) _).alloc (by simp; omega) _, ((LstA.nil w2 _ (fun _ q => q)).below (below_alloc _ _)).below (below_alloc _ _)⟩
  obtain ⟨vo, hvo⟩ : ∃ vo, vo = Value.slice (some ⟨w2.heap.size, 0, none⟩) 0 0 := ⟨_, rfl⟩
  rw [← hvo] at H3
  go_upto_region 12 with fail
  rw [← hW3, ← hvo]
  clear hW3 hvo x0 x1 x2 xl
  go_wp2_with fail
  refine (HLF.out W3 (HB2.out.trans (H3.out.1.mono HB2.out.size))).mono ?_
  rintro e w5 ⟨aF, cF, rfl, hrF, hb5⟩
  have H5 : Hid (Below w2.heap.size w2 w5 ∧ LstA w5 vo 0 (fun _ => False) ∧ RdF w5 aF F) := ⟨H3.out.1.trans (hb5.mono H3.out.1.size), H3.out.2.below hb5, hrF⟩
  clear hrF hb5 H3
  obtain ⟨⟨x0, x1, x2⟩, xl⟩ := HBx.out w5 H5.out.1
  go_wp2
  clear x0 x1 x2 xl
  go_loopw [11, 18, 19] (fun u i _ wr => ∃ j : Nat, j ≤ nF ∧ i = .int .i64 j ∧ LstA wr u (2 * j) (nodeM 2 s t (F.take j) ((fun _ => False)) (fun _ => False)) ∧ Below w5.heap.size w5 wr) (fun _ i _ _ => nF - (intOf i).toNat)
  case atStart => exact ⟨0, Nat.zero_le _, rfl, H5.out.2.1.congr (fun x => ⟨(fun q => q.elim), fun q => nodeM_nil (by omega) s t _ _ x q⟩) (Nat.le_refl _), Below.refl _ _⟩
  case round =>
    obtain ⟨j, hj, rfl, hl, hbr⟩ := hrel
    have HL : Hid (LstA wr u11 (2 * j) (nodeM 2 s t (F.take j) ((fun _ => False)) (fun _ => False)) ∧ Below w5.heap.size w5 wr) := ⟨hl, hbr⟩
    clear hl hbr
    by_cases hlt : j < nF
    · have hjF : j < F.length := by rw [← HNF.out]; exact hlt
      obtain ⟨bF, oF, rfl, s0, s1, s2, s3⟩ := (H5.out.2.2.below HL.out.2).at hjF
      obtain ⟨f, hf⟩ : ∃ f, f = F[j] := ⟨_, rfl⟩
      rw [← hf] at s0 s1 s2 s3
      have HST : Hid (∀ x, nodeM 2 s t (F.take (j + 1)) ((fun _ => False)) (fun _ => False) x ↔ nodeM 2 s t (F.take j) ((fun _ => False)) (fun _ => False) x ∨ stepM 2 s t ((fun _ => False)) f x) := fun x => by
        have e : F.take (j + 1) = F.take j ++ [f] := by rw [List.take_add_one, List.getElem?_eq_getElem hjF, ← hf]; rfl
        rw [e]
        exact nodeM_app (by omega) s t _ f _ _ x
      clear hf hjF
      obtain ⟨W6, hW6⟩ : ∃ W6, W6 = wr.alloc (.cells #[.string f.s, .string f.p, .string f.o, .string f.g] 38) := ⟨_, rfl⟩
      obtain ⟨b6, hb6⟩ : ∃ b6, b6 = wr.heap.size := ⟨_, rfl⟩
      have HX6 : Hid (∀ W, Below W6.heap.size W6 W → ((W.cell? ⟨b3, 0, none⟩ = some (.int .i64 2) ∧ W.cell? ⟨b3, 1, none⟩ = some (.string s) ∧ W.cell? ⟨b3, 2, none⟩ = some (.string t) ∧ b3 < W.heap.size) ∧ (W.cell? ⟨b6, 0, none⟩ = some (.string f.s) ∧ W.cell? ⟨b6, 1, none⟩ = some (.string f.p) ∧ W.cell? ⟨b6, 2, none⟩ = some (.string f.o) ∧ W.cell? ⟨b6, 3, none⟩ = some (.string f.g) ∧ b6 < W.heap.size)) ∧ LstA W u11 (2 * j) (nodeM 2 s t (F.take j) ((fun _ => False)) (fun _ => False)) ∧ Below w5.heap.size w5 W) := fun W hW => by
        have hbA : Below wr.heap.size wr W6 := by rw [hW6]; exact below_alloc _ _
        have hb : Below wr.heap.size wr W := hbA.trans (hW.mono hbA.size)
        have hb5 : Below w5.heap.size w5 W := HL.out.2.trans (hb.mono HL.out.2.size)
        have hz : b6 < W6.heap.size := by rw [hW6, hb6]; simp
        have hh : W.heap[b6]? = some (.cells #[.string f.s, .string f.p, .string f.o, .string f.g] 38) := (hW.block _ hz).trans (by rw [hW6, hb6]; exact Array.getElem?_push_size)
        obtain ⟨⟨y0, y1, y2⟩, yl⟩ := HBx.out W (H5.out.1.trans (hb5.mono H5.out.1.size))
        have hz2 := hW.size
        refine ⟨⟨⟨y0, y1, y2, yl⟩, ?_, ?_, ?_, ?_, by omega⟩, HL.out.1.below hb, hb5⟩ <;> simp [World.cell?, hh]
      have i0 : (0 : Int) ≤ (j : Int) := by omega
      have i1 : (j : Int) < (nF : Int) := by omega
      obtain ⟨⟨x0, x1, x2⟩, xl⟩ := HBx.out wr (H5.out.1.trans (HL.out.2.mono H5.out.1.size))
      go_upto_region 36 with fail
      rw [← hW6, ← hb6]
      clear hW6 hb6 s0 s1 s2 s3 x0 x1 x2 xl HL
      obtain ⟨⟨⟨x0, x1, x2, xl⟩, z0, z1, z2, z3, zl⟩, HQ1, HQ2⟩ := HX6.out W6 (Below.refl _ _)
      have HQ : Hid (LstA W6 u11 (2 * j) (nodeM 2 s t (F.take j) ((fun _ => False)) (fun _ => False)) ∧ Below w5.heap.size w5 W6) := ⟨HQ1, HQ2⟩
      clear HQ1 HQ2
      by_cases h1 : f.s = s
      · have q1 : (f.s.toList == s.toList) = true := str_eq.2 h1
        go_wp2_with fail
        refine (l6Add_v u11 (2 * j) _ s W6 (HX6.out W6 (Below.refl _ _)).2.1 (by omega)).mono ?_
        rintro e w8 ⟨v8, rfl, hl8, hb8⟩
        have J8 : Hid (Below W6.heap.size W6 w8) := hb8
        have HNW : Hid (LstA w8 v8 (2 * (j + 1)) (nodeM 2 s t (F.take (j + 1)) ((fun _ => False)) (fun _ => False)) ∧ Below w5.heap.size w5 w8) := ⟨hl8.congr (fun x => by rw [HST.out]; simp [stepM, h1]) (by omega), (HX6.out _ J8.out).2.2⟩
        clear hl8 hb8 x0 x1 x2 xl z0 z1 z2 z3 zl HQ
        obtain ⟨⟨⟨x0, x1, x2, xl⟩, z0, z1, z2, z3, zl⟩, -⟩ := HX6.out w8 J8.out
        clear J8
        go_wp2
        go_roundw
        case rel => exact ⟨j + 1, by omega, by go_num, HNW.out⟩
        case measure => simp [intOf]; omega
      have q1 : (f.s.toList == s.toList) = false := by
        cases hq : (f.s.toList == s.toList) with
        | false => rfl
        | true => exact absurd (str_eq.1 hq) h1
      by_cases h2 : f.o = s
      · have q2 : (f.o.toList == s.toList) = true := str_eq.2 h2
        go_wp2_with fail
        refine (l6Add_v u11 (2 * j) _ s W6 (HX6.out W6 (Below.refl _ _)).2.1 (by omega)).mono ?_
        rintro e w8 ⟨v8, rfl, hl8, hb8⟩
        have J8 : Hid (Below W6.heap.size W6 w8) := hb8
        have HNW : Hid (LstA w8 v8 (2 * (j + 1)) (nodeM 2 s t (F.take (j + 1)) ((fun _ => False)) (fun _ => False)) ∧ Below w5.heap.size w5 w8) := ⟨hl8.congr (fun x => by rw [HST.out]; simp [stepM, h1, h2]) (by omega), (HX6.out _ J8.out).2.2⟩
        clear hl8 hb8 x0 x1 x2 xl z0 z1 z2 z3 zl HQ
        obtain ⟨⟨⟨x0, x1, x2, xl⟩, z0, z1, z2, z3, zl⟩, -⟩ := HX6.out w8 J8.out
        clear J8
        go_wp2
        go_roundw
        case rel => exact ⟨j + 1, by omega, by go_num, HNW.out⟩
        case measure => simp [intOf]; omega
      · have q2 : (f.o.toList == s.toList) = false := by
          cases hq : (f.o.toList == s.toList) with
          | false => rfl
          | true => exact absurd (str_eq.1 hq) h2
        have HNW : Hid (LstA W6 u11 (2 * (j + 1)) (nodeM 2 s t (F.take (j + 1)) ((fun _ => False)) (fun _ => False)) ∧ Below w5.heap.size w5 W6) := ⟨HQ.out.1.congr (fun x => by rw [HST.out]; simp [stepM, h1, h2]) (by omega), HQ.out.2⟩
        clear HQ
        go_wp2
        go_roundw
        case rel => exact ⟨j + 1, by omega, by go_num, HNW.out⟩
        case measure => simp [intOf]; omega
    · have e : j = nF := by omega
      subst e
      have HF : Hid (RetM w 600 (nodeM 2 s t (fs.filter (cntB bd g)) ((fun _ => False)) (fun _ => False)) (.returned u11) wr) := by
        have hb : Below w.heap.size w wr := HB2.out.trans ((H5.out.1.trans (HL.out.2.mono H5.out.1.size)).mono HB2.out.size)
        refine (HL.out.1.congr (fun x => ?_) (by omega)).ret hb
        rw [HNF.out, List.take_length, HFE.out.1]
      go_wp2
      go_ret
      exact HF.out
end Go.Proofs.Ythcclkeeekppmaa

namespace Go.Proofs.Ythcclkeeekppmaa
open Go.RowKit Go.Deep
set_option linter.unusedVariables false
set_option maxRecDepth 100000

set_option maxHeartbeats 4000000 in
theorem mean_3 (b o mm c : Nat) (s t : ByteArray) (v0 : Value) (fa : Option Addr) (fn fc : Nat) (fs : List Fc) (N0 : Nat) (A : Bool → ByteArray → ByteArray → Prop) (bd : Bool) (g : ByteArray) (w : World) (h : MnA w b o mm c 3 s t [v0] fa fn fc fs) (k0 : KidM w v0 fa fn fc N0 A) (hN0 : N0 ≤ 100000) :
    Calls Try.prog 34 #[.slice (some ⟨b, o, none⟩) mm c, .slice fa fn fc, .bool bd, .string g] w (RetM w (600) (nodeM 3 s t (fs.filter (cntB bd g)) (A bd g) (fun _ => False))) := by
  have HM : Hid (MnA w b o mm c 3 s t [v0] fa fn fc fs) := h
  clear h
  go_enter Try.func34, Try.ntmps34
  go_wp2_with fail
  refine HM.out.ro.mono ?_
  rintro e w1 ⟨rfl, hb1⟩
  have HB1 : Hid (Below w.heap.size w (w1.alloc (.cells #[.int .i64 3, .string s, .string t] 35))) := hb1.trans ((below_alloc _ _).mono hb1.size)
  clear hb1
  go_wp2_with fail
  refine (HM.out.kd _ HB1.out).mono ?_
  rintro e w2 ⟨go, cpo, rfl, hks, hb2⟩
  have HB2 : Hid (Below w.heap.size w w2) := HB1.out.trans (hb2.mono HB1.out.size)
  have HBx : Hid (∀ W, Below w2.heap.size w2 W → (W.cell? ⟨w1.heap.size, 0, none⟩ = some (.int .i64 3) ∧ W.cell? ⟨w1.heap.size, 1, none⟩ = some (.string s) ∧ W.cell? ⟨w1.heap.size, 2, none⟩ = some (.string t)) ∧ w1.heap.size < W.heap.size ∧ W.cell? ⟨go, 0, none⟩ = some v0) := fun W hW => by
    have hz : w1.heap.size < w2.heap.size := by have := hb2.size; simp at this; omega
    have hh : W.heap[w1.heap.size]? = some (.cells #[.int .i64 3, .string s, .string t] 35) := (hW.block _ hz).trans ((hb2.block _ (by simp)).trans Array.getElem?_push_size)
    have hz2 := hW.size
    refine ⟨⟨?_, ?_, ?_⟩, by omega, (hW.cell (World.block_lt_of_cell? _ _ (hks 0 v0 rfl))).trans (hks 0 v0 rfl)⟩ <;> simp [World.cell?, hh]
  clear hks hb2 HB1
  obtain ⟨b3, hb3⟩ : ∃ b3, b3 = w1.heap.size := ⟨_, rfl⟩
  rw [← hb3] at HBx ⊢
  clear hb3
  obtain ⟨⟨x0, x1, x2⟩, xl, x3⟩ := HBx.out w2 (Below.refl _ _)
  have HLF : Hid (∀ W, Below w.heap.size w W → Calls Try.prog 71 #[.slice fa fn fc, .bool bd, .string g] W fun e w' => ∃ a' c', e = .returned (.slice a' (fs.filter (cntB bd g)).length c') ∧ RdF w' a' (fs.filter (cntB bd g)) ∧ Below W.heap.size W w') := fun W hW => by
    rw [HM.out.fl]
    exact l6Facts_any fa fc fs bd g W (HM.out.rf.below hW) (by have := HM.out.f3; omega)
  obtain ⟨F, hF⟩ : ∃ F, F = fs.filter (cntB bd g) := ⟨_, rfl⟩
  rw [← hF] at HLF
  have HFE : Hid (F = fs.filter (cntB bd g) ∧ F.length ≤ 300) := ⟨hF, by rw [hF]; exact Nat.le_trans (List.length_filter_le _ _) HM.out.f3⟩
  obtain ⟨nF, hnF⟩ : ∃ nF, nF = F.length := ⟨_, rfl⟩
  rw [← hnF] at HLF HFE
  have HNF : Hid (nF = F.length) := hnF
  have hnF3 : nF ≤ 300 := HFE.out.2
  clear hF hnF
  obtain ⟨W3, hW3⟩ : ∃ W3, W3 = ((w2.alloc (.cells #[] 9)).alloc (.cells #[] 9)).alloc (.cells #[] 9) := ⟨_, rfl⟩
  have H3 : Hid (Below w2.heap.size w2 W3 ∧ LstA W3 (.slice (some ⟨w2.heap.size, 0, none⟩) 0 0) 0 (fun _ => False)) := by
    rw [hW3]
    exact ⟨((below_alloc _ _).alloc (by simp) _).alloc (by simp; omega) _, ((LstA.nil w2 _ (fun _ q => q)).below (below_alloc _ _)).below (below_alloc _ _)⟩
  obtain ⟨vo, hvo⟩ : ∃ vo, vo = Value.slice (some ⟨w2.heap.size, 0, none⟩) 0 0 := ⟨_, rfl⟩
  rw [← hvo] at H3
  have HK0 : Hid (∀ W, Below w2.heap.size w2 W → Calls Try.prog 34 #[v0, .slice fa fn fc, .bool bd, .string g] W (RetM W N0 (A bd g))) := fun W hW => k0 W bd g (HB2.out.trans (hW.mono HB2.out.size))
  clear k0
  go_upto_region 9 with fail
  rw [← hW3, ← hvo]
  clear hW3 hvo x0 x1 x2 x3 xl
  obtain ⟨⟨x0, x1, x2⟩, xl, x3⟩ := HBx.out W3 H3.out.1
  go_wp2_with fail
  refine (HK0.out W3 H3.out.1).mono ?_
  intro e w4 hr
  obtain ⟨va, rfl, hla, hb4⟩ := hr.lst
  have H4 : Hid (Below w2.heap.size w2 w4 ∧ LstA w4 vo 0 (fun _ => False) ∧ LstA w4 va N0 (A bd g)) := ⟨H3.out.1.trans (hb4.mono H3.out.1.size), H3.out.2.below hb4, hla⟩
  clear hr hla hb4 x0 x1 x2 x3 xl H3
  go_wp2_with fail
  refine (HLF.out w4 (HB2.out.trans (H4.out.1.mono HB2.out.size))).mono ?_
  rintro e w5 ⟨aF, cF, rfl, hrF, hb5⟩
  have H5 : Hid (Below w2.heap.size w2 w5 ∧ LstA w5 vo 0 (fun _ => False) ∧ RdF w5 aF F ∧ LstA w5 va N0 (A bd g)) := ⟨H4.out.1.trans (hb5.mono H4.out.1.size), H4.out.2.1.below hb5, hrF, H4.out.2.2.below hb5⟩
  clear hrF hb5 H4
  obtain ⟨⟨x0, x1, x2⟩, xl, x3⟩ := HBx.out w5 H5.out.1
  go_wp2
  clear x0 x1 x2 xl x3
  go_loopw [11, 18, 19] (fun u i _ wr => ∃ j : Nat, j ≤ nF ∧ i = .int .i64 j ∧ LstA wr u (2 * j) (nodeM 3 s t (F.take j) (A bd g) (fun _ => False)) ∧ Below w5.heap.size w5 wr) (fun _ i _ _ => nF - (intOf i).toNat)
  case atStart => exact ⟨0, Nat.zero_le _, rfl, H5.out.2.1.congr (fun x => ⟨(fun q => q.elim), fun q => nodeM_nil (by omega) s t _ _ x q⟩) (Nat.le_refl _), Below.refl _ _⟩
  case round =>
    obtain ⟨j, hj, rfl, hl, hbr⟩ := hrel
    have HL : Hid (LstA wr u11 (2 * j) (nodeM 3 s t (F.take j) (A bd g) (fun _ => False)) ∧ Below w5.heap.size w5 wr) := ⟨hl, hbr⟩
    clear hl hbr
    by_cases hlt : j < nF
    · have hjF : j < F.length := by rw [← HNF.out]; exact hlt
      obtain ⟨bF, oF, rfl, s0, s1, s2, s3⟩ := (H5.out.2.2.1.below HL.out.2).at hjF
      obtain ⟨f, hf⟩ : ∃ f, f = F[j] := ⟨_, rfl⟩
      rw [← hf] at s0 s1 s2 s3
      have HST : Hid (∀ x, nodeM 3 s t (F.take (j + 1)) (A bd g) (fun _ => False) x ↔ nodeM 3 s t (F.take j) (A bd g) (fun _ => False) x ∨ stepM 3 s t (A bd g) f x) := fun x => by
        have e : F.take (j + 1) = F.take j ++ [f] := by rw [List.take_add_one, List.getElem?_eq_getElem hjF, ← hf]; rfl
        rw [e]
        exact nodeM_app (by omega) s t _ f _ _ x
      clear hf hjF
      obtain ⟨W6, hW6⟩ : ∃ W6, W6 = wr.alloc (.cells #[.string f.s, .string f.p, .string f.o, .string f.g] 38) := ⟨_, rfl⟩
      obtain ⟨b6, hb6⟩ : ∃ b6, b6 = wr.heap.size := ⟨_, rfl⟩
      have HX6 : Hid (∀ W, Below W6.heap.size W6 W → ((W.cell? ⟨b3, 0, none⟩ = some (.int .i64 3) ∧ W.cell? ⟨b3, 1, none⟩ = some (.string s) ∧ W.cell? ⟨b3, 2, none⟩ = some (.string t) ∧ b3 < W.heap.size) ∧ (W.cell? ⟨b6, 0, none⟩ = some (.string f.s) ∧ W.cell? ⟨b6, 1, none⟩ = some (.string f.p) ∧ W.cell? ⟨b6, 2, none⟩ = some (.string f.o) ∧ W.cell? ⟨b6, 3, none⟩ = some (.string f.g) ∧ b6 < W.heap.size)) ∧ LstA W u11 (2 * j) (nodeM 3 s t (F.take j) (A bd g) (fun _ => False)) ∧ Below w5.heap.size w5 W ∧ LstA W va N0 (A bd g)) := fun W hW => by
        have hbA : Below wr.heap.size wr W6 := by rw [hW6]; exact below_alloc _ _
        have hb : Below wr.heap.size wr W := hbA.trans (hW.mono hbA.size)
        have hb5 : Below w5.heap.size w5 W := HL.out.2.trans (hb.mono HL.out.2.size)
        have hz : b6 < W6.heap.size := by rw [hW6, hb6]; simp
        have hh : W.heap[b6]? = some (.cells #[.string f.s, .string f.p, .string f.o, .string f.g] 38) := (hW.block _ hz).trans (by rw [hW6, hb6]; exact Array.getElem?_push_size)
        obtain ⟨⟨y0, y1, y2⟩, yl, -⟩ := HBx.out W (H5.out.1.trans (hb5.mono H5.out.1.size))
        have hz2 := hW.size
        refine ⟨⟨⟨y0, y1, y2, yl⟩, ?_, ?_, ?_, ?_, by omega⟩, HL.out.1.below hb, hb5, H5.out.2.2.2.below hb5⟩ <;> simp [World.cell?, hh]
      have i0 : (0 : Int) ≤ (j : Int) := by omega
      have i1 : (j : Int) < (nF : Int) := by omega
      obtain ⟨⟨x0, x1, x2⟩, xl, -⟩ := HBx.out wr (H5.out.1.trans (HL.out.2.mono H5.out.1.size))
      go_upto_region 36 with fail
      rw [← hW6, ← hb6]
      clear hW6 hb6 s0 s1 s2 s3 x0 x1 x2 xl HL
      obtain ⟨⟨⟨x0, x1, x2, xl⟩, z0, z1, z2, z3, zl⟩, HQ1, HQ2, HQ3⟩ := HX6.out W6 (Below.refl _ _)
      have HQ : Hid (LstA W6 u11 (2 * j) (nodeM 3 s t (F.take j) (A bd g) (fun _ => False)) ∧ Below w5.heap.size w5 W6 ∧ LstA W6 va N0 (A bd g)) := ⟨HQ1, HQ2, HQ3⟩
      clear HQ1 HQ2 HQ3
      by_cases h1 : f.p = s
      · have q1 : (f.p.toList == s.toList) = true := str_eq.2 h1
        go_wp2_with fail
        refine (l6In_v va N0 (A bd g) f.s W6 HQ.out.2.2 (by omega)).mono ?_
        rintro e w7 ⟨bq, rfl, hbq, hw7⟩
        replace hw7 := hw7.symm
        subst hw7
        cases bq with
        | true =>
          have h2 := hbq.1 rfl
          go_wp2_with fail
          refine (l6Add_v u11 (2 * j) _ f.o W6 (HX6.out W6 (Below.refl _ _)).2.1 (by omega)).mono ?_
          rintro e w8 ⟨v8, rfl, hl8, hb8⟩
          have J8 : Hid (Below W6.heap.size W6 w8) := hb8
          have HNW : Hid (LstA w8 v8 (2 * (j + 1)) (nodeM 3 s t (F.take (j + 1)) (A bd g) (fun _ => False)) ∧ Below w5.heap.size w5 w8) := ⟨hl8.congr (fun x => by rw [HST.out]; simp [stepM, h1, h2]) (by omega), (HX6.out _ J8.out).2.2.1⟩
          clear hl8 hb8 x0 x1 x2 xl z0 z1 z2 z3 zl HQ
          obtain ⟨⟨⟨x0, x1, x2, xl⟩, z0, z1, z2, z3, zl⟩, -⟩ := HX6.out w8 J8.out
          clear J8
          go_wp2
          rename_i xF fF heF
          simp only [List.getElem?_cons_zero, Option.some.injEq] at heF
          subst heF
          go_wp2
          rename_i xF fF heF
          simp only [List.getElem?_cons_zero, Option.some.injEq] at heF
          subst heF
          go_wp2
          go_roundw
          case rel => exact ⟨j + 1, by omega, by go_num, HNW.out⟩
          case measure => simp [intOf]; omega
        | false =>
          have h2 : ¬ A bd g f.s := fun q => by have := hbq.2 q; cases this
          clear hbq
          have HNW : Hid (LstA W6 u11 (2 * (j + 1)) (nodeM 3 s t (F.take (j + 1)) (A bd g) (fun _ => False)) ∧ Below w5.heap.size w5 W6) := ⟨HQ.out.1.congr (fun x => by rw [HST.out]; simp [stepM, h1, h2]) (by omega), HQ.out.2.1⟩
          clear HQ
          go_wp2
          go_roundw
          case rel => exact ⟨j + 1, by omega, by go_num, HNW.out⟩
          case measure => simp [intOf]; omega
      · have q1 : (f.p.toList == s.toList) = false := by
          cases hq : (f.p.toList == s.toList) with
          | false => rfl
          | true => exact absurd (str_eq.1 hq) h1
        have HNW : Hid (LstA W6 u11 (2 * (j + 1)) (nodeM 3 s t (F.take (j + 1)) (A bd g) (fun _ => False)) ∧ Below w5.heap.size w5 W6) := ⟨HQ.out.1.congr (fun x => by rw [HST.out]; simp [stepM, h1]) (by omega), HQ.out.2.1⟩
        clear HQ
        go_wp2
        go_roundw
        case rel => exact ⟨j + 1, by omega, by go_num, HNW.out⟩
        case measure => simp [intOf]; omega
    · have e : j = nF := by omega
      subst e
      have HF : Hid (RetM w 600 (nodeM 3 s t (fs.filter (cntB bd g)) (A bd g) (fun _ => False)) (.returned u11) wr) := by
        have hb : Below w.heap.size w wr := HB2.out.trans ((H5.out.1.trans (HL.out.2.mono H5.out.1.size)).mono HB2.out.size)
        refine (HL.out.1.congr (fun x => ?_) (by omega)).ret hb
        rw [HNF.out, List.take_length, HFE.out.1]
      go_wp2
      go_ret
      exact HF.out
end Go.Proofs.Ythcclkeeekppmaa
