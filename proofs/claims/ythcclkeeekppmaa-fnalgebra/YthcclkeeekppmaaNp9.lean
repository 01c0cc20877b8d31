import Derived.Test.YthcclkeeekppmaaNp7
namespace Go.Proofs.Ythcclkeeekppmaa
open Go.RowKit Go.Deep Go.Maps
set_option linter.unusedVariables false
set_option maxRecDepth 100000
set_option linter.unusedSimpArgs false

set_option maxHeartbeats 4000000 in
theorem reached_3 (s t : ByteArray) (bd : Bool) (lb : ByteArray) (aa : Option Addr) (oc cc : Nat) (hh : Int) (fa : Option Addr) (fc : Nat) (fs : List Fc) (Bx Nx : Nat) (A : ByteArray → Prop) (w : World) (hF : RdF w fa fs) (hl : fs.length ≤ 300) (hok : FcOk fs) (hx : SSet w Bx Nx A) :
    Calls Try.prog 66 #[.agg #[.int .i64 3, .string s, .string t, .bool bd, .string lb, .slice aa oc cc, .int .i64 hh], .slice fa fs.length fc, .map (some Bx)] w (RetS w 600 (nodeM 3 s t (fs.filter (cntB bd lb)) A (fun _ => False))) := by
  have hmm := @run_makeMap Try.prog
  obtain ⟨n, hn⟩ : ∃ n, n = fs.length := ⟨_, rfl⟩
  rw [← hn] at hl ⊢
  have HN : Hid (n = fs.length ∧ FcOk fs) := ⟨hn, hok⟩
  have HR : Hid (RdF w fa fs ∧ SSet w Bx Nx A) := ⟨hF, hx⟩
  have hBx : Bx < w.heap.size := hx.lt
  clear hn hF hok hx
  obtain ⟨W2, hW2⟩ : ∃ W2, W2 = (w.alloc (.cells #[.int .i64 3, .string s, .string t, .bool bd, .string lb, .slice aa oc cc, .int .i64 hh] 65)).alloc (.map #[] 0) := ⟨_, rfl⟩
  have H2 : Hid (SSet W2 (w.heap.size + 1) (0) (nodeM 3 s t ([]) A (fun _ => False)) ∧ Below w.heap.size w W2 ∧ W2.heap.size = w.heap.size + 2 ∧ (RdF W2 fa fs ∧ SSet W2 Bx Nx A) ∧ (W2.cell? ⟨w.heap.size, 0, none⟩ = some (.int .i64 3) ∧ W2.cell? ⟨w.heap.size, 1, none⟩ = some (.string s) ∧ W2.cell? ⟨w.heap.size, 2, none⟩ = some (.string t) ∧ W2.cell? ⟨w.heap.size, 3, none⟩ = some (.bool bd) ∧ W2.cell? ⟨w.heap.size, 4, none⟩ = some (.string lb))) := by
    have hb : Below w.heap.size w W2 := by rw [hW2]; exact (below_alloc _ _).alloc (by simp) _
    have h1 := sset_new (w.alloc (.cells #[.int .i64 3, .string s, .string t, .bool bd, .string lb, .slice aa oc cc, .int .i64 hh] 65)) (nodeM 3 s t ([]) A (fun _ => False)) (fun x => nodeM_nil (by omega) s t _ _ x)
    rw [World.size_alloc, ← hW2] at h1
    have hh0 : W2.heap[w.heap.size]? = some (.cells #[.int .i64 3, .string s, .string t, .bool bd, .string lb, .slice aa oc cc, .int .i64 hh] 65) := by
      rw [hW2]
      exact (Below.heap_alloc _ _ _ (by simp)).trans (blk_alloc_new w _)
    refine ⟨h1, hb, by rw [hW2]; simp, ⟨HR.out.1.below hb, HR.out.2.below hb⟩, ?_, ?_, ?_, ?_, ?_⟩ <;> simp [World.cell?, hh0]
  have hz2 := H2.out.2.2.1
  go_enter Try.func66, Try.ntmps66
  go_wp2
  rw [← hW2]
  clear hW2 hmm
  go_loopw [13] (fun i wr => ∃ j : Nat, j ≤ n ∧ i = .int .i64 j ∧ SSet wr (w.heap.size + 1) (2 * j) (nodeM 3 s t ((fs.take j).filter (cntB bd lb)) A (fun _ => False)) ∧ W2.grownBy wr (some (w.heap.size + 1))) (fun i _ => n - (intOf i).toNat)
  case atStart => exact ⟨0, Nat.zero_le _, rfl, H2.out.1, gr_refl _ _⟩
  case round =>
    obtain ⟨j, hj, rfl, hs, hg⟩ := hrel
    have HS : Hid (SSet wr (w.heap.size + 1) (2 * j) (nodeM 3 s t ((fs.take j).filter (cntB bd lb)) A (fun _ => False)) ∧ W2.grownBy wr (some (w.heap.size + 1))) := ⟨hs, hg⟩
    have hzr := hg.size
    clear hs hg
    by_cases hlt : j < n
    · have hjF : j < fs.length := by rw [← HN.out.1]; exact hlt
      obtain ⟨bF, oF, rfl, s0, s1, s2, s3⟩ := (H2.out.1.rdF HS.out.2 H2.out.2.2.2.1.1).at hjF
      obtain ⟨f, hf⟩ : ∃ f, f = fs[j] := ⟨_, rfl⟩
      rw [← hf] at s0 s1 s2 s3
      have HSZ : Hid (f.s.size ≤ maxLen ∧ f.o.size ≤ maxLen) := HN.out.2 f (by rw [hf]; exact List.getElem_mem hjF)
      have HT : Hid ((fs.take (j + 1)).filter (cntB bd lb) = (fs.take j).filter (cntB bd lb) ++ (if cntB bd lb f = true then [f] else [])) := take_filter _ (by rw [List.getElem?_eq_getElem hjF, hf])
      clear hf hjF
      obtain ⟨W4, hW4⟩ : ∃ W4, W4 = wr.alloc (.cells #[.string f.s, .string f.p, .string f.o, .string f.g] 38) := ⟨_, rfl⟩
      obtain ⟨b7, hb7⟩ : ∃ b7, b7 = wr.heap.size := ⟨_, rfl⟩
      have HW4 : Hid (Below wr.heap.size wr W4) := by rw [hW4]; exact below_alloc _ _
      have HC : Hid (∀ W, W4.grownBy W (some (w.heap.size + 1)) → (W.cell? ⟨w.heap.size, 0, none⟩ = some (.int .i64 3) ∧ W.cell? ⟨w.heap.size, 1, none⟩ = some (.string s) ∧ W.cell? ⟨w.heap.size, 2, none⟩ = some (.string t) ∧ W.cell? ⟨w.heap.size, 3, none⟩ = some (.bool bd) ∧ W.cell? ⟨w.heap.size, 4, none⟩ = some (.string lb)) ∧ (W.cell? ⟨b7, 0, none⟩ = some (.string f.s) ∧ W.cell? ⟨b7, 1, none⟩ = some (.string f.p) ∧ W.cell? ⟨b7, 2, none⟩ = some (.string f.o) ∧ W.cell? ⟨b7, 3, none⟩ = some (.string f.g)) ∧ b7 < W.heap.size ∧ w.heap.size < W.heap.size ∧ W2.grownBy W (some (w.heap.size + 1)) ∧ SSet W Bx Nx A) := fun W hW => by
        have hS4 := HS.out.1.below HW4.out
        have hg4 : W2.grownBy W4 (some (w.heap.size + 1)) := gr_below HS.out.2 HW4.out
        have e0 : W4.heap[b7]? = some (.cells #[.string f.s, .string f.p, .string f.o, .string f.g] 38) := by
          rw [hW4, hb7]
          exact blk_alloc_new wr _
        have c : ∀ (b o : Nat) (v : Value), W4.cell? ⟨b, o, none⟩ = some v → W.cell? ⟨b, o, none⟩ = some v := fun b o v q => hS4.cell hW q
        have c2 : ∀ (b o : Nat) (v : Value), W2.cell? ⟨b, o, none⟩ = some v → W.cell? ⟨b, o, none⟩ = some v := fun b o v q => c _ _ _ (H2.out.1.cell hg4 q)
        have zz : b7 < W4.heap.size := (Array.getElem?_eq_some_iff.1 e0).1
        have z4 := hW.size
        have hg2 := gr_trans hg4 hW
        refine ⟨⟨c2 _ _ _ H2.out.2.2.2.2.1, c2 _ _ _ H2.out.2.2.2.2.2.1, c2 _ _ _ H2.out.2.2.2.2.2.2.1, c2 _ _ _ H2.out.2.2.2.2.2.2.2.1, c2 _ _ _ H2.out.2.2.2.2.2.2.2.2⟩, ⟨c _ _ _ ?_, c _ _ _ ?_, c _ _ _ ?_, c _ _ _ ?_⟩, by omega, by have := hg4.size; omega, hg2, H2.out.2.2.2.1.2.kept hg2 (fun e => by injection e with e; omega)⟩
        · simp [World.cell?, e0]
        · simp [World.cell?, e0]
        · simp [World.cell?, e0]
        · simp [World.cell?, e0]
      have i0 : (0 : Int) ≤ (j : Int) := by omega
      have i1 : (j : Int) < (n : Int) := by omega
      go_upto_region 5 with fail
      rw [← hW4, ← hb7]
      clear s0 s1 s2 s3
      have H4 : Hid (SSet W4 (w.heap.size + 1) (2 * j) (nodeM 3 s t ((fs.take j).filter (cntB bd lb)) A (fun _ => False))) := HS.out.1.below HW4.out
      clear hW4 hb7 HS
      obtain ⟨⟨x0, x1, x2, x3, x4⟩, ⟨z0, z1, z2, z3⟩, l7, l2, -, -⟩ := HC.out W4 (gr_refl _ _)
      go_wp2_with fail
      refine (counts_any bd lb f W4).mono ?_
      rintro e w5 ⟨rfl, hb5⟩
      have H5 : Hid (SSet w5 (w.heap.size + 1) (2 * j) (nodeM 3 s t ((fs.take j).filter (cntB bd lb)) A (fun _ => False)) ∧ W4.grownBy w5 (some (w.heap.size + 1))) := ⟨H4.out.below hb5, gr_below (gr_refl _ _) hb5⟩
      clear hb5 H4 x0 x1 x2 x3 x4 z0 z1 z2 z3 l7 l2
      obtain ⟨⟨x0, x1, x2, x3, x4⟩, ⟨z0, z1, z2, z3⟩, l7, l2, -, HSX⟩ := HC.out w5 H5.out.2
      have HX5 : Hid (SSet w5 Bx Nx A) := HSX
      clear HSX
      cases hcb : cntB bd lb f with
      | false =>
        have HCB : Hid (¬ cntB bd lb f = true) := fun q => by rw [hcb] at q; cases q
        clear HX5
        have HX : Hid (SSet w5 (w.heap.size + 1) (2 * (j + 1)) (nodeM 3 s t ((fs.take (j + 1)).filter (cntB bd lb)) A (fun _ => False)) ∧ W2.grownBy w5 (some (w.heap.size + 1))) := ⟨H5.out.1.congr (fun x => by rw [HT.out]; rw [if_neg HCB.out, List.append_nil]) (by omega), (HC.out w5 H5.out.2).2.2.2.2.1⟩
        clear H5
        go_wp2
        go_roundw
        case rel => exact ⟨j + 1, by omega, by go_num, HX.out⟩
        case measure => simp [intOf]; omega
      | true =>
        have HCB : Hid (cntB bd lb f = true) := hcb
        by_cases hp : f.p = s
        · have q1 : (f.p.toList == s.toList) = true := str_eq.2 hp
          have HP : Hid (f.p = s) := hp
          clear hp
          go_wp2_with fail
          refine (has_any Bx Nx A f.s w5 HX5.out HSZ.out.1).mono ?_
          rintro e w6 ⟨bq, rfl, hbq, hb6⟩
          have H6 : Hid (SSet w6 (w.heap.size + 1) (2 * j) (nodeM 3 s t ((fs.take j).filter (cntB bd lb)) A (fun _ => False)) ∧ W4.grownBy w6 (some (w.heap.size + 1))) := ⟨H5.out.1.below hb6, gr_below H5.out.2 hb6⟩
          clear hb6 HX5 H5 x0 x1 x2 x3 x4 z0 z1 z2 z3 l7 l2
          obtain ⟨⟨x0, x1, x2, x3, x4⟩, ⟨z0, z1, z2, z3⟩, l7, l2, -, -⟩ := HC.out w6 H6.out.2
          cases bq with
          | true =>
            have HQ : Hid (A f.s) := hbq.1 rfl
            clear hbq
            go_wp2_with fail
            refine (add_any (w.heap.size + 1) (2 * j) _ f.o w6 H6.out.1 (by omega) HSZ.out.2).mono ?_
            rintro e w8 ⟨rfl, hs8, hg8⟩
            have HX : Hid (SSet w8 (w.heap.size + 1) (2 * (j + 1)) (nodeM 3 s t ((fs.take (j + 1)).filter (cntB bd lb)) A (fun _ => False)) ∧ W2.grownBy w8 (some (w.heap.size + 1))) := ⟨hs8.congr (fun x => by rw [HT.out, if_pos HCB.out, nodeM_app (by omega)]; have hq := HQ.out; have hp := HP.out; simp [stepM, hq, hp]) (by omega), (HC.out w8 (gr_trans H6.out.2 hg8)).2.2.2.2.1⟩
            clear hs8 hg8 H6 x0 x1 x2 x3 x4 z0 z1 z2 z3 l7 l2
            go_wp2
            go_roundw
            case rel => exact ⟨j + 1, by omega, by go_num, HX.out⟩
            case measure => simp [intOf]; omega
          | false =>
            have HQ : Hid (¬ A f.s) := fun q => by have := hbq.2 q; cases this
            clear hbq
            have HX : Hid (SSet w6 (w.heap.size + 1) (2 * (j + 1)) (nodeM 3 s t ((fs.take (j + 1)).filter (cntB bd lb)) A (fun _ => False)) ∧ W2.grownBy w6 (some (w.heap.size + 1))) := ⟨H6.out.1.congr (fun x => by rw [HT.out]; rw [if_pos HCB.out, nodeM_app (by omega)]; have hq := HQ.out; simp [stepM, hq]) (by omega), (HC.out w6 H6.out.2).2.2.2.2.1⟩
            clear H6
            go_wp2
            go_roundw
            case rel => exact ⟨j + 1, by omega, by go_num, HX.out⟩
            case measure => simp [intOf]; omega
        · have q1 : (f.p.toList == s.toList) = false := by
            cases hq : (f.p.toList == s.toList) with
            | false => rfl
            | true => exact absurd (str_eq.1 hq) hp
          clear HX5
          have HX : Hid (SSet w5 (w.heap.size + 1) (2 * (j + 1)) (nodeM 3 s t ((fs.take (j + 1)).filter (cntB bd lb)) A (fun _ => False)) ∧ W2.grownBy w5 (some (w.heap.size + 1))) := ⟨H5.out.1.congr (fun x => by rw [HT.out]; rw [if_pos HCB.out, nodeM_app (by omega)]; simp [stepM, hp]) (by omega), (HC.out w5 H5.out.2).2.2.2.2.1⟩
          clear H5
          go_wp2
          go_roundw
          case rel => exact ⟨j + 1, by omega, by go_num, HX.out⟩
          case measure => simp [intOf]; omega
    · have e : j = n := by omega
      subst e
      have HF : Hid (RetS w 600 (nodeM 3 s t (fs.filter (cntB bd lb)) A (fun _ => False)) (.returned (.map (some (w.heap.size + 1)))) wr) := by
        refine ⟨_, rfl, by omega, HS.out.1.congr (fun x => ?_) (by omega), below_gr H2.out.2.1 (by omega) HS.out.2 (by omega)⟩
        rw [HN.out.1, List.take_length]
      clear HS
      go_wp2
      go_ret
      exact HF.out
end Go.Proofs.Ythcclkeeekppmaa

namespace Go.Proofs.Ythcclkeeekppmaa
open Go.RowKit Go.Deep Go.Maps
set_option linter.unusedVariables false
set_option maxRecDepth 100000
set_option linter.unusedSimpArgs false

set_option maxHeartbeats 4000000 in
theorem reached_4 (s t : ByteArray) (bd : Bool) (lb : ByteArray) (aa : Option Addr) (oc cc : Nat) (hh : Int) (fa : Option Addr) (fc : Nat) (fs : List Fc) (Bx Nx : Nat) (A : ByteArray → Prop) (w : World) (hF : RdF w fa fs) (hl : fs.length ≤ 300) (hok : FcOk fs) (hx : SSet w Bx Nx A) :
    Calls Try.prog 66 #[.agg #[.int .i64 4, .string s, .string t, .bool bd, .string lb, .slice aa oc cc, .int .i64 hh], .slice fa fs.length fc, .map (some Bx)] w (RetS w 600 (nodeM 4 s t (fs.filter (cntB bd lb)) A (fun _ => False))) := by
  have hmm := @run_makeMap Try.prog
  obtain ⟨n, hn⟩ : ∃ n, n = fs.length := ⟨_, rfl⟩
  rw [← hn] at hl ⊢
  have HN : Hid (n = fs.length ∧ FcOk fs) := ⟨hn, hok⟩
  have HR : Hid (RdF w fa fs ∧ SSet w Bx Nx A) := ⟨hF, hx⟩
  have hBx : Bx < w.heap.size := hx.lt
  clear hn hF hok hx
  obtain ⟨W2, hW2⟩ : ∃ W2, W2 = (w.alloc (.cells #[.int .i64 4, .string s, .string t, .bool bd, .string lb, .slice aa oc cc, .int .i64 hh] 65)).alloc (.map #[] 0) := ⟨_, rfl⟩
  have H2 : Hid (SSet W2 (w.heap.size + 1) (0) (nodeM 4 s t ([]) A (fun _ => False)) ∧ Below w.heap.size w W2 ∧ W2.heap.size = w.heap.size + 2 ∧ (RdF W2 fa fs ∧ SSet W2 Bx Nx A) ∧ (W2.cell? ⟨w.heap.size, 0, none⟩ = some (.int .i64 4) ∧ W2.cell? ⟨w.heap.size, 1, none⟩ = some (.string s) ∧ W2.cell? ⟨w.heap.size, 2, none⟩ = some (.string t) ∧ W2.cell? ⟨w.heap.size, 3, none⟩ = some (.bool bd) ∧ W2.cell? ⟨w.heap.size, 4, none⟩ = some (.string lb))) := by
    have hb : Below w.heap.size w W2 := by rw [hW2]; exact (below_alloc _ _).alloc (by simp) _
    have h1 := sset_new (w.alloc (.cells #[.int .i64 4, .string s, .string t, .bool bd, .string lb, .slice aa oc cc, .int .i64 hh] 65)) (nodeM 4 s t ([]) A (fun _ => False)) (fun x => nodeM_nil (by omega) s t _ _ x)
    rw [World.size_alloc, ← hW2] at h1
    have hh0 : W2.heap[w.heap.size]? = some (.cells #[.int .i64 4, .string s, .string t, .bool bd, .string lb, .slice aa oc cc, .int .i64 hh] 65) := by
      rw [hW2]
      exact (Below.heap_alloc _ _ _ (by simp)).trans (blk_alloc_new w _)
    refine ⟨h1, hb, by rw [hW2]; simp, ⟨HR.out.1.below hb, HR.out.2.below hb⟩, ?_, ?_, ?_, ?_, ?_⟩ <;> simp [World.cell?, hh0]
  have hz2 := H2.out.2.2.1
  go_enter Try.func66, Try.ntmps66
  go_wp2
  rw [← hW2]
  clear hW2 hmm
  go_loopw [13] (fun i wr => ∃ j : Nat, j ≤ n ∧ i = .int .i64 j ∧ SSet wr (w.heap.size + 1) (2 * j) (nodeM 4 s t ((fs.take j).filter (cntB bd lb)) A (fun _ => False)) ∧ W2.grownBy wr (some (w.heap.size + 1))) (fun i _ => n - (intOf i).toNat)
  case atStart => exact ⟨0, Nat.zero_le _, rfl, H2.out.1, gr_refl _ _⟩
  case round =>
    obtain ⟨j, hj, rfl, hs, hg⟩ := hrel
    have HS : Hid (SSet wr (w.heap.size + 1) (2 * j) (nodeM 4 s t ((fs.take j).filter (cntB bd lb)) A (fun _ => False)) ∧ W2.grownBy wr (some (w.heap.size + 1))) := ⟨hs, hg⟩
    have hzr := hg.size
    clear hs hg
    by_cases hlt : j < n
    · have hjF : j < fs.length := by rw [← HN.out.1]; exact hlt
      obtain ⟨bF, oF, rfl, s0, s1, s2, s3⟩ := (H2.out.1.rdF HS.out.2 H2.out.2.2.2.1.1).at hjF
      obtain ⟨f, hf⟩ : ∃ f, f = fs[j] := ⟨_, rfl⟩
      rw [← hf] at s0 s1 s2 s3
      have HSZ : Hid (f.s.size ≤ maxLen ∧ f.o.size ≤ maxLen) := HN.out.2 f (by rw [hf]; exact List.getElem_mem hjF)
      have HT : Hid ((fs.take (j + 1)).filter (cntB bd lb) = (fs.take j).filter (cntB bd lb) ++ (if cntB bd lb f = true then [f] else [])) := take_filter _ (by rw [List.getElem?_eq_getElem hjF, hf])
      clear hf hjF
      obtain ⟨W4, hW4⟩ : ∃ W4, W4 = wr.alloc (.cells #[.string f.s, .string f.p, .string f.o, .string f.g] 38) := ⟨_, rfl⟩
      obtain ⟨b7, hb7⟩ : ∃ b7, b7 = wr.heap.size := ⟨_, rfl⟩
      have HW4 : Hid (Below wr.heap.size wr W4) := by rw [hW4]; exact below_alloc _ _
      have HC : Hid (∀ W, W4.grownBy W (some (w.heap.size + 1)) → (W.cell? ⟨w.heap.size, 0, none⟩ = some (.int .i64 4) ∧ W.cell? ⟨w.heap.size, 1, none⟩ = some (.string s) ∧ W.cell? ⟨w.heap.size, 2, none⟩ = some (.string t) ∧ W.cell? ⟨w.heap.size, 3, none⟩ = some (.bool bd) ∧ W.cell? ⟨w.heap.size, 4, none⟩ = some (.string lb)) ∧ (W.cell? ⟨b7, 0, none⟩ = some (.string f.s) ∧ W.cell? ⟨b7, 1, none⟩ = some (.string f.p) ∧ W.cell? ⟨b7, 2, none⟩ = some (.string f.o) ∧ W.cell? ⟨b7, 3, none⟩ = some (.string f.g)) ∧ b7 < W.heap.size ∧ w.heap.size < W.heap.size ∧ W2.grownBy W (some (w.heap.size + 1)) ∧ SSet W Bx Nx A) := fun W hW => by
        have hS4 := HS.out.1.below HW4.out
        have hg4 : W2.grownBy W4 (some (w.heap.size + 1)) := gr_below HS.out.2 HW4.out
        have e0 : W4.heap[b7]? = some (.cells #[.string f.s, .string f.p, .string f.o, .string f.g] 38) := by
          rw [hW4, hb7]
          exact blk_alloc_new wr _
        have c : ∀ (b o : Nat) (v : Value), W4.cell? ⟨b, o, none⟩ = some v → W.cell? ⟨b, o, none⟩ = some v := fun b o v q => hS4.cell hW q
        have c2 : ∀ (b o : Nat) (v : Value), W2.cell? ⟨b, o, none⟩ = some v → W.cell? ⟨b, o, none⟩ = some v := fun b o v q => c _ _ _ (H2.out.1.cell hg4 q)
        have zz : b7 < W4.heap.size := (Array.getElem?_eq_some_iff.1 e0).1
        have z4 := hW.size
        have hg2 := gr_trans hg4 hW
        refine ⟨⟨c2 _ _ _ H2.out.2.2.2.2.1, c2 _ _ _ H2.out.2.2.2.2.2.1, c2 _ _ _ H2.out.2.2.2.2.2.2.1, c2 _ _ _ H2.out.2.2.2.2.2.2.2.1, c2 _ _ _ H2.out.2.2.2.2.2.2.2.2⟩, ⟨c _ _ _ ?_, c _ _ _ ?_, c _ _ _ ?_, c _ _ _ ?_⟩, by omega, by have := hg4.size; omega, hg2, H2.out.2.2.2.1.2.kept hg2 (fun e => by injection e with e; omega)⟩
        · simp [World.cell?, e0]
        · simp [World.cell?, e0]
        · simp [World.cell?, e0]
        · simp [World.cell?, e0]
      have i0 : (0 : Int) ≤ (j : Int) := by omega
      have i1 : (j : Int) < (n : Int) := by omega
      go_upto_region 5 with fail
      rw [← hW4, ← hb7]
      clear s0 s1 s2 s3
      have H4 : Hid (SSet W4 (w.heap.size + 1) (2 * j) (nodeM 4 s t ((fs.take j).filter (cntB bd lb)) A (fun _ => False))) := HS.out.1.below HW4.out
      clear hW4 hb7 HS
      obtain ⟨⟨x0, x1, x2, x3, x4⟩, ⟨z0, z1, z2, z3⟩, l7, l2, -, -⟩ := HC.out W4 (gr_refl _ _)
      go_wp2_with fail
      refine (counts_any bd lb f W4).mono ?_
      rintro e w5 ⟨rfl, hb5⟩
      have H5 : Hid (SSet w5 (w.heap.size + 1) (2 * j) (nodeM 4 s t ((fs.take j).filter (cntB bd lb)) A (fun _ => False)) ∧ W4.grownBy w5 (some (w.heap.size + 1))) := ⟨H4.out.below hb5, gr_below (gr_refl _ _) hb5⟩
      clear hb5 H4 x0 x1 x2 x3 x4 z0 z1 z2 z3 l7 l2
      obtain ⟨⟨x0, x1, x2, x3, x4⟩, ⟨z0, z1, z2, z3⟩, l7, l2, -, HSX⟩ := HC.out w5 H5.out.2
      have HX5 : Hid (SSet w5 Bx Nx A) := HSX
      clear HSX
      cases hcb : cntB bd lb f with
      | false =>
        have HCB : Hid (¬ cntB bd lb f = true) := fun q => by rw [hcb] at q; cases q
        clear HX5
        have HX : Hid (SSet w5 (w.heap.size + 1) (2 * (j + 1)) (nodeM 4 s t ((fs.take (j + 1)).filter (cntB bd lb)) A (fun _ => False)) ∧ W2.grownBy w5 (some (w.heap.size + 1))) := ⟨H5.out.1.congr (fun x => by rw [HT.out]; rw [if_neg HCB.out, List.append_nil]) (by omega), (HC.out w5 H5.out.2).2.2.2.2.1⟩
        clear H5
        go_wp2
        go_roundw
        case rel => exact ⟨j + 1, by omega, by go_num, HX.out⟩
        case measure => simp [intOf]; omega
      | true =>
        have HCB : Hid (cntB bd lb f = true) := hcb
        by_cases hp : f.p = s
        · have q1 : (f.p.toList == s.toList) = true := str_eq.2 hp
          have HP : Hid (f.p = s) := hp
          clear hp
          go_wp2_with fail
          refine (has_any Bx Nx A f.o w5 HX5.out HSZ.out.2).mono ?_
          rintro e w6 ⟨bq, rfl, hbq, hb6⟩
          have H6 : Hid (SSet w6 (w.heap.size + 1) (2 * j) (nodeM 4 s t ((fs.take j).filter (cntB bd lb)) A (fun _ => False)) ∧ W4.grownBy w6 (some (w.heap.size + 1))) := ⟨H5.out.1.below hb6, gr_below H5.out.2 hb6⟩
          clear hb6 HX5 H5 x0 x1 x2 x3 x4 z0 z1 z2 z3 l7 l2
          obtain ⟨⟨x0, x1, x2, x3, x4⟩, ⟨z0, z1, z2, z3⟩, l7, l2, -, -⟩ := HC.out w6 H6.out.2
          cases bq with
          | true =>
            have HQ : Hid (A f.o) := hbq.1 rfl
            clear hbq
            go_wp2_with fail
            refine (add_any (w.heap.size + 1) (2 * j) _ f.s w6 H6.out.1 (by omega) HSZ.out.1).mono ?_
            rintro e w8 ⟨rfl, hs8, hg8⟩
            have HX : Hid (SSet w8 (w.heap.size + 1) (2 * (j + 1)) (nodeM 4 s t ((fs.take (j + 1)).filter (cntB bd lb)) A (fun _ => False)) ∧ W2.grownBy w8 (some (w.heap.size + 1))) := ⟨hs8.congr (fun x => by rw [HT.out, if_pos HCB.out, nodeM_app (by omega)]; have hq := HQ.out; have hp := HP.out; simp [stepM, hq, hp]) (by omega), (HC.out w8 (gr_trans H6.out.2 hg8)).2.2.2.2.1⟩
            clear hs8 hg8 H6 x0 x1 x2 x3 x4 z0 z1 z2 z3 l7 l2
            go_wp2
            go_roundw
            case rel => exact ⟨j + 1, by omega, by go_num, HX.out⟩
            case measure => simp [intOf]; omega
          | false =>
            have HQ : Hid (¬ A f.o) := fun q => by have := hbq.2 q; cases this
            clear hbq
            have HX : Hid (SSet w6 (w.heap.size + 1) (2 * (j + 1)) (nodeM 4 s t ((fs.take (j + 1)).filter (cntB bd lb)) A (fun _ => False)) ∧ W2.grownBy w6 (some (w.heap.size + 1))) := ⟨H6.out.1.congr (fun x => by rw [HT.out]; rw [if_pos HCB.out, nodeM_app (by omega)]; have hq := HQ.out; simp [stepM, hq]) (by omega), (HC.out w6 H6.out.2).2.2.2.2.1⟩
            clear H6
            go_wp2
            go_roundw
            case rel => exact ⟨j + 1, by omega, by go_num, HX.out⟩
            case measure => simp [intOf]; omega
        · have q1 : (f.p.toList == s.toList) = false := by
            cases hq : (f.p.toList == s.toList) with
            | false => rfl
            | true => exact absurd (str_eq.1 hq) hp
          clear HX5
          have HX : Hid (SSet w5 (w.heap.size + 1) (2 * (j + 1)) (nodeM 4 s t ((fs.take (j + 1)).filter (cntB bd lb)) A (fun _ => False)) ∧ W2.grownBy w5 (some (w.heap.size + 1))) := ⟨H5.out.1.congr (fun x => by rw [HT.out]; rw [if_pos HCB.out, nodeM_app (by omega)]; simp [stepM, hp]) (by omega), (HC.out w5 H5.out.2).2.2.2.2.1⟩
          clear H5
          go_wp2
          go_roundw
          case rel => exact ⟨j + 1, by omega, by go_num, HX.out⟩
          case measure => simp [intOf]; omega
    · have e : j = n := by omega
      subst e
      have HF : Hid (RetS w 600 (nodeM 4 s t (fs.filter (cntB bd lb)) A (fun _ => False)) (.returned (.map (some (w.heap.size + 1)))) wr) := by
        refine ⟨_, rfl, by omega, HS.out.1.congr (fun x => ?_) (by omega), below_gr H2.out.2.1 (by omega) HS.out.2 (by omega)⟩
        rw [HN.out.1, List.take_length]
      clear HS
      go_wp2
      go_ret
      exact HF.out
end Go.Proofs.Ythcclkeeekppmaa

namespace Go.Proofs.Ythcclkeeekppmaa
open Go.RowKit Go.Deep Go.Maps
set_option linter.unusedVariables false
set_option maxRecDepth 100000
set_option linter.unusedSimpArgs false

set_option maxHeartbeats 4000000 in
theorem reached_5 (s t : ByteArray) (bd : Bool) (lb : ByteArray) (aa : Option Addr) (oc cc : Nat) (hh : Int) (fa : Option Addr) (fc : Nat) (fs : List Fc) (Bx Nx : Nat) (A : ByteArray → Prop) (w : World) (hF : RdF w fa fs) (hl : fs.length ≤ 300) (hok : FcOk fs) (hx : SSet w Bx Nx A) :
    Calls Try.prog 66 #[.agg #[.int .i64 5, .string s, .string t, .bool bd, .string lb, .slice aa oc cc, .int .i64 hh], .slice fa fs.length fc, .map (some Bx)] w (RetS w 600 (nodeM 5 s t (fs.filter (cntB bd lb)) A (fun _ => False))) := by
  have hmm := @run_makeMap Try.prog
  obtain ⟨n, hn⟩ : ∃ n, n = fs.length := ⟨_, rfl⟩
  rw [← hn] at hl ⊢
  have HN : Hid (n = fs.length ∧ FcOk fs) := ⟨hn, hok⟩
  have HR : Hid (RdF w fa fs ∧ SSet w Bx Nx A) := ⟨hF, hx⟩
  have hBx : Bx < w.heap.size := hx.lt
  clear hn hF hok hx
  obtain ⟨W2, hW2⟩ : ∃ W2, W2 = (w.alloc (.cells #[.int .i64 5, .string s, .string t, .bool bd, .string lb, .slice aa oc cc, .int .i64 hh] 65)).alloc (.map #[] 0) := ⟨_, rfl⟩
  have H2 : Hid (SSet W2 (w.heap.size + 1) (0) (nodeM 5 s t ([]) A (fun _ => False)) ∧ Below w.heap.size w W2 ∧ W2.heap.size = w.heap.size + 2 ∧ (RdF W2 fa fs ∧ SSet W2 Bx Nx A) ∧ (W2.cell? ⟨w.heap.size, 0, none⟩ = some (.int .i64 5) ∧ W2.cell? ⟨w.heap.size, 1, none⟩ = some (.string s) ∧ W2.cell? ⟨w.heap.size, 2, none⟩ = some (.string t) ∧ W2.cell? ⟨w.heap.size, 3, none⟩ = some (.bool bd) ∧ W2.cell? ⟨w.heap.size, 4, none⟩ = some (.string lb))) := by
    have hb : Below w.heap.size w W2 := by rw [hW2]; exact (below_alloc _ _).alloc (by simp) _
    have h1 := sset_new (w.alloc (.cells #[.int .i64 5, .string s, .string t, .bool bd, .string lb, .slice aa oc cc, .int .i64 hh] 65)) (nodeM 5 s t ([]) A (fun _ => False)) (fun x => nodeM_nil (by omega) s t _ _ x)
    rw [World.size_alloc, ← hW2] at h1
    have hh0 : W2.heap[w.heap.size]? = some (.cells #[.int .i64 5, .string s, .string t, .bool bd, .string lb, .slice aa oc cc, .int .i64 hh] 65) := by
      rw [hW2]
      exact (Below.heap_alloc _ _ _ (by simp)).trans (blk_alloc_new w _)
    refine ⟨h1, hb, by rw [hW2]; simp, ⟨HR.out.1.below hb, HR.out.2.below hb⟩, ?_, ?_, ?_, ?_, ?_⟩ <;> simp [World.cell?, hh0]
  have hz2 := H2.out.2.2.1
  go_enter Try.func66, Try.ntmps66
  go_wp2
  rw [← hW2]
  clear hW2 hmm
  go_loopw [13] (fun i wr => ∃ j : Nat, j ≤ n ∧ i = .int .i64 j ∧ SSet wr (w.heap.size + 1) (2 * j) (nodeM 5 s t ((fs.take j).filter (cntB bd lb)) A (fun _ => False)) ∧ W2.grownBy wr (some (w.heap.size + 1))) (fun i _ => n - (intOf i).toNat)
  case atStart => exact ⟨0, Nat.zero_le _, rfl, H2.out.1, gr_refl _ _⟩
  case round =>
    obtain ⟨j, hj, rfl, hs, hg⟩ := hrel
    have HS : Hid (SSet wr (w.heap.size + 1) (2 * j) (nodeM 5 s t ((fs.take j).filter (cntB bd lb)) A (fun _ => False)) ∧ W2.grownBy wr (some (w.heap.size + 1))) := ⟨hs, hg⟩
    have hzr := hg.size
    clear hs hg
    by_cases hlt : j < n
    · have hjF : j < fs.length := by rw [← HN.out.1]; exact hlt
      obtain ⟨bF, oF, rfl, s0, s1, s2, s3⟩ := (H2.out.1.rdF HS.out.2 H2.out.2.2.2.1.1).at hjF
      obtain ⟨f, hf⟩ : ∃ f, f = fs[j] := ⟨_, rfl⟩
      rw [← hf] at s0 s1 s2 s3
      have HSZ : Hid (f.s.size ≤ maxLen ∧ f.o.size ≤ maxLen) := HN.out.2 f (by rw [hf]; exact List.getElem_mem hjF)
      have HT : Hid ((fs.take (j + 1)).filter (cntB bd lb) = (fs.take j).filter (cntB bd lb) ++ (if cntB bd lb f = true then [f] else [])) := take_filter _ (by rw [List.getElem?_eq_getElem hjF, hf])
      clear hf hjF
      obtain ⟨W4, hW4⟩ : ∃ W4, W4 = wr.alloc (.cells #[.string f.s, .string f.p, .string f.o, .string f.g] 38) := ⟨_, rfl⟩
      obtain ⟨b7, hb7⟩ : ∃ b7, b7 = wr.heap.size := ⟨_, rfl⟩
      have HW4 : Hid (Below wr.heap.size wr W4) := by rw [hW4]; exact below_alloc _ _
      have HC : Hid (∀ W, W4.grownBy W (some (w.heap.size + 1)) → (W.cell? ⟨w.heap.size, 0, none⟩ = some (.int .i64 5) ∧ W.cell? ⟨w.heap.size, 1, none⟩ = some (.string s) ∧ W.cell? ⟨w.heap.size, 2, none⟩ = some (.string t) ∧ W.cell? ⟨w.heap.size, 3, none⟩ = some (.bool bd) ∧ W.cell? ⟨w.heap.size, 4, none⟩ = some (.string lb)) ∧ (W.cell? ⟨b7, 0, none⟩ = some (.string f.s) ∧ W.cell? ⟨b7, 1, none⟩ = some (.string f.p) ∧ W.cell? ⟨b7, 2, none⟩ = some (.string f.o) ∧ W.cell? ⟨b7, 3, none⟩ = some (.string f.g)) ∧ b7 < W.heap.size ∧ w.heap.size < W.heap.size ∧ W2.grownBy W (some (w.heap.size + 1)) ∧ SSet W Bx Nx A) := fun W hW => by
        have hS4 := HS.out.1.below HW4.out
        have hg4 : W2.grownBy W4 (some (w.heap.size + 1)) := gr_below HS.out.2 HW4.out
        have e0 : W4.heap[b7]? = some (.cells #[.string f.s, .string f.p, .string f.o, .string f.g] 38) := by
          rw [hW4, hb7]
          exact blk_alloc_new wr _
        have c : ∀ (b o : Nat) (v : Value), W4.cell? ⟨b, o, none⟩ = some v → W.cell? ⟨b, o, none⟩ = some v := fun b o v q => hS4.cell hW q
        have c2 : ∀ (b o : Nat) (v : Value), W2.cell? ⟨b, o, none⟩ = some v → W.cell? ⟨b, o, none⟩ = some v := fun b o v q => c _ _ _ (H2.out.1.cell hg4 q)
        have zz : b7 < W4.heap.size := (Array.getElem?_eq_some_iff.1 e0).1
        have z4 := hW.size
        have hg2 := gr_trans hg4 hW
        refine ⟨⟨c2 _ _ _ H2.out.2.2.2.2.1, c2 _ _ _ H2.out.2.2.2.2.2.1, c2 _ _ _ H2.out.2.2.2.2.2.2.1, c2 _ _ _ H2.out.2.2.2.2.2.2.2.1, c2 _ _ _ H2.out.2.2.2.2.2.2.2.2⟩, ⟨c _ _ _ ?_, c _ _ _ ?_, c _ _ _ ?_, c _ _ _ ?_⟩, by omega, by have := hg4.size; omega, hg2, H2.out.2.2.2.1.2.kept hg2 (fun e => by injection e with e; omega)⟩
        · simp [World.cell?, e0]
        · simp [World.cell?, e0]
        · simp [World.cell?, e0]
        · simp [World.cell?, e0]
      have i0 : (0 : Int) ≤ (j : Int) := by omega
      have i1 : (j : Int) < (n : Int) := by omega
      go_upto_region 5 with fail
      rw [← hW4, ← hb7]
      clear s0 s1 s2 s3
      have H4 : Hid (SSet W4 (w.heap.size + 1) (2 * j) (nodeM 5 s t ((fs.take j).filter (cntB bd lb)) A (fun _ => False))) := HS.out.1.below HW4.out
      clear hW4 hb7 HS
      obtain ⟨⟨x0, x1, x2, x3, x4⟩, ⟨z0, z1, z2, z3⟩, l7, l2, -, -⟩ := HC.out W4 (gr_refl _ _)
      go_wp2_with fail
      refine (counts_any bd lb f W4).mono ?_
      rintro e w5 ⟨rfl, hb5⟩
      have H5 : Hid (SSet w5 (w.heap.size + 1) (2 * j) (nodeM 5 s t ((fs.take j).filter (cntB bd lb)) A (fun _ => False)) ∧ W4.grownBy w5 (some (w.heap.size + 1))) := ⟨H4.out.below hb5, gr_below (gr_refl _ _) hb5⟩
      clear hb5 H4 x0 x1 x2 x3 x4 z0 z1 z2 z3 l7 l2
      obtain ⟨⟨x0, x1, x2, x3, x4⟩, ⟨z0, z1, z2, z3⟩, l7, l2, -, HSX⟩ := HC.out w5 H5.out.2
      have HX5 : Hid (SSet w5 Bx Nx A) := HSX
      clear HSX
      cases hcb : cntB bd lb f with
      | false =>
        have HCB : Hid (¬ cntB bd lb f = true) := fun q => by rw [hcb] at q; cases q
        clear HX5
        have HX : Hid (SSet w5 (w.heap.size + 1) (2 * (j + 1)) (nodeM 5 s t ((fs.take (j + 1)).filter (cntB bd lb)) A (fun _ => False)) ∧ W2.grownBy w5 (some (w.heap.size + 1))) := ⟨H5.out.1.congr (fun x => by rw [HT.out]; rw [if_neg HCB.out, List.append_nil]) (by omega), (HC.out w5 H5.out.2).2.2.2.2.1⟩
        clear H5
        go_wp2
        go_roundw
        case rel => exact ⟨j + 1, by omega, by go_num, HX.out⟩
        case measure => simp [intOf]; omega
      | true =>
        have HCB : Hid (cntB bd lb f = true) := hcb
        by_cases hp : f.p = s
        · have q1 : (f.p.toList == s.toList) = true := str_eq.2 hp
          have HP : Hid (f.p = s) := hp
          clear hp
          by_cases ht : f.o = t
          · have q2 : (f.o.toList == t.toList) = true := str_eq.2 ht
            have HTT : Hid (f.o = t) := ht
            clear ht
            go_wp2_with fail
            refine (has_any Bx Nx A f.s w5 HX5.out HSZ.out.1).mono ?_
            rintro e w6 ⟨bq, rfl, hbq, hb6⟩
            have H6 : Hid (SSet w6 (w.heap.size + 1) (2 * j) (nodeM 5 s t ((fs.take j).filter (cntB bd lb)) A (fun _ => False)) ∧ W4.grownBy w6 (some (w.heap.size + 1))) := ⟨H5.out.1.below hb6, gr_below H5.out.2 hb6⟩
            clear hb6 HX5 H5 x0 x1 x2 x3 x4 z0 z1 z2 z3 l7 l2
            obtain ⟨⟨x0, x1, x2, x3, x4⟩, ⟨z0, z1, z2, z3⟩, l7, l2, -, -⟩ := HC.out w6 H6.out.2
            cases bq with
            | true =>
              have HQ : Hid (A f.s) := hbq.1 rfl
              clear hbq
              go_wp2_with fail
              refine (add_any (w.heap.size + 1) (2 * j) _ f.s w6 H6.out.1 (by omega) HSZ.out.1).mono ?_
              rintro e w8 ⟨rfl, hs8, hg8⟩
              have HX : Hid (SSet w8 (w.heap.size + 1) (2 * (j + 1)) (nodeM 5 s t ((fs.take (j + 1)).filter (cntB bd lb)) A (fun _ => False)) ∧ W2.grownBy w8 (some (w.heap.size + 1))) := ⟨hs8.congr (fun x => by rw [HT.out, if_pos HCB.out, nodeM_app (by omega)]; have hq := HQ.out; have hp := HP.out; have ht := HTT.out; simp [stepM, hq, hp, ht]) (by omega), (HC.out w8 (gr_trans H6.out.2 hg8)).2.2.2.2.1⟩
              clear hs8 hg8 H6 x0 x1 x2 x3 x4 z0 z1 z2 z3 l7 l2
              go_wp2
              go_roundw
              case rel => exact ⟨j + 1, by omega, by go_num, HX.out⟩
              case measure => simp [intOf]; omega
            | false =>
              have HQ : Hid (¬ A f.s) := fun q => by have := hbq.2 q; cases this
              clear hbq
              have HX : Hid (SSet w6 (w.heap.size + 1) (2 * (j + 1)) (nodeM 5 s t ((fs.take (j + 1)).filter (cntB bd lb)) A (fun _ => False)) ∧ W2.grownBy w6 (some (w.heap.size + 1))) := ⟨H6.out.1.congr (fun x => by rw [HT.out]; rw [if_pos HCB.out, nodeM_app (by omega)]; have hq := HQ.out; simp [stepM, hq]) (by omega), (HC.out w6 H6.out.2).2.2.2.2.1⟩
              clear H6
              go_wp2
              go_roundw
              case rel => exact ⟨j + 1, by omega, by go_num, HX.out⟩
              case measure => simp [intOf]; omega
          · have q2 : (f.o.toList == t.toList) = false := by
              cases hq : (f.o.toList == t.toList) with
              | false => rfl
              | true => exact absurd (str_eq.1 hq) ht
            clear HX5
            have HX : Hid (SSet w5 (w.heap.size + 1) (2 * (j + 1)) (nodeM 5 s t ((fs.take (j + 1)).filter (cntB bd lb)) A (fun _ => False)) ∧ W2.grownBy w5 (some (w.heap.size + 1))) := ⟨H5.out.1.congr (fun x => by rw [HT.out]; rw [if_pos HCB.out, nodeM_app (by omega)]; simp [stepM, ht]) (by omega), (HC.out w5 H5.out.2).2.2.2.2.1⟩
            clear H5
            go_wp2
            go_roundw
            case rel => exact ⟨j + 1, by omega, by go_num, HX.out⟩
            case measure => simp [intOf]; omega
        · have q1 : (f.p.toList == s.toList) = false := by
            cases hq : (f.p.toList == s.toList) with
            | false => rfl
            | true => exact absurd (str_eq.1 hq) hp
          clear HX5
          have HX : Hid (SSet w5 (w.heap.size + 1) (2 * (j + 1)) (nodeM 5 s t ((fs.take (j + 1)).filter (cntB bd lb)) A (fun _ => False)) ∧ W2.grownBy w5 (some (w.heap.size + 1))) := ⟨H5.out.1.congr (fun x => by rw [HT.out]; rw [if_pos HCB.out, nodeM_app (by omega)]; simp [stepM, hp]) (by omega), (HC.out w5 H5.out.2).2.2.2.2.1⟩
          clear H5
          go_wp2
          go_roundw
          case rel => exact ⟨j + 1, by omega, by go_num, HX.out⟩
          case measure => simp [intOf]; omega
    · have e : j = n := by omega
      subst e
      have HF : Hid (RetS w 600 (nodeM 5 s t (fs.filter (cntB bd lb)) A (fun _ => False)) (.returned (.map (some (w.heap.size + 1)))) wr) := by
        refine ⟨_, rfl, by omega, HS.out.1.congr (fun x => ?_) (by omega), below_gr H2.out.2.1 (by omega) HS.out.2 (by omega)⟩
        rw [HN.out.1, List.take_length]
      clear HS
      go_wp2
      go_ret
      exact HF.out
end Go.Proofs.Ythcclkeeekppmaa
