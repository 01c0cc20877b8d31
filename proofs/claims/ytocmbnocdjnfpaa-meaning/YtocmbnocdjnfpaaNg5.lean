import Derived.Test.YtocmbnocdjnfpaaNg2
import Derived.Deep.RegionHeld3
import Derived.Deep.CutBlock
namespace Go.Proofs.Ytocmbnocdjnfpaa
open Go.RowKit Go.Deep Go.Maps
set_option linter.unusedVariables false
set_option maxRecDepth 100000
set_option linter.unusedSimpArgs false

set_option maxHeartbeats 4000000 in
theorem reached_4 (s t : ByteArray) (bd : Bool) (lb : ByteArray) (aa : Option Addr) (oc cc : Nat) (hh : Int) (fa : Option Addr) (fc : Nat) (fs : List Fc) (Bx Nx : Nat) (A : ByteArray → Prop) (w : World) (hF : RdF w fa fs) (hl : fs.length ≤ 300) (hok : FcOk fs) (hx : SSet w Bx Nx A) :
    Calls Try.prog 118 #[.agg #[.int .i64 4, .string s, .string t, .bool bd, .string lb, .slice aa oc cc, .int .i64 hh], .slice fa fs.length fc, .map (some Bx)] w (RetS w 600 (nodeM 4 s t (fs.filter (cntB bd lb)) A (fun _ => False))) := by
  have hmm := @run_makeMap Try.prog
  obtain ⟨n, hn⟩ : ∃ n, n = fs.length := ⟨_, rfl⟩
  rw [← hn] at hl ⊢
  have HN : Hid (n = fs.length ∧ FcOk fs) := ⟨hn, hok⟩
  have HR : Hid (RdF w fa fs ∧ SSet w Bx Nx A) := ⟨hF, hx⟩
  have hBx : Bx < w.heap.size := hx.lt
  clear hn hF hok hx
  obtain ⟨W2, hW2⟩ : ∃ W2, W2 = (w.alloc (.cells #[.int .i64 4, .string s, .string t, .bool bd, .string lb, .slice aa oc cc, .int .i64 hh] 73)).alloc (.map #[] 0) := ⟨_, rfl⟩
  have H2 : Hid (SSet W2 (w.heap.size + 1) (0) (nodeM 4 s t ([]) A (fun _ => False)) ∧ Below w.heap.size w W2 ∧ W2.heap.size = w.heap.size + 2 ∧ (RdF W2 fa fs ∧ SSet W2 Bx Nx A) ∧ (W2.cell? ⟨w.heap.size, 0, none⟩ = some (.int .i64 4) ∧ W2.cell? ⟨w.heap.size, 1, none⟩ = some (.string s) ∧ W2.cell? ⟨w.heap.size, 2, none⟩ = some (.string t) ∧ W2.cell? ⟨w.heap.size, 3, none⟩ = some (.bool bd) ∧ W2.cell? ⟨w.heap.size, 4, none⟩ = some (.string lb))) := by
    have hb : Below w.heap.size w W2 := by rw [hW2]; exact (below_alloc _ _).alloc (by simp) _
    have h1 := sset_new (w.alloc (.cells #[.int .i64 4, .string s, .string t, .bool bd, .string lb, .slice aa oc cc, .int .i64 hh] 73)) (nodeM 4 s t ([]) A (fun _ => False)) (fun x => nodeM_nil (by omega) s t _ _ x)
    rw [World.size_alloc, ← hW2] at h1
    have hh0 : W2.heap[w.heap.size]? = some (.cells #[.int .i64 4, .string s, .string t, .bool bd, .string lb, .slice aa oc cc, .int .i64 hh] 73) := by
      rw [hW2]
      exact (Below.heap_alloc _ _ _ (by simp)).trans (blk_alloc_new w _)
    refine ⟨h1, hb, by rw [hW2]; simp, ⟨HR.out.1.below hb, HR.out.2.below hb⟩, ?_, ?_, ?_, ?_, ?_⟩ <;> simp [World.cell?, hh0]
  have hz2 := H2.out.2.2.1
  go_enter Try.func118, Try.ntmps118
  go_wp2
  rw [← hW2]
  clear hW2 hmm
  go_loopw [13] (fun i wr => ∃ j : Nat, j ≤ n ∧ i = .int .i64 j ∧ SSet wr (w.heap.size + 1) (2 * j) (nodeM 4 s t ((fs.take j).filter (cntB bd lb)) A (fun _ => False)) ∧ W2.grownBy wr (some (w.heap.size + 1))) (fun i _ => n - (intOf i).toNat)
  case atStart => exact ⟨0, Nat.zero_le _, rfl, H2.out.1, gr_refl _ _⟩
  case round =>
    obtain ⟨j, hj, rfl, hs, hg⟩ := hrel
    have HS : Hid (SSet wr (w.heap.size + 1) (2 * j) (nodeM 4 s t ((fs.take j).filter (cntB bd lb)) A (fun _ => False)) ∧ W2.grownBy wr (some (w.heap.size + 1))) := ⟨hs, hg⟩
    have hzr := hg.size
    clear hs hg
    by_cases hlt : j < n
    · have hjF : j < fs.length := by rw [← HN.out.1]; exact hlt
      obtain ⟨bF, oF, rfl, s0, s1, s2, s3⟩ := (H2.out.1.rdF HS.out.2 H2.out.2.2.2.1.1).at hjF
      obtain ⟨f, hf⟩ : ∃ f, f = fs[j] := ⟨_, rfl⟩
      rw [← hf] at s0 s1 s2 s3
      have HSZ : Hid (f.s.size ≤ maxLen ∧ f.o.size ≤ maxLen) := HN.out.2 f (by rw [hf]; exact List.getElem_mem hjF)
      have HT : Hid ((fs.take (j + 1)).filter (cntB bd lb) = (fs.take j).filter (cntB bd lb) ++ (if cntB bd lb f = true then [f] else [])) := take_filter _ (by rw [List.getElem?_eq_getElem hjF, hf])
      clear hf hjF
      obtain ⟨W4, hW4⟩ : ∃ W4, W4 = wr.alloc (.cells #[.string f.s, .string f.p, .string f.o, .string f.g] 98) := ⟨_, rfl⟩
      obtain ⟨b7, hb7⟩ : ∃ b7, b7 = wr.heap.size := ⟨_, rfl⟩
      have HW4 : Hid (Below wr.heap.size wr W4) := by rw [hW4]; exact below_alloc _ _
      have HC : Hid (∀ W, W4.grownBy W (some (w.heap.size + 1)) → (W.cell? ⟨w.heap.size, 0, none⟩ = some (.int .i64 4) ∧ W.cell? ⟨w.heap.size, 1, none⟩ = some (.string s) ∧ W.cell? ⟨w.heap.size, 2, none⟩ = some (.string t) ∧ W.cell? ⟨w.heap.size, 3, none⟩ = some (.bool bd) ∧ W.cell? ⟨w.heap.size, 4, none⟩ = some (.string lb)) ∧ (W.cell? ⟨b7, 0, none⟩ = some (.string f.s) ∧ W.cell? ⟨b7, 1, none⟩ = some (.string f.p) ∧ W.cell? ⟨b7, 2, none⟩ = some (.string f.o) ∧ W.cell? ⟨b7, 3, none⟩ = some (.string f.g)) ∧ b7 < W.heap.size ∧ w.heap.size < W.heap.size ∧ W2.grownBy W (some (w.heap.size + 1)) ∧ SSet W Bx Nx A) := fun W hW => by
        have hS4 := HS.out.1.below HW4.out
        have hg4 : W2.grownBy W4 (some (w.heap.size + 1)) := gr_below HS.out.2 HW4.out
        have e0 : W4.heap[b7]? = some (.cells #[.string f.s, .string f.p, .string f.o, .string f.g] 98) := by
          rw [hW4, hb7]
          exact blk_alloc_new wr _
        have c : ∀ (b o : Nat) (v : Value), W4.cell? ⟨b, o, none⟩ = some v → W.cell? ⟨b, o, none⟩ = some v := fun b o v q => hS4.cell hW q
        have c2 : ∀ (b o : Nat) (v : Value), W2.cell? ⟨b, o, none⟩ = some v → W.cell? ⟨b, o, none⟩ = some v := fun b o v q => c _ _ _ (H2.out.1.cell hg4 q)
        have zz : b7 < W4.heap.size := (Array.getElem?_eq_some_iff.1 e0).1
        have z4 := hW.size
        have hg2 := gr_trans hg4 hW
        refine ⟨⟨c2 _ _ _ H2.out.2.2.2.2.1, c2 _ _ _ H2.out.2.2.2.2.2.1, c2 _ _ _ H2.out.2.2.2.2.2.2.1, c2 _ _ _ H2.out.2.2.2.2.2.2.2.1, c2 _ _ _ H2.out.2.2.2.2.2.2.2.2⟩, ⟨c _ _ _ ?_, c _ _ _ ?_, c _ _ _ ?_, c _ _ _ ?_⟩, by omega, by have := hg4.size; omega, hg2, H2.out.2.2.2.1.2.kept hg2 (fun e => by injection e with e; omega)⟩
        · simp [World.cell?, e0]
        · simp [World.cell?, e0]
        · simp [World.cell?, e0]
        · simp [World.cell?, e0]
      have i0 : (0 : Int) ≤ (j : Int) := by omega
      have i1 : (j : Int) < (n : Int) := by omega
      go_upto_region 5 with fail
      rw [← hW4, ← hb7]
      clear s0 s1 s2 s3
      have H4 : Hid (SSet W4 (w.heap.size + 1) (2 * j) (nodeM 4 s t ((fs.take j).filter (cntB bd lb)) A (fun _ => False))) := HS.out.1.below HW4.out
      clear hW4 hb7 HS
      obtain ⟨⟨x0, x1, x2, x3, x4⟩, ⟨z0, z1, z2, z3⟩, l7, l2, -, -⟩ := HC.out W4 (gr_refl _ _)
      go_wp2_with fail
      refine (counts_any bd lb f W4).mono ?_
      rintro e w5 ⟨rfl, hb5⟩
      have H5 : Hid (SSet w5 (w.heap.size + 1) (2 * j) (nodeM 4 s t ((fs.take j).filter (cntB bd lb)) A (fun _ => False)) ∧ W4.grownBy w5 (some (w.heap.size + 1))) := ⟨H4.out.below hb5, gr_below (gr_refl _ _) hb5⟩
      clear hb5 H4 x0 x1 x2 x3 x4 z0 z1 z2 z3 l7 l2
      obtain ⟨⟨x0, x1, x2, x3, x4⟩, ⟨z0, z1, z2, z3⟩, l7, l2, -, HSX⟩ := HC.out w5 H5.out.2
      have HX5 : Hid (SSet w5 Bx Nx A) := HSX
      clear HSX
      cases hcb : cntB bd lb f with
      | false =>
        have HCB : Hid (¬ cntB bd lb f = true) := fun q => by rw [hcb] at q; cases q
        clear HX5
        have HX : Hid (SSet w5 (w.heap.size + 1) (2 * (j + 1)) (nodeM 4 s t ((fs.take (j + 1)).filter (cntB bd lb)) A (fun _ => False)) ∧ W2.grownBy w5 (some (w.heap.size + 1))) := ⟨H5.out.1.congr (fun x => by rw [HT.out]; rw [if_neg HCB.out, List.append_nil]) (by omega), (HC.out w5 H5.out.2).2.2.2.2.1⟩
        clear H5
        go_wp2
        go_roundw
        case rel => exact ⟨j + 1, by omega, by go_num, HX.out⟩
        case measure => simp [intOf]; omega
      | true =>
        have HCB : Hid (cntB bd lb f = true) := hcb
        by_cases hp : f.p = s
        · have q1 : (f.p.toList == s.toList) = true := str_eq.2 hp
          have HP : Hid (f.p = s) := hp
          clear hp
          go_wp2_with fail
          refine (has_any Bx Nx A f.o w5 HX5.out HSZ.out.2).mono ?_
          rintro e w6 ⟨bq, rfl, hbq, hb6⟩
          have H6 : Hid (SSet w6 (w.heap.size + 1) (2 * j) (nodeM 4 s t ((fs.take j).filter (cntB bd lb)) A (fun _ => False)) ∧ W4.grownBy w6 (some (w.heap.size + 1))) := ⟨H5.out.1.below hb6, gr_below H5.out.2 hb6⟩
          clear hb6 HX5 H5 x0 x1 x2 x3 x4 z0 z1 z2 z3 l7 l2
          obtain ⟨⟨x0, x1, x2, x3, x4⟩, ⟨z0, z1, z2, z3⟩, l7, l2, -, -⟩ := HC.out w6 H6.out.2
          cases bq with
          | true =>
            have HQ : Hid (A f.o) := hbq.1 rfl
            clear hbq
            go_wp2_with fail
            refine (add_any (w.heap.size + 1) (2 * j) _ f.s w6 H6.out.1 (by omega) HSZ.out.1).mono ?_
            rintro e w8 ⟨rfl, hs8, hg8⟩
            have HX : Hid (SSet w8 (w.heap.size + 1) (2 * (j + 1)) (nodeM 4 s t ((fs.take (j + 1)).filter (cntB bd lb)) A (fun _ => False)) ∧ W2.grownBy w8 (some (w.heap.size + 1))) := ⟨hs8.congr (fun x => by rw [HT.out, if_pos HCB.out, nodeM_app (by omega)]; have hq := HQ.out; have hp := HP.out; simp [stepM, hq, hp]) (by omega), (HC.out w8 (gr_trans H6.out.2 hg8)).2.2.2.2.1⟩
            clear hs8 hg8 H6 x0 x1 x2 x3 x4 z0 z1 z2 z3 l7 l2
            go_wp2
            go_roundw
            case rel => exact ⟨j + 1, by omega, by go_num, HX.out⟩
            case measure => simp [intOf]; omega
          | false =>
            have HQ : Hid (¬ A f.o) := fun q => by have := hbq.2 q; cases this
            clear hbq
            have HX : Hid (SSet w6 (w.heap.size + 1) (2 * (j + 1)) (nodeM 4 s t ((fs.take (j + 1)).filter (cntB bd lb)) A (fun _ => False)) ∧ W2.grownBy w6 (some (w.heap.size + 1))) := ⟨H6.out.1.congr (fun x => by rw [HT.out]; rw [if_pos HCB.out, nodeM_app (by omega)]; have hq := HQ.out; simp [stepM, hq]) (by omega), (HC.out w6 H6.out.2).2.2.2.2.1⟩
            clear H6
            go_wp2
            go_roundw
            case rel => exact ⟨j + 1, by omega, by go_num, HX.out⟩
            case measure => simp [intOf]; omega
        · have q1 : (f.p.toList == s.toList) = false := by
            cases hq : (f.p.toList == s.toList) with
            | false => rfl
            | true => exact absurd (str_eq.1 hq) hp
          clear HX5
          have HX : Hid (SSet w5 (w.heap.size + 1) (2 * (j + 1)) (nodeM 4 s t ((fs.take (j + 1)).filter (cntB bd lb)) A (fun _ => False)) ∧ W2.grownBy w5 (some (w.heap.size + 1))) := ⟨H5.out.1.congr (fun x => by rw [HT.out]; rw [if_pos HCB.out, nodeM_app (by omega)]; simp [stepM, hp]) (by omega), (HC.out w5 H5.out.2).2.2.2.2.1⟩
          clear H5
          go_wp2
          go_roundw
          case rel => exact ⟨j + 1, by omega, by go_num, HX.out⟩
          case measure => simp [intOf]; omega
    · have e : j = n := by omega
      subst e
      have HF : Hid (RetS w 600 (nodeM 4 s t (fs.filter (cntB bd lb)) A (fun _ => False)) (.returned (.map (some (w.heap.size + 1)))) wr) := by
        refine ⟨_, rfl, by omega, HS.out.1.congr (fun x => ?_) (by omega), below_gr H2.out.2.1 (by omega) HS.out.2 (by omega)⟩
        rw [HN.out.1, List.take_length]
      clear HS
      go_wp2
      go_ret
      exact HF.out
end Go.Proofs.Ytocmbnocdjnfpaa

namespace Go.Proofs.Ytocmbnocdjnfpaa
open Go.RowKit Go.Deep Go.Maps
set_option linter.unusedVariables false
set_option maxRecDepth 100000
set_option linter.unusedSimpArgs false

set_option maxHeartbeats 4000000 in
theorem reached_5 (s t : ByteArray) (bd : Bool) (lb : ByteArray) (aa : Option Addr) (oc cc : Nat) (hh : Int) (fa : Option Addr) (fc : Nat) (fs : List Fc) (Bx Nx : Nat) (A : ByteArray → Prop) (w : World) (hF : RdF w fa fs) (hl : fs.length ≤ 300) (hok : FcOk fs) (hx : SSet w Bx Nx A) :
    Calls Try.prog 118 #[.agg #[.int .i64 5, .string s, .string t, .bool bd, .string lb, .slice aa oc cc, .int .i64 hh], .slice fa fs.length fc, .map (some Bx)] w (RetS w 600 (nodeM 5 s t (fs.filter (cntB bd lb)) A (fun _ => False))) := by
  have hmm := @run_makeMap Try.prog
  obtain ⟨n, hn⟩ : ∃ n, n = fs.length := ⟨_, rfl⟩
  rw [← hn] at hl ⊢
  have HN : Hid (n = fs.length ∧ FcOk fs) := ⟨hn, hok⟩
  have HR : Hid (RdF w fa fs ∧ SSet w Bx Nx A) := ⟨hF, hx⟩
  have hBx : Bx < w.heap.size := hx.lt
  clear hn hF hok hx
  obtain ⟨W2, hW2⟩ : ∃ W2, W2 = (w.alloc (.cells #[.int .i64 5, .string s, .string t, .bool bd, .string lb, .slice aa oc cc, .int .i64 hh] 73)).alloc (.map #[] 0) := ⟨_, rfl⟩
  have H2 : Hid (SSet W2 (w.heap.size + 1) (0) (nodeM 5 s t ([]) A (fun _ => False)) ∧ Below w.heap.size w W2 ∧ W2.heap.size = w.heap.size + 2 ∧ (RdF W2 fa fs ∧ SSet W2 Bx Nx A) ∧ (W2.cell? ⟨w.heap.size, 0, none⟩ = some (.int .i64 5) ∧ W2.cell? ⟨w.heap.size, 1, none⟩ = some (.string s) ∧ W2.cell? ⟨w.heap.size, 2, none⟩ = some (.string t) ∧ W2.cell? ⟨w.heap.size, 3, none⟩ = some (.bool bd) ∧ W2.cell? ⟨w.heap.size, 4, none⟩ = some (.string lb))) := by
    have hb : Below w.heap.size w W2 := by rw [hW2]; exact (below_alloc _ _).alloc (by simp) _
    have h1 := sset_new (w.alloc (.cells #[.int .i64 5, .string s, .string t, .bool bd, .string lb, .slice aa oc cc, .int .i64 hh] 73)) (nodeM 5 s t ([]) A (fun _ => False)) (fun x => nodeM_nil (by omega) s t _ _ x)
    rw [World.size_alloc, ← hW2] at h1
    have hh0 : W2.heap[w.heap.size]? = some (.cells #[.int .i64 5, .string s, .string t, .bool bd, .string lb, .slice aa oc cc, .int .i64 hh] 73) := by
      rw [hW2]
      exact (Below.heap_alloc _ _ _ (by simp)).trans (blk_alloc_new w _)
    refine ⟨h1, hb, by rw [hW2]; simp, ⟨HR.out.1.below hb, HR.out.2.below hb⟩, ?_, ?_, ?_, ?_, ?_⟩ <;> simp [World.cell?, hh0]
  have hz2 := H2.out.2.2.1
  go_enter Try.func118, Try.ntmps118
  go_wp2
  rw [← hW2]
  clear hW2 hmm
  go_loopw [13] (fun i wr => ∃ j : Nat, j ≤ n ∧ i = .int .i64 j ∧ SSet wr (w.heap.size + 1) (2 * j) (nodeM 5 s t ((fs.take j).filter (cntB bd lb)) A (fun _ => False)) ∧ W2.grownBy wr (some (w.heap.size + 1))) (fun i _ => n - (intOf i).toNat)
  case atStart => exact ⟨0, Nat.zero_le _, rfl, H2.out.1, gr_refl _ _⟩
  case round =>
    obtain ⟨j, hj, rfl, hs, hg⟩ := hrel
    have HS : Hid (SSet wr (w.heap.size + 1) (2 * j) (nodeM 5 s t ((fs.take j).filter (cntB bd lb)) A (fun _ => False)) ∧ W2.grownBy wr (some (w.heap.size + 1))) := ⟨hs, hg⟩
    have hzr := hg.size
    clear hs hg
    by_cases hlt : j < n
    · have hjF : j < fs.length := by rw [← HN.out.1]; exact hlt
      obtain ⟨bF, oF, rfl, s0, s1, s2, s3⟩ := (H2.out.1.rdF HS.out.2 H2.out.2.2.2.1.1).at hjF
      obtain ⟨f, hf⟩ : ∃ f, f = fs[j] := ⟨_, rfl⟩
      rw [← hf] at s0 s1 s2 s3
      have HSZ : Hid (f.s.size ≤ maxLen ∧ f.o.size ≤ maxLen) := HN.out.2 f (by rw [hf]; exact List.getElem_mem hjF)
      have HT : Hid ((fs.take (j + 1)).filter (cntB bd lb) = (fs.take j).filter (cntB bd lb) ++ (if cntB bd lb f = true then [f] else [])) := take_filter _ (by rw [List.getElem?_eq_getElem hjF, hf])
      clear hf hjF
      obtain ⟨W4, hW4⟩ : ∃ W4, W4 = wr.alloc (.cells #[.string f.s, .string f.p, .string f.o, .string f.g] 98) := ⟨_, rfl⟩
      obtain ⟨b7, hb7⟩ : ∃ b7, b7 = wr.heap.size := ⟨_, rfl⟩
      have HW4 : Hid (Below wr.heap.size wr W4) := by rw [hW4]; exact below_alloc _ _
      have HC : Hid (∀ W, W4.grownBy W (some (w.heap.size + 1)) → (W.cell? ⟨w.heap.size, 0, none⟩ = some (.int .i64 5) ∧ W.cell? ⟨w.heap.size, 1, none⟩ = some (.string s) ∧ W.cell? ⟨w.heap.size, 2, none⟩ = some (.string t) ∧ W.cell? ⟨w.heap.size, 3, none⟩ = some (.bool bd) ∧ W.cell? ⟨w.heap.size, 4, none⟩ = some (.string lb)) ∧ (W.cell? ⟨b7, 0, none⟩ = some (.string f.s) ∧ W.cell? ⟨b7, 1, none⟩ = some (.string f.p) ∧ W.cell? ⟨b7, 2, none⟩ = some (.string f.o) ∧ W.cell? ⟨b7, 3, none⟩ = some (.string f.g)) ∧ b7 < W.heap.size ∧ w.heap.size < W.heap.size ∧ W2.grownBy W (some (w.heap.size + 1)) ∧ SSet W Bx Nx A) := fun W hW => by
        have hS4 := HS.out.1.below HW4.out
        have hg4 : W2.grownBy W4 (some (w.heap.size + 1)) := gr_below HS.out.2 HW4.out
        have e0 : W4.heap[b7]? = some (.cells #[.string f.s, .string f.p, .string f.o, .string f.g] 98) := by
          rw [hW4, hb7]
          exact blk_alloc_new wr _
        have c : ∀ (b o : Nat) (v : Value), W4.cell? ⟨b, o, none⟩ = some v → W.cell? ⟨b, o, none⟩ = some v := fun b o v q => hS4.cell hW q
        have c2 : ∀ (b o : Nat) (v : Value), W2.cell? ⟨b, o, none⟩ = some v → W.cell? ⟨b, o, none⟩ = some v := fun b o v q => c _ _ _ (H2.out.1.cell hg4 q)
        have zz : b7 < W4.heap.size := (Array.getElem?_eq_some_iff.1 e0).1
        have z4 := hW.size
        have hg2 := gr_trans hg4 hW
        refine ⟨⟨c2 _ _ _ H2.out.2.2.2.2.1, c2 _ _ _ H2.out.2.2.2.2.2.1, c2 _ _ _ H2.out.2.2.2.2.2.2.1, c2 _ _ _ H2.out.2.2.2.2.2.2.2.1, c2 _ _ _ H2.out.2.2.2.2.2.2.2.2⟩, ⟨c _ _ _ ?_, c _ _ _ ?_, c _ _ _ ?_, c _ _ _ ?_⟩, by omega, by have := hg4.size; omega, hg2, H2.out.2.2.2.1.2.kept hg2 (fun e => by injection e with e; omega)⟩
        · simp [World.cell?, e0]
        · simp [World.cell?, e0]
        · simp [World.cell?, e0]
        · simp [World.cell?, e0]
      have i0 : (0 : Int) ≤ (j : Int) := by omega
      have i1 : (j : Int) < (n : Int) := by omega
      go_upto_region 5 with fail
      rw [← hW4, ← hb7]
      clear s0 s1 s2 s3
      have H4 : Hid (SSet W4 (w.heap.size + 1) (2 * j) (nodeM 5 s t ((fs.take j).filter (cntB bd lb)) A (fun _ => False))) := HS.out.1.below HW4.out
      clear hW4 hb7 HS
      obtain ⟨⟨x0, x1, x2, x3, x4⟩, ⟨z0, z1, z2, z3⟩, l7, l2, -, -⟩ := HC.out W4 (gr_refl _ _)
      go_wp2_with fail
      refine (counts_any bd lb f W4).mono ?_
      rintro e w5 ⟨rfl, hb5⟩
      have H5 : Hid (SSet w5 (w.heap.size + 1) (2 * j) (nodeM 5 s t ((fs.take j).filter (cntB bd lb)) A (fun _ => False)) ∧ W4.grownBy w5 (some (w.heap.size + 1))) := ⟨H4.out.below hb5, gr_below (gr_refl _ _) hb5⟩
      clear hb5 H4 x0 x1 x2 x3 x4 z0 z1 z2 z3 l7 l2
      obtain ⟨⟨x0, x1, x2, x3, x4⟩, ⟨z0, z1, z2, z3⟩, l7, l2, -, HSX⟩ := HC.out w5 H5.out.2
      have HX5 : Hid (SSet w5 Bx Nx A) := HSX
      clear HSX
      cases hcb : cntB bd lb f with
      | false =>
        have HCB : Hid (¬ cntB bd lb f = true) := fun q => by rw [hcb] at q; cases q
        clear HX5
        have HX : Hid (SSet w5 (w.heap.size + 1) (2 * (j + 1)) (nodeM 5 s t ((fs.take (j + 1)).filter (cntB bd lb)) A (fun _ => False)) ∧ W2.grownBy w5 (some (w.heap.size + 1))) := ⟨H5.out.1.congr (fun x => by rw [HT.out]; rw [if_neg HCB.out, List.append_nil]) (by omega), (HC.out w5 H5.out.2).2.2.2.2.1⟩
        clear H5
        go_wp2
        go_roundw
        case rel => exact ⟨j + 1, by omega, by go_num, HX.out⟩
        case measure => simp [intOf]; omega
      | true =>
        have HCB : Hid (cntB bd lb f = true) := hcb
        by_cases hp : f.p = s
        · have q1 : (f.p.toList == s.toList) = true := str_eq.2 hp
          have HP : Hid (f.p = s) := hp
          clear hp
          by_cases ht : f.o = t
          · have q2 : (f.o.toList == t.toList) = true := str_eq.2 ht
            have HTT : Hid (f.o = t) := ht
            clear ht
            go_wp2_with fail
            refine (has_any Bx Nx A f.s w5 HX5.out HSZ.out.1).mono ?_
            rintro e w6 ⟨bq, rfl, hbq, hb6⟩
            have H6 : Hid (SSet w6 (w.heap.size + 1) (2 * j) (nodeM 5 s t ((fs.take j).filter (cntB bd lb)) A (fun _ => False)) ∧ W4.grownBy w6 (some (w.heap.size + 1))) := ⟨H5.out.1.below hb6, gr_below H5.out.2 hb6⟩
            clear hb6 HX5 H5 x0 x1 x2 x3 x4 z0 z1 z2 z3 l7 l2
            obtain ⟨⟨x0, x1, x2, x3, x4⟩, ⟨z0, z1, z2, z3⟩, l7, l2, -, -⟩ := HC.out w6 H6.out.2
            cases bq with
            | true =>
              have HQ : Hid (A f.s) := hbq.1 rfl
              clear hbq
              go_wp2_with fail
              refine (add_any (w.heap.size + 1) (2 * j) _ f.s w6 H6.out.1 (by omega) HSZ.out.1).mono ?_
              rintro e w8 ⟨rfl, hs8, hg8⟩
              have HX : Hid (SSet w8 (w.heap.size + 1) (2 * (j + 1)) (nodeM 5 s t ((fs.take (j + 1)).filter (cntB bd lb)) A (fun _ => False)) ∧ W2.grownBy w8 (some (w.heap.size + 1))) := ⟨hs8.congr (fun x => by rw [HT.out, if_pos HCB.out, nodeM_app (by omega)]; have hq := HQ.out; have hp := HP.out; have ht := HTT.out; simp [stepM, hq, hp, ht]) (by omega), (HC.out w8 (gr_trans H6.out.2 hg8)).2.2.2.2.1⟩
              clear hs8 hg8 H6 x0 x1 x2 x3 x4 z0 z1 z2 z3 l7 l2
              go_wp2
              go_roundw
              case rel => exact ⟨j + 1, by omega, by go_num, HX.out⟩
              case measure => simp [intOf]; omega
            | false =>
              have HQ : Hid (¬ A f.s) := fun q => by have := hbq.2 q; cases this
              clear hbq
              have HX : Hid (SSet w6 (w.heap.size + 1) (2 * (j + 1)) (nodeM 5 s t ((fs.take (j + 1)).filter (cntB bd lb)) A (fun _ => False)) ∧ W2.grownBy w6 (some (w.heap.size + 1))) := ⟨H6.out.1.congr (fun x => by rw [HT.out]; rw [if_pos HCB.out, nodeM_app (by omega)]; have hq := HQ.out; simp [stepM, hq]) (by omega), (HC.out w6 H6.out.2).2.2.2.2.1⟩
              clear H6
              go_wp2
              go_roundw
              case rel => exact ⟨j + 1, by omega, by go_num, HX.out⟩
              case measure => simp [intOf]; omega
          · have q2 : (f.o.toList == t.toList) = false := by
              cases hq : (f.o.toList == t.toList) with
              | false => rfl
              | true => exact absurd (str_eq.1 hq) ht
            clear HX5
            have HX : Hid (SSet w5 (w.heap.size + 1) (2 * (j + 1)) (nodeM 5 s t ((fs.take (j + 1)).filter (cntB bd lb)) A (fun _ => False)) ∧ W2.grownBy w5 (some (w.heap.size + 1))) := ⟨H5.out.1.congr (fun x => by rw [HT.out]; rw [if_pos HCB.out, nodeM_app (by omega)]; simp [stepM, ht]) (by omega), (HC.out w5 H5.out.2).2.2.2.2.1⟩
            clear H5
            go_wp2
            go_roundw
            case rel => exact ⟨j + 1, by omega, by go_num, HX.out⟩
            case measure => simp [intOf]; omega
        · have q1 : (f.p.toList == s.toList) = false := by
            cases hq : (f.p.toList == s.toList) with
            | false => rfl
            | true => exact absurd (str_eq.1 hq) hp
          clear HX5
          have HX : Hid (SSet w5 (w.heap.size + 1) (2 * (j + 1)) (nodeM 5 s t ((fs.take (j + 1)).filter (cntB bd lb)) A (fun _ => False)) ∧ W2.grownBy w5 (some (w.heap.size + 1))) := ⟨H5.out.1.congr (fun x => by rw [HT.out]; rw [if_pos HCB.out, nodeM_app (by omega)]; simp [stepM, hp]) (by omega), (HC.out w5 H5.out.2).2.2.2.2.1⟩
          clear H5
          go_wp2
          go_roundw
          case rel => exact ⟨j + 1, by omega, by go_num, HX.out⟩
          case measure => simp [intOf]; omega
    · have e : j = n := by omega
      subst e
      have HF : Hid (RetS w 600 (nodeM 5 s t (fs.filter (cntB bd lb)) A (fun _ => False)) (.returned (.map (some (w.heap.size + 1)))) wr) := by
        refine ⟨_, rfl, by omega, HS.out.1.congr (fun x => ?_) (by omega), below_gr H2.out.2.1 (by omega) HS.out.2 (by omega)⟩
        rw [HN.out.1, List.take_length]
      clear HS
      go_wp2
      go_ret
      exact HF.out
end Go.Proofs.Ytocmbnocdjnfpaa

namespace Go.Proofs.Ytocmbnocdjnfpaa
open Go.RowKit Go.Deep Go.Maps
set_option linter.unusedVariables false
set_option maxRecDepth 100000
set_option linter.unusedSimpArgs false

theorem key_inv {v : Value} {kl : Lit} (h : keyOf Try.prog 9 v = some kl) : ∃ x : ByteArray, v = .string x := by
  cases v <;> simp [keyOf, undStr, mapKey] at h
  exact ⟨_, rfl⟩
theorem key_str {x : ByteArray} {kl : Lit} (h : keyOf Try.prog 9 (.string x) = some kl) : kl = kS x ∧ x.size ≤ maxLen := by
  by_cases hx : x.size ≤ maxLen
  · rw [kS_key hx] at h
    injection h with h
    exact ⟨h.symm, hx⟩
  · exfalso
    simp [keyOf, undStr, mapKey, hx] at h
theorem unit_inv {v : Value} {y : DataW Unit × List MemPlace} (h : unitElem v = some y) : ∃ _c : Unit, v = .agg #[] := ⟨(), (unitElem_inv h).1⟩
theorem kS_same (x y : ByteArray) : (kS y).sameKey (kS x) = true ↔ y = x := by
  unfold kS Lit.sameKey
  simp
  constructor
  · intro h
    exact kS_inj (by unfold kS; rw [h])
  · intro h
    rw [h]
/-- What has been gone through: those of A that are not still to come. -/
theorem left_step {left : Lit → Bool} {x : ByteArray} (y : ByteArray) : (left (kS y) && !(kS y).sameKey (kS x)) = false ↔ left (kS y) = false ∨ y = x := by
  rw [← kS_same x y]
  cases left (kS y) <;> cases (kS y).sameKey (kS x) <;> simp
end Go.Proofs.Ytocmbnocdjnfpaa

namespace Go.Proofs.Ytocmbnocdjnfpaa
open Go.RowKit Go.Deep Go.Maps
set_option linter.unusedVariables false
set_option maxRecDepth 100000
set_option linter.unusedSimpArgs false

set_option maxHeartbeats 4000000 in
theorem combined_6 (s t : ByteArray) (bd : Bool) (lb : ByteArray) (aa : Option Addr) (oc cc : Nat) (hh : Int) (Ba Na Bb Nb : Nat) (A Q : ByteArray → Prop) (F : List Fc) (w : World) (ha : SSet w Ba Na A) (hb : SSet w Bb Nb Q) (hNa : Na ≤ 1048576) :
    Calls Try.prog 117 #[.agg #[.int .i64 6, .string s, .string t, .bool bd, .string lb, .slice aa oc cc, .int .i64 hh], .map (some Ba), .map (some Bb)] w (RetS w Na (nodeM 6 s t F A Q)) := by
  have hmm := @run_makeMap Try.prog
  have hBa := ha.lt
  have hBb := hb.lt
  obtain ⟨DA, hDA, hA⟩ := ha
  have HB : Hid (SSet w Bb Nb Q) := hb
  have HA : Hid (∀ x, Maps.has DA (kS x) = true ↔ A x) := hA
  have hsz := hDA.size_le
  have hD2 : ((w.alloc (.cells #[.int .i64 6, .string s, .string t, .bool bd, .string lb, .slice aa oc cc, .int .i64 hh] 73)).alloc (.map #[] 0)).ownsMap Try.prog 9 unitElem Ba Na DA := (hDA.alloc _).alloc _
  have H2 : Hid (∀ w0, ((w.alloc (.cells #[.int .i64 6, .string s, .string t, .bool bd, .string lb, .slice aa oc cc, .int .i64 hh] 73)).alloc (.map #[] 0)).grownBy w0 none → SSet w0 (w.heap.size + 1) 0 (fun x => A x ∧ Maps.has DA (kS x) = false ∧ Q x) ∧ SSet w0 Bb Nb Q ∧ w0.cell? ⟨w.heap.size, 0, none⟩ = some (.int .i64 6) ∧ Below w.heap.size w w0) := fun w0 hg => by
    have h1 := sset_new (w.alloc (.cells #[.int .i64 6, .string s, .string t, .bool bd, .string lb, .slice aa oc cc, .int .i64 hh] 73)) (fun x => A x ∧ Maps.has DA (kS x) = false ∧ Q x) (fun x q => by have := (HA.out x).2 q.1; rw [q.2.1] at this; cases this)
    rw [World.size_alloc] at h1
    have hbl : Below w.heap.size w ((w.alloc (.cells #[.int .i64 6, .string s, .string t, .bool bd, .string lb, .slice aa oc cc, .int .i64 hh] 73)).alloc (.map #[] 0)) := (below_alloc _ _).alloc (by simp) _
    have hh0 : ((w.alloc (.cells #[.int .i64 6, .string s, .string t, .bool bd, .string lb, .slice aa oc cc, .int .i64 hh] 73)).alloc (.map #[] 0)).heap[w.heap.size]? = some (.cells #[.int .i64 6, .string s, .string t, .bool bd, .string lb, .slice aa oc cc, .int .i64 hh] 73) := (Below.heap_alloc _ _ _ (by simp)).trans (blk_alloc_new w _)
    have hz : w.heap.size < ((w.alloc (.cells #[.int .i64 6, .string s, .string t, .bool bd, .string lb, .slice aa oc cc, .int .i64 hh] 73)).alloc (.map #[] 0)).heap.size := by simp; omega
    have hh1 := (hg.block _ hz (by simp)).trans hh0
    refine ⟨h1.kept hg (by simp), (HB.out.below hbl).kept hg (by simp), by simp [World.cell?, hh1], hbl.grown hg (by simp; omega) (fun k e => by cases e)⟩
  have e1 : ((w.alloc (.cells #[.int .i64 6, .string s, .string t, .bool bd, .string lb, .slice aa oc cc, .int .i64 hh] 73)).alloc (.map #[] 0)).heap.size = w.heap.size + 2 := by simp
  clear hb hA
  go_enter Try.func117, Try.ntmps117
  go_wp2_with (first
    | (at_range; refine wpList_range_own _ rfl _ 102 rfl 9 109 strK undSet unitElem Ba Na DA rfl hD2 ?_; intro w0 hrg0 hg0 hs0)
    | go_in)
  go_frame
  rw [e1] at hrg0 hs0 ⊢
  have H0 : Hid (w0.ranges Try.prog 9 unitElem Ba (w.heap.size + 2) Na DA (Maps.has DA) (Maps.size DA) ∧ SSet w0 (w.heap.size + 1) (Na - (Maps.size DA)) (fun z0 => A z0 ∧ (Maps.has DA) (kS z0) = false ∧ Q z0) ∧ (SSet w0 Bb Nb Q ∧ w0.cell? ⟨w.heap.size, 0, none⟩ = some (.int .i64 6) ∧ w.heap.size + 2 < w0.heap.size) ∧ Below w.heap.size w w0) := by
    obtain ⟨q1, q2, q3, q4⟩ := H2.out w0 hg0
    exact ⟨hrg0, q1.congr (fun _ => Iff.rfl) (by omega), ⟨q2, q3, by omega⟩, q4⟩
  clear hrg0 hg0 H2 hD2 hmm
  go_loopw [9] (fun _ wr => ∃ (left : Lit → Bool) (cnt : Nat), cnt ≤ Na ∧ wr.ranges Try.prog 9 unitElem Ba (w.heap.size + 2) Na DA left cnt ∧ SSet wr (w.heap.size + 1) (Na - cnt) (fun z0 => A z0 ∧ left (kS z0) = false ∧ Q z0) ∧ (SSet wr Bb Nb Q ∧ wr.cell? ⟨w.heap.size, 0, none⟩ = some (.int .i64 6) ∧ w.heap.size + 2 < wr.heap.size) ∧ Below w.heap.size w wr) (fun _ wr => wr.rangeLeft Ba (w.heap.size + 2))
  case atStart => exact ⟨_, _, hsz, H0.out⟩
  case round =>
    obtain ⟨left, cnt, hcn, hrg, hs, hq, hbl⟩ := hrel
    have HI : Hid (wr.ranges Try.prog 9 unitElem Ba (w.heap.size + 2) Na DA left cnt ∧ SSet wr (w.heap.size + 1) (Na - cnt) (fun z0 => A z0 ∧ left (kS z0) = false ∧ Q z0) ∧ (SSet wr Bb Nb Q ∧ wr.cell? ⟨w.heap.size, 0, none⟩ = some (.int .i64 6) ∧ w.heap.size + 2 < wr.heap.size) ∧ Below w.heap.size w wr) := ⟨hrg, hs, hq, hbl⟩
    clear hrg hs hq hbl H0
    go_wp2_with (first
      | (at_next; refine wpList_next_ranges _ rfl _ rfl 9 strK unitElem Value.string (fun _ : Unit => .agg #[]) (fun _ _ h => key_inv h) (fun _ _ h => unit_inv h) Ba (w.heap.size + 2) Na DA _ _ rfl HI.out.1 ?_ ?_)
      | go_in)
    · intro hc0 hl0
      have HF : Hid (RetS w Na (nodeM 6 s t F A Q) (.returned (.map (some (w.heap.size + 1)))) wr) := by
        refine ⟨_, rfl, by omega, HI.out.2.1.congr (fun x => ?_) (by omega), HI.out.2.2.2⟩
        rw [hl0]
        simp [nodeM]
      clear HI hc0 hl0
      go_wp2
      go_ret
      exact HF.out
    · intro x _ kl y w1 cnt1 hkey hlk hv hat hrg1 hlt hg1 hs1 hen
      obtain ⟨rfl, hxs⟩ := key_str hkey
      have hAx : A x := (HA.out x).1 (has_true_of_atKey hat)
      have HCL : Hid (wr.rangeLeft Ba (w.heap.size + 2) = cnt) := HI.out.1.left_eq
      have H1 : Hid (w1.ranges Try.prog 9 unitElem Ba (w.heap.size + 2) Na DA (fun z => left z && !z.sameKey (kS x)) cnt1 ∧ SSet w1 (w.heap.size + 1) (Na - cnt) (fun x => A x ∧ left (kS x) = false ∧ Q x) ∧ (SSet w1 Bb Nb Q ∧ w1.cell? ⟨w.heap.size, 0, none⟩ = some (.int .i64 6) ∧ w.heap.size + 2 < w1.heap.size) ∧ Below w.heap.size w w1) := by
        obtain ⟨q1, q2, ⟨q3, q4, q5⟩, q6⟩ := HI.out
        have hc : w1.cell? ⟨w.heap.size, 0, none⟩ = some (.int .i64 6) := by
          rw [World.cell?_of_block (a := ⟨w.heap.size, 0, none⟩) (hg1.block w.heap.size (by omega) (fun e => by injection e with e; omega))]
          exact q4
        exact ⟨hrg1, q2.kept hg1 (fun e => by injection e with e; omega), ⟨q3.kept hg1 (fun e => by injection e with e; omega), hc, by omega⟩, q6.grown hg1 (by omega) (fun k e => by injection e with e; omega)⟩
      have HAx : Hid (A x ∧ x.size ≤ maxLen) := ⟨hAx, hxs⟩
      clear hkey hlk hv hat hrg1 hg1 HI hAx hxs
      -- how it goes on from a later world
      have HG : Hid (∀ W, Below w1.heap.size w1 W → W.ranges Try.prog 9 unitElem Ba (w.heap.size + 2) Na DA (fun z => left z && !z.sameKey (kS x)) cnt1 ∧ SSet W (w.heap.size + 1) (Na - cnt) (fun x => A x ∧ left (kS x) = false ∧ Q x) ∧ (SSet W Bb Nb Q ∧ W.cell? ⟨w.heap.size, 0, none⟩ = some (.int .i64 6) ∧ w.heap.size + 2 < W.heap.size) ∧ Below w.heap.size w W) := fun W hW => by
        obtain ⟨q1, q2, ⟨q3, q4, q5⟩, q6⟩ := H1.out
        have hg : w1.grownBy W none := ⟨hW.os, hW.tape, hW.output, hW.size, fun k hk _ => hW.block k hk⟩
        have hz := hW.size
        exact ⟨q1.kept hg (by simp) (by simp), q2.below hW, ⟨q3.below hW, (hW.cell (World.block_lt_of_cell? _ _ q4)).trans q4, by omega⟩, q6.trans (hW.mono (by omega))⟩
      have J0 : Hid (Below w1.heap.size w1 w1.drew) := (Below.refl _ _).drew
      have JH : Hid (Calls Try.prog 139 #[.map (some Bb), .string x] w1.drew fun e w' => ∃ b : Bool, e = .returned (.bool b) ∧ (b = true ↔ Q x) ∧ Below w1.drew.heap.size w1.drew w') := has_any Bb Nb Q x w1.drew (HG.out _ J0.out).2.2.1.1 HAx.out.2
      have c0 := H1.out.2.2.1.2.1
      have l0 : w.heap.size < w1.heap.size := by have := H1.out.2.2.1.2.2; omega
      go_upto_region 9 with fail
      go_region_held3 (fun w' => w'.cell? ⟨w.heap.size, 0, none⟩ = some (.int .i64 6)) (first | exact (HG.out _ J7.out.1).2.2.1.2.1 | exact (HG.out _ J0.out).2.2.1.2.1 | go_keep)
        (first
        | (go_at_call 139; (with_reducible refine JH.out.mono ?_); rintro e w7 ⟨bq, rfl, hbq, hb7⟩; have J7 : Hid (Below w1.heap.size w1 w7 ∧ (bq = true ↔ Q x)) := ⟨J0.out.trans (hb7.mono J0.out.size), hbq⟩; clear hbq hb7)
        | fail)
      have H7 := HG.out w7 J7.out.1
      have H7h : Hid (w7.ranges Try.prog 9 unitElem Ba (w.heap.size + 2) Na DA (fun z => left z && !z.sameKey (kS x)) cnt1 ∧ SSet w7 (w.heap.size + 1) (Na - cnt) (fun x => A x ∧ left (kS x) = false ∧ Q x) ∧ (SSet w7 Bb Nb Q ∧ w7.cell? ⟨w.heap.size, 0, none⟩ = some (.int .i64 6) ∧ w.heap.size + 2 < w7.heap.size) ∧ Below w.heap.size w w7) := H7
      have HBq : Hid (bq = true ↔ Q x) := J7.out.2
      clear H7 J7 JH J0 c0 l0
      cases bq with
      | true =>
        have HK : Hid (Q x) := HBq.out.1 rfl
        clear HBq
        go_wp2_with fail
        refine (add_any (w.heap.size + 1) (Na - cnt) _ x w7 H7h.out.2.1 (by omega) HAx.out.2).mono ?_
        rintro e w8 ⟨rfl, hs8, hg8⟩
        have HX : Hid (w8.ranges Try.prog 9 unitElem Ba (w.heap.size + 2) Na DA (fun z => left z && !z.sameKey (kS x)) cnt1 ∧ SSet w8 (w.heap.size + 1) (Na - cnt1) (fun z0 => A z0 ∧ (fun z => left z && !z.sameKey (kS x)) (kS z0) = false ∧ Q z0) ∧ (SSet w8 Bb Nb Q ∧ w8.cell? ⟨w.heap.size, 0, none⟩ = some (.int .i64 6) ∧ w.heap.size + 2 < w8.heap.size) ∧ Below w.heap.size w w8) := by
          obtain ⟨q1, q2, ⟨q3, q4, q5⟩, q6⟩ := H7h.out
          refine ⟨q1.kept hg8 (fun e => by injection e with e; omega) (fun e => by injection e with e; omega), hs8.congr (fun y => ?_) (by omega), ⟨q3.kept hg8 (fun e => by injection e with e; omega), ?_, by have := hg8.size; omega⟩, below_gr q6 (by omega) hg8 (by omega)⟩
          · have hk := HK.out
            have ha := HAx.out.1
            show _ ↔ A y ∧ (left (kS y) && !(kS y).sameKey (kS x)) = false ∧ _
            rw [left_step]
            by_cases e : y = x
            · subst e
              simp [hk, ha]
            · simp [e]
          · exact q2.cell hg8 q4
        clear hs8 hg8 H7h
        go_wp2
        go_roundw
        case rel => exact ⟨_, cnt1, by omega, HX.out⟩
        case measure => rw [HX.out.1.left_eq, HCL.out]; exact hlt
      | false =>
        have HK : Hid (¬ (Q x)) := fun q => by have := HBq.out.2 q; cases this
        clear HBq
        have HX : Hid (w7.ranges Try.prog 9 unitElem Ba (w.heap.size + 2) Na DA (fun z => left z && !z.sameKey (kS x)) cnt1 ∧ SSet w7 (w.heap.size + 1) (Na - cnt1) (fun z0 => A z0 ∧ (fun z => left z && !z.sameKey (kS x)) (kS z0) = false ∧ Q z0) ∧ (SSet w7 Bb Nb Q ∧ w7.cell? ⟨w.heap.size, 0, none⟩ = some (.int .i64 6) ∧ w.heap.size + 2 < w7.heap.size) ∧ Below w.heap.size w w7) := by
          obtain ⟨q1, q2, q3, q6⟩ := H7h.out
          refine ⟨q1, q2.congr (fun y => ?_) (by omega), q3, q6⟩
          have hk := HK.out
          show _ ↔ A y ∧ (left (kS y) && !(kS y).sameKey (kS x)) = false ∧ _
          rw [left_step]
          by_cases e : y = x
          · subst e
            constructor
            · rintro ⟨_, _, q⟩
              exact absurd q hk
            · rintro ⟨_, _, q⟩
              exact absurd q hk
          · simp [e]
        clear H7h
        go_wp2
        go_roundw
        case rel => exact ⟨_, cnt1, by omega, HX.out⟩
        case measure => rw [HX.out.1.left_eq, HCL.out]; exact hlt
end Go.Proofs.Ytocmbnocdjnfpaa

namespace Go.Proofs.Ytocmbnocdjnfpaa
open Go.RowKit Go.Deep Go.Maps
set_option linter.unusedVariables false
set_option maxRecDepth 100000
set_option linter.unusedSimpArgs false

set_option maxHeartbeats 4000000 in
theorem combined_8 (s t : ByteArray) (bd : Bool) (lb : ByteArray) (aa : Option Addr) (oc cc : Nat) (hh : Int) (Ba Na Bb Nb : Nat) (A Q : ByteArray → Prop) (F : List Fc) (w : World) (ha : SSet w Ba Na A) (hb : SSet w Bb Nb Q) (hNa : Na ≤ 1048576) :
    Calls Try.prog 117 #[.agg #[.int .i64 8, .string s, .string t, .bool bd, .string lb, .slice aa oc cc, .int .i64 hh], .map (some Ba), .map (some Bb)] w (RetS w Na (nodeM 8 s t F A Q)) := by
  have hmm := @run_makeMap Try.prog
  have hBa := ha.lt
  have hBb := hb.lt
  obtain ⟨DA, hDA, hA⟩ := ha
  have HB : Hid (SSet w Bb Nb Q) := hb
  have HA : Hid (∀ x, Maps.has DA (kS x) = true ↔ A x) := hA
  have hsz := hDA.size_le
  have hD2 : ((w.alloc (.cells #[.int .i64 8, .string s, .string t, .bool bd, .string lb, .slice aa oc cc, .int .i64 hh] 73)).alloc (.map #[] 0)).ownsMap Try.prog 9 unitElem Ba Na DA := (hDA.alloc _).alloc _
  have H2 : Hid (∀ w0, ((w.alloc (.cells #[.int .i64 8, .string s, .string t, .bool bd, .string lb, .slice aa oc cc, .int .i64 hh] 73)).alloc (.map #[] 0)).grownBy w0 none → SSet w0 (w.heap.size + 1) 0 (fun x => A x ∧ Maps.has DA (kS x) = false ∧ ¬ Q x) ∧ SSet w0 Bb Nb Q ∧ w0.cell? ⟨w.heap.size, 0, none⟩ = some (.int .i64 8) ∧ Below w.heap.size w w0) := fun w0 hg => by
    have h1 := sset_new (w.alloc (.cells #[.int .i64 8, .string s, .string t, .bool bd, .string lb, .slice aa oc cc, .int .i64 hh] 73)) (fun x => A x ∧ Maps.has DA (kS x) = false ∧ ¬ Q x) (fun x q => by have := (HA.out x).2 q.1; rw [q.2.1] at this; cases this)
    rw [World.size_alloc] at h1
    have hbl : Below w.heap.size w ((w.alloc (.cells #[.int .i64 8, .string s, .string t, .bool bd, .string lb, .slice aa oc cc, .int .i64 hh] 73)).alloc (.map #[] 0)) := (below_alloc _ _).alloc (by simp) _
    have hh0 : ((w.alloc (.cells #[.int .i64 8, .string s, .string t, .bool bd, .string lb, .slice aa oc cc, .int .i64 hh] 73)).alloc (.map #[] 0)).heap[w.heap.size]? = some (.cells #[.int .i64 8, .string s, .string t, .bool bd, .string lb, .slice aa oc cc, .int .i64 hh] 73) := (Below.heap_alloc _ _ _ (by simp)).trans (blk_alloc_new w _)
    have hz : w.heap.size < ((w.alloc (.cells #[.int .i64 8, .string s, .string t, .bool bd, .string lb, .slice aa oc cc, .int .i64 hh] 73)).alloc (.map #[] 0)).heap.size := by simp; omega
    have hh1 := (hg.block _ hz (by simp)).trans hh0
    refine ⟨h1.kept hg (by simp), (HB.out.below hbl).kept hg (by simp), by simp [World.cell?, hh1], hbl.grown hg (by simp; omega) (fun k e => by cases e)⟩
  have e1 : ((w.alloc (.cells #[.int .i64 8, .string s, .string t, .bool bd, .string lb, .slice aa oc cc, .int .i64 hh] 73)).alloc (.map #[] 0)).heap.size = w.heap.size + 2 := by simp
  clear hb hA
  go_enter Try.func117, Try.ntmps117
  go_wp2_with (first
    | (at_range; refine wpList_range_own _ rfl _ 102 rfl 9 109 strK undSet unitElem Ba Na DA rfl hD2 ?_; intro w0 hrg0 hg0 hs0)
    | go_in)
  go_frame
  rw [e1] at hrg0 hs0 ⊢
  have H0 : Hid (w0.ranges Try.prog 9 unitElem Ba (w.heap.size + 2) Na DA (Maps.has DA) (Maps.size DA) ∧ SSet w0 (w.heap.size + 1) (Na - (Maps.size DA)) (fun z0 => A z0 ∧ (Maps.has DA) (kS z0) = false ∧ ¬ Q z0) ∧ (SSet w0 Bb Nb Q ∧ w0.cell? ⟨w.heap.size, 0, none⟩ = some (.int .i64 8) ∧ w.heap.size + 2 < w0.heap.size) ∧ Below w.heap.size w w0) := by
    obtain ⟨q1, q2, q3, q4⟩ := H2.out w0 hg0
    exact ⟨hrg0, q1.congr (fun _ => Iff.rfl) (by omega), ⟨q2, q3, by omega⟩, q4⟩
  clear hrg0 hg0 H2 hD2 hmm
  go_loopw [9] (fun _ wr => ∃ (left : Lit → Bool) (cnt : Nat), cnt ≤ Na ∧ wr.ranges Try.prog 9 unitElem Ba (w.heap.size + 2) Na DA left cnt ∧ SSet wr (w.heap.size + 1) (Na - cnt) (fun z0 => A z0 ∧ left (kS z0) = false ∧ ¬ Q z0) ∧ (SSet wr Bb Nb Q ∧ wr.cell? ⟨w.heap.size, 0, none⟩ = some (.int .i64 8) ∧ w.heap.size + 2 < wr.heap.size) ∧ Below w.heap.size w wr) (fun _ wr => wr.rangeLeft Ba (w.heap.size + 2))
  case atStart => exact ⟨_, _, hsz, H0.out⟩
  case round =>
    obtain ⟨left, cnt, hcn, hrg, hs, hq, hbl⟩ := hrel
    have HI : Hid (wr.ranges Try.prog 9 unitElem Ba (w.heap.size + 2) Na DA left cnt ∧ SSet wr (w.heap.size + 1) (Na - cnt) (fun z0 => A z0 ∧ left (kS z0) = false ∧ ¬ Q z0) ∧ (SSet wr Bb Nb Q ∧ wr.cell? ⟨w.heap.size, 0, none⟩ = some (.int .i64 8) ∧ w.heap.size + 2 < wr.heap.size) ∧ Below w.heap.size w wr) := ⟨hrg, hs, hq, hbl⟩
    clear hrg hs hq hbl H0
    go_wp2_with (first
      | (at_next; refine wpList_next_ranges _ rfl _ rfl 9 strK unitElem Value.string (fun _ : Unit => .agg #[]) (fun _ _ h => key_inv h) (fun _ _ h => unit_inv h) Ba (w.heap.size + 2) Na DA _ _ rfl HI.out.1 ?_ ?_)
      | go_in)
    · intro hc0 hl0
      have HF : Hid (RetS w Na (nodeM 8 s t F A Q) (.returned (.map (some (w.heap.size + 1)))) wr) := by
        refine ⟨_, rfl, by omega, HI.out.2.1.congr (fun x => ?_) (by omega), HI.out.2.2.2⟩
        rw [hl0]
        simp [nodeM]
      clear HI hc0 hl0
      go_wp2
      go_ret
      exact HF.out
    · intro x _ kl y w1 cnt1 hkey hlk hv hat hrg1 hlt hg1 hs1 hen
      obtain ⟨rfl, hxs⟩ := key_str hkey
      have hAx : A x := (HA.out x).1 (has_true_of_atKey hat)
      have HCL : Hid (wr.rangeLeft Ba (w.heap.size + 2) = cnt) := HI.out.1.left_eq
      have H1 : Hid (w1.ranges Try.prog 9 unitElem Ba (w.heap.size + 2) Na DA (fun z => left z && !z.sameKey (kS x)) cnt1 ∧ SSet w1 (w.heap.size + 1) (Na - cnt) (fun x => A x ∧ left (kS x) = false ∧ ¬ Q x) ∧ (SSet w1 Bb Nb Q ∧ w1.cell? ⟨w.heap.size, 0, none⟩ = some (.int .i64 8) ∧ w.heap.size + 2 < w1.heap.size) ∧ Below w.heap.size w w1) := by
        obtain ⟨q1, q2, ⟨q3, q4, q5⟩, q6⟩ := HI.out
        have hc : w1.cell? ⟨w.heap.size, 0, none⟩ = some (.int .i64 8) := by
          rw [World.cell?_of_block (a := ⟨w.heap.size, 0, none⟩) (hg1.block w.heap.size (by omega) (fun e => by injection e with e; omega))]
          exact q4
        exact ⟨hrg1, q2.kept hg1 (fun e => by injection e with e; omega), ⟨q3.kept hg1 (fun e => by injection e with e; omega), hc, by omega⟩, q6.grown hg1 (by omega) (fun k e => by injection e with e; omega)⟩
      have HAx : Hid (A x ∧ x.size ≤ maxLen) := ⟨hAx, hxs⟩
      clear hkey hlk hv hat hrg1 hg1 HI hAx hxs
      -- how it goes on from a later world
      have HG : Hid (∀ W, Below w1.heap.size w1 W → W.ranges Try.prog 9 unitElem Ba (w.heap.size + 2) Na DA (fun z => left z && !z.sameKey (kS x)) cnt1 ∧ SSet W (w.heap.size + 1) (Na - cnt) (fun x => A x ∧ left (kS x) = false ∧ ¬ Q x) ∧ (SSet W Bb Nb Q ∧ W.cell? ⟨w.heap.size, 0, none⟩ = some (.int .i64 8) ∧ w.heap.size + 2 < W.heap.size) ∧ Below w.heap.size w W) := fun W hW => by
        obtain ⟨q1, q2, ⟨q3, q4, q5⟩, q6⟩ := H1.out
        have hg : w1.grownBy W none := ⟨hW.os, hW.tape, hW.output, hW.size, fun k hk _ => hW.block k hk⟩
        have hz := hW.size
        exact ⟨q1.kept hg (by simp) (by simp), q2.below hW, ⟨q3.below hW, (hW.cell (World.block_lt_of_cell? _ _ q4)).trans q4, by omega⟩, q6.trans (hW.mono (by omega))⟩
      have J0 : Hid (Below w1.heap.size w1 w1.drew) := (Below.refl _ _).drew
      have JH : Hid (Calls Try.prog 139 #[.map (some Bb), .string x] w1.drew fun e w' => ∃ b : Bool, e = .returned (.bool b) ∧ (b = true ↔ Q x) ∧ Below w1.drew.heap.size w1.drew w') := has_any Bb Nb Q x w1.drew (HG.out _ J0.out).2.2.1.1 HAx.out.2
      have c0 := H1.out.2.2.1.2.1
      have l0 : w.heap.size < w1.heap.size := by have := H1.out.2.2.1.2.2; omega
      go_upto_region 9 with fail
      go_region_held3 (fun w' => w'.cell? ⟨w.heap.size, 0, none⟩ = some (.int .i64 8)) (first | exact (HG.out _ J7.out.1).2.2.1.2.1 | exact (HG.out _ J0.out).2.2.1.2.1 | go_keep)
        (first
        | (go_at_call 139; (with_reducible refine JH.out.mono ?_); rintro e w7 ⟨bq, rfl, hbq, hb7⟩; have J7 : Hid (Below w1.heap.size w1 w7 ∧ (bq = true ↔ Q x)) := ⟨J0.out.trans (hb7.mono J0.out.size), hbq⟩; clear hbq hb7)
        | fail)
      have H7 := HG.out w7 J7.out.1
      have H7h : Hid (w7.ranges Try.prog 9 unitElem Ba (w.heap.size + 2) Na DA (fun z => left z && !z.sameKey (kS x)) cnt1 ∧ SSet w7 (w.heap.size + 1) (Na - cnt) (fun x => A x ∧ left (kS x) = false ∧ ¬ Q x) ∧ (SSet w7 Bb Nb Q ∧ w7.cell? ⟨w.heap.size, 0, none⟩ = some (.int .i64 8) ∧ w.heap.size + 2 < w7.heap.size) ∧ Below w.heap.size w w7) := H7
      have HBq : Hid (bq = true ↔ Q x) := J7.out.2
      clear H7 J7 JH J0 c0 l0
      cases bq with
      | false =>
        have HK : Hid (¬ Q x) := fun q => by have := HBq.out.2 q; cases this
        clear HBq
        go_wp2_with fail
        refine (add_any (w.heap.size + 1) (Na - cnt) _ x w7 H7h.out.2.1 (by omega) HAx.out.2).mono ?_
        rintro e w8 ⟨rfl, hs8, hg8⟩
        have HX : Hid (w8.ranges Try.prog 9 unitElem Ba (w.heap.size + 2) Na DA (fun z => left z && !z.sameKey (kS x)) cnt1 ∧ SSet w8 (w.heap.size + 1) (Na - cnt1) (fun z0 => A z0 ∧ (fun z => left z && !z.sameKey (kS x)) (kS z0) = false ∧ ¬ Q z0) ∧ (SSet w8 Bb Nb Q ∧ w8.cell? ⟨w.heap.size, 0, none⟩ = some (.int .i64 8) ∧ w.heap.size + 2 < w8.heap.size) ∧ Below w.heap.size w w8) := by
          obtain ⟨q1, q2, ⟨q3, q4, q5⟩, q6⟩ := H7h.out
          refine ⟨q1.kept hg8 (fun e => by injection e with e; omega) (fun e => by injection e with e; omega), hs8.congr (fun y => ?_) (by omega), ⟨q3.kept hg8 (fun e => by injection e with e; omega), ?_, by have := hg8.size; omega⟩, below_gr q6 (by omega) hg8 (by omega)⟩
          · have hk := HK.out
            have ha := HAx.out.1
            show _ ↔ A y ∧ (left (kS y) && !(kS y).sameKey (kS x)) = false ∧ _
            rw [left_step]
            by_cases e : y = x
            · subst e
              simp [hk, ha]
            · simp [e]
          · exact q2.cell hg8 q4
        clear hs8 hg8 H7h
        go_wp2
        go_roundw
        case rel => exact ⟨_, cnt1, by omega, HX.out⟩
        case measure => rw [HX.out.1.left_eq, HCL.out]; exact hlt
      | true =>
        have HK : Hid (¬ (¬ Q x)) := fun q => q (HBq.out.1 rfl)
        clear HBq
        have HX : Hid (w7.ranges Try.prog 9 unitElem Ba (w.heap.size + 2) Na DA (fun z => left z && !z.sameKey (kS x)) cnt1 ∧ SSet w7 (w.heap.size + 1) (Na - cnt1) (fun z0 => A z0 ∧ (fun z => left z && !z.sameKey (kS x)) (kS z0) = false ∧ ¬ Q z0) ∧ (SSet w7 Bb Nb Q ∧ w7.cell? ⟨w.heap.size, 0, none⟩ = some (.int .i64 8) ∧ w.heap.size + 2 < w7.heap.size) ∧ Below w.heap.size w w7) := by
          obtain ⟨q1, q2, q3, q6⟩ := H7h.out
          refine ⟨q1, q2.congr (fun y => ?_) (by omega), q3, q6⟩
          have hk := HK.out
          show _ ↔ A y ∧ (left (kS y) && !(kS y).sameKey (kS x)) = false ∧ _
          rw [left_step]
          by_cases e : y = x
          · subst e
            constructor
            · rintro ⟨_, _, q⟩
              exact absurd q hk
            · rintro ⟨_, _, q⟩
              exact absurd q hk
          · simp [e]
        clear H7h
        go_wp2
        go_roundw
        case rel => exact ⟨_, cnt1, by omega, HX.out⟩
        case measure => rw [HX.out.1.left_eq, HCL.out]; exact hlt
end Go.Proofs.Ytocmbnocdjnfpaa
