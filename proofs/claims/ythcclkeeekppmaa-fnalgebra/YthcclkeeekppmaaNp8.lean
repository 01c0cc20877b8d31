import Derived.Test.YthcclkeeekppmaaNp7
import Derived.Shelf.SlMaps.Clone
import Derived.Laws.Externs
import Derived.MapKept
namespace Go.Proofs.Ythcclkeeekppmaa
open Go.RowKit Go.Deep Go.Maps
set_option linter.unusedVariables false
set_option maxRecDepth 100000
set_option linter.unusedSimpArgs false

set_option maxHeartbeats 2000000 in
theorem clone_any (B N : Nat) (P : ByteArray → Prop) (w : World) (h : SSet w B N P) :
    Calls Try.prog 102 #[.map (some B)] w fun e w' => e = .returned (.map (some w.heap.size)) ∧ SSet w' w.heap.size N P ∧ Below w.heap.size w w' := by
  obtain ⟨D, ⟨es, clock, hb, F, hs, hD⟩, hP⟩ := h
  have hq := fun W => run_eql_map_nil_sl (P := Try.prog) W 67 _ _ (some B) undSet
  have HF : Hid (SSet (w.alloc (.map es clock)) w.heap.size N P ∧ Below w.heap.size w (w.alloc (.map es clock))) := ⟨⟨D, ⟨es, clock, blk_alloc_new _ _, F, hs, hD⟩, hP⟩, below_alloc _ _⟩
  go_enter Try.func102, Try.ntmps102
  go_wp2
  rw [run_callFunc_extern Try.func117 (by kernel_rfl) (by kernel_rfl) (by kernel_rfl) (e := Extern.MapsClone.clone) (by kernel_rfl), run_maps_clone_sl w 67 hb]
  simp only [Result.andThen]
  rw [Oper.upon_value]
  go_wp2
  rw [run_typeAssert_map_sl _ 67 _ _ _ _ undSet]
  simp only [Result.andThen]
  rw [Oper.upon_value]
  go_wp2
  go_ret
  exact ⟨rfl, HF.out⟩
set_option maxHeartbeats 2000000 in
theorem copy_any (Bd Nd Bs Ns : Nat) (P A : ByteArray → Prop) (w : World) (hd : SSet w Bd Nd P) (ha : SSet w Bs Ns A) (hne : Bd ≠ Bs) (hN : Nd + Ns ≤ 1048576) :
    Calls Try.prog 103 #[.map (some Bd), .map (some Bs)] w fun e w' => e = .returned (.tuple #[]) ∧ SSet w' Bd (Nd + Ns) (fun x => P x ∨ A x) ∧ w.grownBy w' (some Bd) := by
  have hBd := hd.lt
  have hBs := ha.lt
  obtain ⟨DA, hDA, hA⟩ := ha
  have HA : Hid (∀ x, Maps.has DA (kS x) = true ↔ A x) := hA
  have HD : Hid (SSet w Bd Nd P) := hd
  have hsz := hDA.size_le
  clear hA hd
  go_enter Try.func103, Try.ntmps103
  go_wp2_with (first
    | (at_range; refine wpList_range_own _ rfl _ 67 rfl 9 74 strK undSet unitElem Bs Ns DA rfl hDA ?_; intro w0 hrg0 hg0 hs0)
    | go_in)
  go_frame
  have H0 : Hid (w0.ranges Try.prog 9 unitElem Bs w.heap.size Ns DA (Maps.has DA) (Maps.size DA) ∧ SSet w0 Bd (Nd + (Ns - Maps.size DA)) (fun z0 => P z0 ∨ (A z0 ∧ Maps.has DA (kS z0) = false)) ∧ w.grownBy w0 (some Bd)) :=
    ⟨hrg0, (HD.out.kept hg0 (by simp)).congr (fun x => ⟨.inl, fun q => q.elim id (fun q => by have := (HA.out x).2 q.1; rw [q.2] at this; cases this)⟩) (by omega), hg0.but _⟩
  clear hrg0 hg0
  go_loopw [4] (fun _ wr => ∃ (left : Lit → Bool) (cnt : Nat), cnt ≤ Ns ∧ wr.ranges Try.prog 9 unitElem Bs w.heap.size Ns DA left cnt ∧ SSet wr Bd (Nd + (Ns - cnt)) (fun z0 => P z0 ∨ (A z0 ∧ left (kS z0) = false)) ∧ w.grownBy wr (some Bd)) (fun _ wr => wr.rangeLeft Bs w.heap.size)
  case atStart => exact ⟨_, _, hsz, H0.out⟩
  case round =>
    obtain ⟨left, cnt, hcn, hrg, hs, hbl⟩ := hrel
    have HI : Hid (wr.ranges Try.prog 9 unitElem Bs w.heap.size Ns DA left cnt ∧ SSet wr Bd (Nd + (Ns - cnt)) (fun z0 => P z0 ∨ (A z0 ∧ left (kS z0) = false)) ∧ w.grownBy wr (some Bd)) := ⟨hrg, hs, hbl⟩
    clear hrg hs hbl H0
    go_wp2_with (first
      | (at_next; refine wpList_next_ranges _ rfl _ rfl 9 strK unitElem Value.string (fun _ : Unit => .agg #[]) (fun _ _ h => key_inv h) (fun _ _ h => unit_inv h) Bs w.heap.size Ns DA _ _ rfl HI.out.1 ?_ ?_)
      | go_in)
    · intro hc0 hl0
      have HF : Hid (SSet wr Bd (Nd + Ns) (fun x => P x ∨ A x) ∧ w.grownBy wr (some Bd)) := by
        refine ⟨HI.out.2.1.congr (fun x => ?_) (by omega), HI.out.2.2⟩
        rw [hl0]
        simp
      clear HI hc0 hl0
      go_wp2
      go_end0
      exact ⟨rfl, HF.out⟩
    · intro x _ kl y w1 cnt1 hkey hlk hv hat hrg1 hlt hg1 hs1 hen
      obtain ⟨rfl, hxs⟩ := key_str hkey
      have hAx : A x := (HA.out x).1 (has_true_of_atKey hat)
      have HCL : Hid (wr.rangeLeft Bs w.heap.size = cnt) := HI.out.1.left_eq
      have hzr := HI.out.2.2.size
      have HH : Hid (w1.ranges Try.prog 9 unitElem Bs w.heap.size Ns DA (fun z => left z && !z.sameKey (kS x)) cnt1 ∧ SSet w1 Bd (Nd + (Ns - cnt)) (fun z0 => P z0 ∨ (A z0 ∧ left (kS z0) = false)) ∧ w.grownBy w1 (some Bd)) :=
        ⟨hrg1, HI.out.2.1.kept hg1 (fun e => by injection e with e; omega), HI.out.2.2.andThen hg1 (fun j e => .inl (by injection e with e; omega))⟩
      have HAx : Hid (A x) := hAx
      clear hlk hat hrg1 hg1 HI hAx
      obtain ⟨D1, hown1, hP1⟩ := (HH.out.2.1.below (below_alloc w1 (.cells #[] 74)))
      go_wp2_with (first
        | (at_mapUpdate; refine wpList_mapUpdate_own _ rfl _ _ _ 67 rfl 9 74 strK undSet unitElem Bd _ D1 rfl hown1 (by unfold maxLen; omega) _ _ (kS x) rfl rfl (kS_key hxs) _ [] unitElem_mk ?_; intro w2 hown2 hg2; go_frame)
        | go_in)
      have HX : Hid (w2.ranges Try.prog 9 unitElem Bs w.heap.size Ns DA (fun z => left z && !z.sameKey (kS x)) cnt1 ∧ SSet w2 Bd (Nd + (Ns - cnt1)) (fun z0 => P z0 ∨ (A z0 ∧ (fun z => left z && !z.sameKey (kS x)) (kS z0) = false)) ∧ w.grownBy w2 (some Bd)) := by
        refine ⟨(HH.out.1.alloc _).kept hg2 (fun e => by injection e with e; omega) (fun e => by injection e with e; omega), (SSet.congr (N := Nd + (Ns - cnt) + 1) ⟨_, hown2, fun y => by rw [has_put D1 hown1.isMap x y, hP1]⟩ (fun y => ?_) (by omega)), gr_trans (gr_below HH.out.2.2 (below_alloc _ _)) hg2⟩
        show _ ↔ P y ∨ A y ∧ (left (kS y) && !(kS y).sameKey (kS x)) = false
        rw [left_step]
        have ha := HAx.out
        by_cases e : y = x
        · subst e
          simp [ha]
        · simp [e]
      clear hown2 hg2 hown1 hP1 HH
      go_roundw
      case rel => exact ⟨_, cnt1, by omega, HX.out⟩
      case measure => rw [HX.out.1.left_eq, HCL.out]; exact hlt
set_option maxHeartbeats 2000000 in
theorem combined_7 (s t : ByteArray) (bd : Bool) (lb : ByteArray) (aa : Option Addr) (oc cc : Nat) (hh : Int) (Ba Na Bb Nb : Nat) (A Q : ByteArray → Prop) (F : List Fc) (w : World) (ha : SSet w Ba Na A) (hb : SSet w Bb Nb Q) (hN : Na + Nb ≤ 1048576) :
    Calls Try.prog 65 #[.agg #[.int .i64 7, .string s, .string t, .bool bd, .string lb, .slice aa oc cc, .int .i64 hh], .map (some Ba), .map (some Bb)] w (RetS w (Na + Nb) (nodeM 7 s t F A Q)) := by
  have hBb := hb.lt
  have HS : Hid (∀ o, SSet (w.alloc o) Ba Na A ∧ SSet (w.alloc o) Bb Nb Q) := fun o => ⟨ha.below (below_alloc _ _), hb.below (below_alloc _ _)⟩
  clear ha hb
  go_enter Try.func65, Try.ntmps65
  go_wp2_with fail
  refine (clone_any Ba Na A _ (HS.out _).1).mono ?_
  rintro e w1 ⟨rfl, hs1, hb1⟩
  have H1 : Hid (SSet w1 (w.heap.size + 1) Na A ∧ SSet w1 Bb Nb Q ∧ Below w.heap.size w w1 ∧ w.heap.size + 1 ≤ w1.heap.size) := by
    refine ⟨by simpa using hs1, ((HS.out _).2.below hb1), (below_alloc _ _).trans (hb1.mono (by simp)), by have := hb1.size; simpa using this⟩
  rw [World.size_alloc]
  clear hs1 hb1
  go_wp2_with fail
  refine (copy_any (w.heap.size + 1) Na Bb Nb A Q w1 H1.out.1 H1.out.2.1 (by omega) hN).mono ?_
  rintro e w2 ⟨rfl, hs2, hg2⟩
  have HF : Hid (RetS w (Na + Nb) (nodeM 7 s t F A Q) (.returned (.map (some (w.heap.size + 1)))) w2) := ⟨_, rfl, by omega, hs2.congr (fun x => by simp [nodeM]) (by omega), below_gr H1.out.2.2.1 (by have := H1.out.2.2.2; omega) hg2 (by omega)⟩
  clear hs2 hg2 H1
  go_wp2
  go_ret
  exact HF.out
end Go.Proofs.Ythcclkeeekppmaa

namespace Go.Proofs.Ythcclkeeekppmaa
open Go.RowKit Go.Deep Go.Maps
set_option linter.unusedVariables false
set_option maxRecDepth 100000
set_option linter.unusedSimpArgs false

set_option maxHeartbeats 4000000 in
theorem vertices_1 (s t : ByteArray) (bd : Bool) (lb : ByteArray) (aa : Option Addr) (oc cc : Nat) (hh : Int) (fa : Option Addr) (fc : Nat) (fs : List Fc) (w : World) (hF : RdF w fa fs) (hl : fs.length ≤ 300) (hok : FcOk fs) :
    Calls Try.prog 64 #[.agg #[.int .i64 1, .string s, .string t, .bool bd, .string lb, .slice aa oc cc, .int .i64 hh], .slice fa fs.length fc] w (RetS w 600 (nodeM 1 s t (fs.filter (cntB bd lb)) (fun _ => False) (fun _ => False))) := by
  have hmm := @run_makeMap Try.prog
  obtain ⟨n, hn⟩ : ∃ n, n = fs.length := ⟨_, rfl⟩
  rw [← hn] at hl ⊢
  have HN : Hid (n = fs.length ∧ FcOk fs) := ⟨hn, hok⟩
  have HR : Hid (RdF w fa fs) := hF
  clear hn hF hok
  obtain ⟨W2, hW2⟩ : ∃ W2, W2 = (w.alloc (.cells #[.int .i64 1, .string s, .string t, .bool bd, .string lb, .slice aa oc cc, .int .i64 hh] 65)).alloc (.map #[] 0) := ⟨_, rfl⟩
  have H2 : Hid (SSet W2 (w.heap.size + 1) 0 (nodeM 1 s t ([]) (fun _ => False) (fun _ => False)) ∧ Below w.heap.size w W2 ∧ W2.heap.size = w.heap.size + 2 ∧ RdF W2 fa fs ∧ (W2.cell? ⟨w.heap.size, 0, none⟩ = some (.int .i64 1) ∧ W2.cell? ⟨w.heap.size, 1, none⟩ = some (.string s) ∧ W2.cell? ⟨w.heap.size, 3, none⟩ = some (.bool bd) ∧ W2.cell? ⟨w.heap.size, 4, none⟩ = some (.string lb))) := by
    have hb : Below w.heap.size w W2 := by rw [hW2]; exact (below_alloc _ _).alloc (by simp) _
    have h1 := sset_new (w.alloc (.cells #[.int .i64 1, .string s, .string t, .bool bd, .string lb, .slice aa oc cc, .int .i64 hh] 65)) (nodeM 1 s t ([]) (fun _ => False) (fun _ => False)) (fun x => nodeM_nil (by omega) s t _ _ x)
    rw [World.size_alloc, ← hW2] at h1
    have hh0 : W2.heap[w.heap.size]? = some (.cells #[.int .i64 1, .string s, .string t, .bool bd, .string lb, .slice aa oc cc, .int .i64 hh] 65) := by
      rw [hW2]
      exact (Below.heap_alloc _ _ _ (by simp)).trans (blk_alloc_new w _)
    refine ⟨h1, hb, by rw [hW2]; simp, HR.out.below hb, ?_, ?_, ?_, ?_⟩ <;> simp [World.cell?, hh0]
  have hz2 := H2.out.2.2.1
  go_enter Try.func64, Try.ntmps64
  go_wp2
  rw [← hW2]
  clear hW2 hmm
  go_loopw [13] (fun i wr => ∃ j : Nat, j ≤ n ∧ i = .int .i64 j ∧ SSet wr (w.heap.size + 1) (2 * j) (nodeM 1 s t ((fs.take j).filter (cntB bd lb)) (fun _ => False) (fun _ => False)) ∧ W2.grownBy wr (some (w.heap.size + 1))) (fun i _ => n - (intOf i).toNat)
  case atStart => exact ⟨0, Nat.zero_le _, rfl, H2.out.1, gr_refl _ _⟩
  case round =>
    obtain ⟨j, hj, rfl, hs, hg⟩ := hrel
    have HS : Hid (SSet wr (w.heap.size + 1) (2 * j) (nodeM 1 s t ((fs.take j).filter (cntB bd lb)) (fun _ => False) (fun _ => False)) ∧ W2.grownBy wr (some (w.heap.size + 1))) := ⟨hs, hg⟩
    have hzr := hg.size
    clear hs hg
    by_cases hlt : j < n
    · have hjF : j < fs.length := by rw [← HN.out.1]; exact hlt
      obtain ⟨bF, oF, rfl, s0, s1, s2, s3⟩ := (H2.out.1.rdF HS.out.2 H2.out.2.2.2.1).at hjF
      obtain ⟨f, hf⟩ : ∃ f, f = fs[j] := ⟨_, rfl⟩
      rw [← hf] at s0 s1 s2 s3
      have HSZ : Hid (f.s.size ≤ maxLen ∧ f.o.size ≤ maxLen) := HN.out.2 f (by rw [hf]; exact List.getElem_mem hjF)
      have HT : Hid ((fs.take (j + 1)).filter (cntB bd lb) = (fs.take j).filter (cntB bd lb) ++ (if cntB bd lb f = true then [f] else [])) := take_filter _ (by rw [List.getElem?_eq_getElem hjF, hf])
      clear hf hjF
      obtain ⟨W4, hW4⟩ : ∃ W4, W4 = (wr.alloc (.cells #[.string f.s, .string f.p, .string f.o, .string f.g] 38)).alloc (.cells #[.string f.s, .string f.o] 9) := ⟨_, rfl⟩
      obtain ⟨b7, hb7⟩ : ∃ b7, b7 = wr.heap.size := ⟨_, rfl⟩
      have HW4 : Hid (Below wr.heap.size wr W4) := by rw [hW4]; exact (below_alloc _ _).alloc (by simp) _
      have HC : Hid (∀ W, W4.grownBy W (some (w.heap.size + 1)) → (W.cell? ⟨w.heap.size, 0, none⟩ = some (.int .i64 1) ∧ W.cell? ⟨w.heap.size, 1, none⟩ = some (.string s) ∧ W.cell? ⟨w.heap.size, 3, none⟩ = some (.bool bd) ∧ W.cell? ⟨w.heap.size, 4, none⟩ = some (.string lb)) ∧ (W.cell? ⟨b7, 0, none⟩ = some (.string f.s) ∧ W.cell? ⟨b7, 1, none⟩ = some (.string f.p) ∧ W.cell? ⟨b7, 2, none⟩ = some (.string f.o) ∧ W.cell? ⟨b7, 3, none⟩ = some (.string f.g)) ∧ (W.cell? ⟨b7 + 1, 0, none⟩ = some (.string f.s) ∧ W.cell? ⟨b7 + 1, 1, none⟩ = some (.string f.o)) ∧ b7 + 1 < W.heap.size ∧ w.heap.size < W.heap.size ∧ W2.grownBy W (some (w.heap.size + 1))) := fun W hW => by
        have hS4 := HS.out.1.below HW4.out
        have hg4 : W2.grownBy W4 (some (w.heap.size + 1)) := gr_below HS.out.2 HW4.out
        have e0 : W4.heap[b7]? = some (.cells #[.string f.s, .string f.p, .string f.o, .string f.g] 38) := by
          rw [hW4, hb7]
          exact (Below.heap_alloc _ _ _ (by simp)).trans (blk_alloc_new wr _)
        have e1 : W4.heap[b7 + 1]? = some (.cells #[.string f.s, .string f.o] 9) := by
          have := blk_alloc_new (wr.alloc (.cells #[.string f.s, .string f.p, .string f.o, .string f.g] 38)) (.cells #[.string f.s, .string f.o] 9)
          rw [hW4, hb7]
          rwa [World.size_alloc] at this
        have c : ∀ (b o : Nat) (v : Value), W4.cell? ⟨b, o, none⟩ = some v → W.cell? ⟨b, o, none⟩ = some v := fun b o v q => hS4.cell hW q
        have c2 : ∀ (b o : Nat) (v : Value), W2.cell? ⟨b, o, none⟩ = some v → W.cell? ⟨b, o, none⟩ = some v := fun b o v q => c _ _ _ (H2.out.1.cell hg4 q)
        have zz : b7 + 1 < W4.heap.size := (Array.getElem?_eq_some_iff.1 e1).1
        have z4 := hW.size
        refine ⟨⟨c2 _ _ _ H2.out.2.2.2.2.1, c2 _ _ _ H2.out.2.2.2.2.2.1, c2 _ _ _ H2.out.2.2.2.2.2.2.1, c2 _ _ _ H2.out.2.2.2.2.2.2.2⟩, ⟨c _ _ _ ?_, c _ _ _ ?_, c _ _ _ ?_, c _ _ _ ?_⟩, ⟨c _ _ _ ?_, c _ _ _ ?_⟩, by omega, by have := hg4.size; omega, gr_trans hg4 hW⟩
        · simp [World.cell?, e0]
        · simp [World.cell?, e0]
        · simp [World.cell?, e0]
        · simp [World.cell?, e0]
        · simp [World.cell?, e1]
        · simp [World.cell?, e1]
      have i0 : (0 : Int) ≤ (j : Int) := by omega
      have i1 : (j : Int) < (n : Int) := by omega
      go_wp2
      rw [← hW4, ← hb7]
      clear s0 s1 s2 s3
      have H4 : Hid (SSet W4 (w.heap.size + 1) (2 * j + 0) (fun x => nodeM 1 s t ((fs.take j).filter (cntB bd lb)) (fun _ => False) (fun _ => False) x ∨ (cntB bd lb f = true ∧ ((0 < 0 ∧ True ∧ x = f.s) ∨ (1 < 0 ∧ True ∧ x = f.o))))) := (HS.out.1.below HW4.out).congr (fun x => by simp) (by omega)
      clear hW4 hb7
      obtain ⟨wo, hwo⟩ : ∃ wo, wo = wr := ⟨_, rfl⟩
      subst hwo
      go_loopw [23] (fun i wr => ∃ q : Nat, q ≤ 2 ∧ i = .int .i64 q ∧ SSet wr (w.heap.size + 1) (2 * j + q) (fun x => nodeM 1 s t ((fs.take j).filter (cntB bd lb)) (fun _ => False) (fun _ => False) x ∨ (cntB bd lb f = true ∧ ((0 < q ∧ True ∧ x = f.s) ∨ (1 < q ∧ True ∧ x = f.o)))) ∧ W4.grownBy wr (some (w.heap.size + 1))) (fun i _ => 2 - (intOf i).toNat)
      case atStart => exact ⟨0, Nat.zero_le _, rfl, H4.out, gr_refl _ _⟩
      case round =>
        obtain ⟨q, hq, rfl, hs, hg⟩ := hrel
        have HI : Hid (SSet wr (w.heap.size + 1) (2 * j + q) (fun x => nodeM 1 s t ((fs.take j).filter (cntB bd lb)) (fun _ => False) (fun _ => False) x ∨ (cntB bd lb f = true ∧ ((0 < q ∧ True ∧ x = f.s) ∨ (1 < q ∧ True ∧ x = f.o)))) ∧ W4.grownBy wr (some (w.heap.size + 1))) := ⟨hs, hg⟩
        clear hs hg
        have hq3 : q = 0 ∨ q = 1 ∨ q = 2 := by omega
        rcases hq3 with rfl | rfl | rfl
        · obtain ⟨⟨x0, x1, x3, x4⟩, ⟨z0, z1, z2, z3⟩, ⟨y0, y1⟩, l7, l2, -⟩ := HC.out wr HI.out.2
          go_wp2_with fail
          refine (counts_any bd lb f wr).mono ?_
          rintro e w5 ⟨rfl, hb5⟩
          have H5 : Hid (SSet w5 (w.heap.size + 1) (2 * j + 0) (fun x => nodeM 1 s t ((fs.take j).filter (cntB bd lb)) (fun _ => False) (fun _ => False) x ∨ (cntB bd lb f = true ∧ ((0 < 0 ∧ True ∧ x = f.s) ∨ (1 < 0 ∧ True ∧ x = f.o)))) ∧ W4.grownBy w5 (some (w.heap.size + 1))) := ⟨HI.out.1.below hb5, gr_below HI.out.2 hb5⟩
          clear hb5 HI x0 x1 x3 x4 z0 z1 z2 z3 y0 y1 l7 l2
          obtain ⟨⟨x0, x1, x3, x4⟩, ⟨z0, z1, z2, z3⟩, ⟨y0, y1⟩, l7, l2, -⟩ := HC.out w5 H5.out.2
          cases hcb : cntB bd lb f with
          | false =>
            have HX : Hid (SSet w5 (w.heap.size + 1) (2 * j + (0 + 1)) (fun x => nodeM 1 s t ((fs.take j).filter (cntB bd lb)) (fun _ => False) (fun _ => False) x ∨ (cntB bd lb f = true ∧ ((0 < (0 + 1) ∧ True ∧ x = f.s) ∨ (1 < (0 + 1) ∧ True ∧ x = f.o)))) ∧ W4.grownBy w5 (some (w.heap.size + 1))) := ⟨H5.out.1.congr (fun x => by simp [hcb]) (by omega), H5.out.2⟩
            clear H5
            go_wp2
            go_roundw
            case rel => exact ⟨0 + 1, by omega, by go_num, HX.out⟩
            case measure => simp [intOf]
          | true =>
            go_wp2_with fail
            refine (add_any (w.heap.size + 1) (2 * j + 0) _ f.s w5 H5.out.1 (by omega) HSZ.out.1).mono ?_
            rintro e w6 ⟨rfl, hs6, hg6⟩
            have HX : Hid (SSet w6 (w.heap.size + 1) (2 * j + (0 + 1)) (fun x => nodeM 1 s t ((fs.take j).filter (cntB bd lb)) (fun _ => False) (fun _ => False) x ∨ (cntB bd lb f = true ∧ ((0 < (0 + 1) ∧ True ∧ x = f.s) ∨ (1 < (0 + 1) ∧ True ∧ x = f.o)))) ∧ W4.grownBy w6 (some (w.heap.size + 1))) := ⟨hs6.congr (fun x => by simp [hcb, or_assoc]) (by omega), gr_trans H5.out.2 hg6⟩
            clear hs6 hg6 H5
            go_wp2
            go_roundw
            case rel => exact ⟨0 + 1, by omega, by go_num, HX.out⟩
            case measure => simp [intOf]
        · obtain ⟨⟨x0, x1, x3, x4⟩, ⟨z0, z1, z2, z3⟩, ⟨y0, y1⟩, l7, l2, -⟩ := HC.out wr HI.out.2
          go_wp2_with fail
          refine (counts_any bd lb f wr).mono ?_
          rintro e w5 ⟨rfl, hb5⟩
          have H5 : Hid (SSet w5 (w.heap.size + 1) (2 * j + 1) (fun x => nodeM 1 s t ((fs.take j).filter (cntB bd lb)) (fun _ => False) (fun _ => False) x ∨ (cntB bd lb f = true ∧ ((0 < 1 ∧ True ∧ x = f.s) ∨ (1 < 1 ∧ True ∧ x = f.o)))) ∧ W4.grownBy w5 (some (w.heap.size + 1))) := ⟨HI.out.1.below hb5, gr_below HI.out.2 hb5⟩
          clear hb5 HI x0 x1 x3 x4 z0 z1 z2 z3 y0 y1 l7 l2
          obtain ⟨⟨x0, x1, x3, x4⟩, ⟨z0, z1, z2, z3⟩, ⟨y0, y1⟩, l7, l2, -⟩ := HC.out w5 H5.out.2
          cases hcb : cntB bd lb f with
          | false =>
            have HX : Hid (SSet w5 (w.heap.size + 1) (2 * j + (1 + 1)) (fun x => nodeM 1 s t ((fs.take j).filter (cntB bd lb)) (fun _ => False) (fun _ => False) x ∨ (cntB bd lb f = true ∧ ((0 < (1 + 1) ∧ True ∧ x = f.s) ∨ (1 < (1 + 1) ∧ True ∧ x = f.o)))) ∧ W4.grownBy w5 (some (w.heap.size + 1))) := ⟨H5.out.1.congr (fun x => by simp [hcb]) (by omega), H5.out.2⟩
            clear H5
            go_wp2
            go_roundw
            case rel => exact ⟨1 + 1, by omega, by go_num, HX.out⟩
            case measure => simp [intOf]
          | true =>
            go_wp2_with fail
            refine (add_any (w.heap.size + 1) (2 * j + 1) _ f.o w5 H5.out.1 (by omega) HSZ.out.2).mono ?_
            rintro e w6 ⟨rfl, hs6, hg6⟩
            have HX : Hid (SSet w6 (w.heap.size + 1) (2 * j + (1 + 1)) (fun x => nodeM 1 s t ((fs.take j).filter (cntB bd lb)) (fun _ => False) (fun _ => False) x ∨ (cntB bd lb f = true ∧ ((0 < (1 + 1) ∧ True ∧ x = f.s) ∨ (1 < (1 + 1) ∧ True ∧ x = f.o)))) ∧ W4.grownBy w6 (some (w.heap.size + 1))) := ⟨hs6.congr (fun x => by simp [hcb, or_assoc]) (by omega), gr_trans H5.out.2 hg6⟩
            clear hs6 hg6 H5
            go_wp2
            go_roundw
            case rel => exact ⟨1 + 1, by omega, by go_num, HX.out⟩
            case measure => simp [intOf]
        · have HF : Hid (SSet wr (w.heap.size + 1) (2 * (j + 1)) (nodeM 1 s t ((fs.take (j + 1)).filter (cntB bd lb)) (fun _ => False) (fun _ => False)) ∧ W2.grownBy wr (some (w.heap.size + 1))) := by
            refine ⟨HI.out.1.congr (fun x => ?_) (by omega), (HC.out wr HI.out.2).2.2.2.2.2⟩
            rw [HT.out]
            cases hc : cntB bd lb f with
            | false => simp
            | true =>
              rw [if_pos rfl, nodeM_app (by omega)]
              simp [stepM]
          clear HI H4
          go_wp2
          go_roundw
          case rel => exact ⟨j + 1, by omega, by go_num, HF.out⟩
          case measure => simp [intOf]; omega
    · have e : j = n := by omega
      subst e
      have HF : Hid (RetS w 600 (nodeM 1 s t (fs.filter (cntB bd lb)) (fun _ => False) (fun _ => False)) (.returned (.map (some (w.heap.size + 1)))) wr) := by
        refine ⟨_, rfl, by omega, HS.out.1.congr (fun x => ?_) (by omega), below_gr H2.out.2.1 (by omega) HS.out.2 (by omega)⟩
        rw [HN.out.1, List.take_length]
      clear HS
      go_wp2
      go_ret
      exact HF.out
end Go.Proofs.Ythcclkeeekppmaa

namespace Go.Proofs.Ythcclkeeekppmaa
open Go.RowKit Go.Deep Go.Maps
set_option linter.unusedVariables false
set_option maxRecDepth 100000
set_option linter.unusedSimpArgs false

set_option maxHeartbeats 4000000 in
theorem vertices_2 (s t : ByteArray) (bd : Bool) (lb : ByteArray) (aa : Option Addr) (oc cc : Nat) (hh : Int) (fa : Option Addr) (fc : Nat) (fs : List Fc) (w : World) (hF : RdF w fa fs) (hl : fs.length ≤ 300) (hok : FcOk fs) :
    Calls Try.prog 64 #[.agg #[.int .i64 2, .string s, .string t, .bool bd, .string lb, .slice aa oc cc, .int .i64 hh], .slice fa fs.length fc] w (RetS w 600 (nodeM 2 s t (fs.filter (cntB bd lb)) (fun _ => False) (fun _ => False))) := by
  have hmm := @run_makeMap Try.prog
  obtain ⟨n, hn⟩ : ∃ n, n = fs.length := ⟨_, rfl⟩
  rw [← hn] at hl ⊢
  have HN : Hid (n = fs.length ∧ FcOk fs) := ⟨hn, hok⟩
  have HR : Hid (RdF w fa fs) := hF
  clear hn hF hok
  obtain ⟨W2, hW2⟩ : ∃ W2, W2 = (w.alloc (.cells #[.int .i64 2, .string s, .string t, .bool bd, .string lb, .slice aa oc cc, .int .i64 hh] 65)).alloc (.map #[] 0) := ⟨_, rfl⟩
  have H2 : Hid (SSet W2 (w.heap.size + 1) 0 (nodeM 2 s t ([]) (fun _ => False) (fun _ => False)) ∧ Below w.heap.size w W2 ∧ W2.heap.size = w.heap.size + 2 ∧ RdF W2 fa fs ∧ (W2.cell? ⟨w.heap.size, 0, none⟩ = some (.int .i64 2) ∧ W2.cell? ⟨w.heap.size, 1, none⟩ = some (.string s) ∧ W2.cell? ⟨w.heap.size, 3, none⟩ = some (.bool bd) ∧ W2.cell? ⟨w.heap.size, 4, none⟩ = some (.string lb))) := by
    have hb : Below w.heap.size w W2 := by rw [hW2]; exact (below_alloc _ _).alloc (by simp) _
    have h1 := sset_new (w.alloc (.cells #[.int .i64 2, .string s, .string t, .bool bd, .string lb, .slice aa oc cc, .int .i64 hh] 65)) (nodeM 2 s t ([]) (fun _ => False) (fun _ => False)) (fun x => nodeM_nil (by omega) s t _ _ x)
    rw [World.size_alloc, ← hW2] at h1
    have hh0 : W2.heap[w.heap.size]? = some (.cells #[.int .i64 2, .string s, .string t, .bool bd, .string lb, .slice aa oc cc, .int .i64 hh] 65) := by
      rw [hW2]
      exact (Below.heap_alloc _ _ _ (by simp)).trans (blk_alloc_new w _)
    refine ⟨h1, hb, by rw [hW2]; simp, HR.out.below hb, ?_, ?_, ?_, ?_⟩ <;> simp [World.cell?, hh0]
  have hz2 := H2.out.2.2.1
  go_enter Try.func64, Try.ntmps64
  go_wp2
  rw [← hW2]
  clear hW2 hmm
  go_loopw [13] (fun i wr => ∃ j : Nat, j ≤ n ∧ i = .int .i64 j ∧ SSet wr (w.heap.size + 1) (2 * j) (nodeM 2 s t ((fs.take j).filter (cntB bd lb)) (fun _ => False) (fun _ => False)) ∧ W2.grownBy wr (some (w.heap.size + 1))) (fun i _ => n - (intOf i).toNat)
  case atStart => exact ⟨0, Nat.zero_le _, rfl, H2.out.1, gr_refl _ _⟩
  case round =>
    obtain ⟨j, hj, rfl, hs, hg⟩ := hrel
    have HS : Hid (SSet wr (w.heap.size + 1) (2 * j) (nodeM 2 s t ((fs.take j).filter (cntB bd lb)) (fun _ => False) (fun _ => False)) ∧ W2.grownBy wr (some (w.heap.size + 1))) := ⟨hs, hg⟩
    have hzr := hg.size
    clear hs hg
    by_cases hlt : j < n
    · have hjF : j < fs.length := by rw [← HN.out.1]; exact hlt
      obtain ⟨bF, oF, rfl, s0, s1, s2, s3⟩ := (H2.out.1.rdF HS.out.2 H2.out.2.2.2.1).at hjF
      obtain ⟨f, hf⟩ : ∃ f, f = fs[j] := ⟨_, rfl⟩
      rw [← hf] at s0 s1 s2 s3
      have HSZ : Hid (f.s.size ≤ maxLen ∧ f.o.size ≤ maxLen) := HN.out.2 f (by rw [hf]; exact List.getElem_mem hjF)
      have HT : Hid ((fs.take (j + 1)).filter (cntB bd lb) = (fs.take j).filter (cntB bd lb) ++ (if cntB bd lb f = true then [f] else [])) := take_filter _ (by rw [List.getElem?_eq_getElem hjF, hf])
      clear hf hjF
      obtain ⟨W4, hW4⟩ : ∃ W4, W4 = (wr.alloc (.cells #[.string f.s, .string f.p, .string f.o, .string f.g] 38)).alloc (.cells #[.string f.s, .string f.o] 9) := ⟨_, rfl⟩
      obtain ⟨b7, hb7⟩ : ∃ b7, b7 = wr.heap.size := ⟨_, rfl⟩
      have HW4 : Hid (Below wr.heap.size wr W4) := by rw [hW4]; exact (below_alloc _ _).alloc (by simp) _
      have HC : Hid (∀ W, W4.grownBy W (some (w.heap.size + 1)) → (W.cell? ⟨w.heap.size, 0, none⟩ = some (.int .i64 2) ∧ W.cell? ⟨w.heap.size, 1, none⟩ = some (.string s) ∧ W.cell? ⟨w.heap.size, 3, none⟩ = some (.bool bd) ∧ W.cell? ⟨w.heap.size, 4, none⟩ = some (.string lb)) ∧ (W.cell? ⟨b7, 0, none⟩ = some (.string f.s) ∧ W.cell? ⟨b7, 1, none⟩ = some (.string f.p) ∧ W.cell? ⟨b7, 2, none⟩ = some (.string f.o) ∧ W.cell? ⟨b7, 3, none⟩ = some (.string f.g)) ∧ (W.cell? ⟨b7 + 1, 0, none⟩ = some (.string f.s) ∧ W.cell? ⟨b7 + 1, 1, none⟩ = some (.string f.o)) ∧ b7 + 1 < W.heap.size ∧ w.heap.size < W.heap.size ∧ W2.grownBy W (some (w.heap.size + 1))) := fun W hW => by
        have hS4 := HS.out.1.below HW4.out
        have hg4 : W2.grownBy W4 (some (w.heap.size + 1)) := gr_below HS.out.2 HW4.out
        have e0 : W4.heap[b7]? = some (.cells #[.string f.s, .string f.p, .string f.o, .string f.g] 38) := by
          rw [hW4, hb7]
          exact (Below.heap_alloc _ _ _ (by simp)).trans (blk_alloc_new wr _)
        have e1 : W4.heap[b7 + 1]? = some (.cells #[.string f.s, .string f.o] 9) := by
          have := blk_alloc_new (wr.alloc (.cells #[.string f.s, .string f.p, .string f.o, .string f.g] 38)) (.cells #[.string f.s, .string f.o] 9)
          rw [hW4, hb7]
          rwa [World.size_alloc] at this
        have c : ∀ (b o : Nat) (v : Value), W4.cell? ⟨b, o, none⟩ = some v → W.cell? ⟨b, o, none⟩ = some v := fun b o v q => hS4.cell hW q
        have c2 : ∀ (b o : Nat) (v : Value), W2.cell? ⟨b, o, none⟩ = some v → W.cell? ⟨b, o, none⟩ = some v := fun b o v q => c _ _ _ (H2.out.1.cell hg4 q)
        have zz : b7 + 1 < W4.heap.size := (Array.getElem?_eq_some_iff.1 e1).1
        have z4 := hW.size
        refine ⟨⟨c2 _ _ _ H2.out.2.2.2.2.1, c2 _ _ _ H2.out.2.2.2.2.2.1, c2 _ _ _ H2.out.2.2.2.2.2.2.1, c2 _ _ _ H2.out.2.2.2.2.2.2.2⟩, ⟨c _ _ _ ?_, c _ _ _ ?_, c _ _ _ ?_, c _ _ _ ?_⟩, ⟨c _ _ _ ?_, c _ _ _ ?_⟩, by omega, by have := hg4.size; omega, gr_trans hg4 hW⟩
        · simp [World.cell?, e0]
        · simp [World.cell?, e0]
        · simp [World.cell?, e0]
        · simp [World.cell?, e0]
        · simp [World.cell?, e1]
        · simp [World.cell?, e1]
      have i0 : (0 : Int) ≤ (j : Int) := by omega
      have i1 : (j : Int) < (n : Int) := by omega
      go_wp2
      rw [← hW4, ← hb7]
      clear s0 s1 s2 s3
      have H4 : Hid (SSet W4 (w.heap.size + 1) (2 * j + 0) (fun x => nodeM 2 s t ((fs.take j).filter (cntB bd lb)) (fun _ => False) (fun _ => False) x ∨ (cntB bd lb f = true ∧ ((0 < 0 ∧ f.s = s ∧ x = f.s) ∨ (1 < 0 ∧ f.o = s ∧ x = f.o))))) := (HS.out.1.below HW4.out).congr (fun x => by simp) (by omega)
      clear hW4 hb7
      obtain ⟨wo, hwo⟩ : ∃ wo, wo = wr := ⟨_, rfl⟩
      subst hwo
      go_loopw [23] (fun i wr => ∃ q : Nat, q ≤ 2 ∧ i = .int .i64 q ∧ SSet wr (w.heap.size + 1) (2 * j + q) (fun x => nodeM 2 s t ((fs.take j).filter (cntB bd lb)) (fun _ => False) (fun _ => False) x ∨ (cntB bd lb f = true ∧ ((0 < q ∧ f.s = s ∧ x = f.s) ∨ (1 < q ∧ f.o = s ∧ x = f.o)))) ∧ W4.grownBy wr (some (w.heap.size + 1))) (fun i _ => 2 - (intOf i).toNat)
      case atStart => exact ⟨0, Nat.zero_le _, rfl, H4.out, gr_refl _ _⟩
      case round =>
        obtain ⟨q, hq, rfl, hs, hg⟩ := hrel
        have HI : Hid (SSet wr (w.heap.size + 1) (2 * j + q) (fun x => nodeM 2 s t ((fs.take j).filter (cntB bd lb)) (fun _ => False) (fun _ => False) x ∨ (cntB bd lb f = true ∧ ((0 < q ∧ f.s = s ∧ x = f.s) ∨ (1 < q ∧ f.o = s ∧ x = f.o)))) ∧ W4.grownBy wr (some (w.heap.size + 1))) := ⟨hs, hg⟩
        clear hs hg
        have hq3 : q = 0 ∨ q = 1 ∨ q = 2 := by omega
        rcases hq3 with rfl | rfl | rfl
        · obtain ⟨⟨x0, x1, x3, x4⟩, ⟨z0, z1, z2, z3⟩, ⟨y0, y1⟩, l7, l2, -⟩ := HC.out wr HI.out.2
          go_wp2_with fail
          refine (counts_any bd lb f wr).mono ?_
          rintro e w5 ⟨rfl, hb5⟩
          have H5 : Hid (SSet w5 (w.heap.size + 1) (2 * j + 0) (fun x => nodeM 2 s t ((fs.take j).filter (cntB bd lb)) (fun _ => False) (fun _ => False) x ∨ (cntB bd lb f = true ∧ ((0 < 0 ∧ f.s = s ∧ x = f.s) ∨ (1 < 0 ∧ f.o = s ∧ x = f.o)))) ∧ W4.grownBy w5 (some (w.heap.size + 1))) := ⟨HI.out.1.below hb5, gr_below HI.out.2 hb5⟩
          clear hb5 HI x0 x1 x3 x4 z0 z1 z2 z3 y0 y1 l7 l2
          obtain ⟨⟨x0, x1, x3, x4⟩, ⟨z0, z1, z2, z3⟩, ⟨y0, y1⟩, l7, l2, -⟩ := HC.out w5 H5.out.2
          cases hcb : cntB bd lb f with
          | false =>
            have HX : Hid (SSet w5 (w.heap.size + 1) (2 * j + (0 + 1)) (fun x => nodeM 2 s t ((fs.take j).filter (cntB bd lb)) (fun _ => False) (fun _ => False) x ∨ (cntB bd lb f = true ∧ ((0 < (0 + 1) ∧ f.s = s ∧ x = f.s) ∨ (1 < (0 + 1) ∧ f.o = s ∧ x = f.o)))) ∧ W4.grownBy w5 (some (w.heap.size + 1))) := ⟨H5.out.1.congr (fun x => by simp [hcb]) (by omega), H5.out.2⟩
            clear H5
            go_wp2
            go_roundw
            case rel => exact ⟨0 + 1, by omega, by go_num, HX.out⟩
            case measure => simp [intOf]
          | true =>
            by_cases hv : f.s = s
            · have q1 : (f.s.toList == s.toList) = true := str_eq.2 hv
              have HV : Hid (f.s = s) := hv
              clear hv
              go_wp2_with fail
              refine (add_any (w.heap.size + 1) (2 * j + 0) _ f.s w5 H5.out.1 (by omega) HSZ.out.1).mono ?_
              rintro e w6 ⟨rfl, hs6, hg6⟩
              have HX : Hid (SSet w6 (w.heap.size + 1) (2 * j + (0 + 1)) (fun x => nodeM 2 s t ((fs.take j).filter (cntB bd lb)) (fun _ => False) (fun _ => False) x ∨ (cntB bd lb f = true ∧ ((0 < (0 + 1) ∧ f.s = s ∧ x = f.s) ∨ (1 < (0 + 1) ∧ f.o = s ∧ x = f.o)))) ∧ W4.grownBy w6 (some (w.heap.size + 1))) := ⟨hs6.congr (fun x => by have hv := HV.out; simp [hcb, hv, or_assoc]) (by omega), gr_trans H5.out.2 hg6⟩
              clear hs6 hg6 H5
              go_wp2
              go_roundw
              case rel => exact ⟨0 + 1, by omega, by go_num, HX.out⟩
              case measure => simp [intOf]
            · have q1 : (f.s.toList == s.toList) = false := by
                cases hq : (f.s.toList == s.toList) with
                | false => rfl
                | true => exact absurd (str_eq.1 hq) hv
              have HX : Hid (SSet w5 (w.heap.size + 1) (2 * j + (0 + 1)) (fun x => nodeM 2 s t ((fs.take j).filter (cntB bd lb)) (fun _ => False) (fun _ => False) x ∨ (cntB bd lb f = true ∧ ((0 < (0 + 1) ∧ f.s = s ∧ x = f.s) ∨ (1 < (0 + 1) ∧ f.o = s ∧ x = f.o)))) ∧ W4.grownBy w5 (some (w.heap.size + 1))) := ⟨H5.out.1.congr (fun x => by simp [hcb, hv]) (by omega), H5.out.2⟩
              clear H5
              go_wp2
              go_roundw
              case rel => exact ⟨0 + 1, by omega, by go_num, HX.out⟩
              case measure => simp [intOf]
        · obtain ⟨⟨x0, x1, x3, x4⟩, ⟨z0, z1, z2, z3⟩, ⟨y0, y1⟩, l7, l2, -⟩ := HC.out wr HI.out.2
          go_wp2_with fail
          refine (counts_any bd lb f wr).mono ?_
          rintro e w5 ⟨rfl, hb5⟩
          have H5 : Hid (SSet w5 (w.heap.size + 1) (2 * j + 1) (fun x => nodeM 2 s t ((fs.take j).filter (cntB bd lb)) (fun _ => False) (fun _ => False) x ∨ (cntB bd lb f = true ∧ ((0 < 1 ∧ f.s = s ∧ x = f.s) ∨ (1 < 1 ∧ f.o = s ∧ x = f.o)))) ∧ W4.grownBy w5 (some (w.heap.size + 1))) := ⟨HI.out.1.below hb5, gr_below HI.out.2 hb5⟩
          clear hb5 HI x0 x1 x3 x4 z0 z1 z2 z3 y0 y1 l7 l2
          obtain ⟨⟨x0, x1, x3, x4⟩, ⟨z0, z1, z2, z3⟩, ⟨y0, y1⟩, l7, l2, -⟩ := HC.out w5 H5.out.2
          cases hcb : cntB bd lb f with
          | false =>
            have HX : Hid (SSet w5 (w.heap.size + 1) (2 * j + (1 + 1)) (fun x => nodeM 2 s t ((fs.take j).filter (cntB bd lb)) (fun _ => False) (fun _ => False) x ∨ (cntB bd lb f = true ∧ ((0 < (1 + 1) ∧ f.s = s ∧ x = f.s) ∨ (1 < (1 + 1) ∧ f.o = s ∧ x = f.o)))) ∧ W4.grownBy w5 (some (w.heap.size + 1))) := ⟨H5.out.1.congr (fun x => by simp [hcb]) (by omega), H5.out.2⟩
            clear H5
            go_wp2
            go_roundw
            case rel => exact ⟨1 + 1, by omega, by go_num, HX.out⟩
            case measure => simp [intOf]
          | true =>
            by_cases hv : f.o = s
            · have q1 : (f.o.toList == s.toList) = true := str_eq.2 hv
              have HV : Hid (f.o = s) := hv
              clear hv
              go_wp2_with fail
              refine (add_any (w.heap.size + 1) (2 * j + 1) _ f.o w5 H5.out.1 (by omega) HSZ.out.2).mono ?_
              rintro e w6 ⟨rfl, hs6, hg6⟩
              have HX : Hid (SSet w6 (w.heap.size + 1) (2 * j + (1 + 1)) (fun x => nodeM 2 s t ((fs.take j).filter (cntB bd lb)) (fun _ => False) (fun _ => False) x ∨ (cntB bd lb f = true ∧ ((0 < (1 + 1) ∧ f.s = s ∧ x = f.s) ∨ (1 < (1 + 1) ∧ f.o = s ∧ x = f.o)))) ∧ W4.grownBy w6 (some (w.heap.size + 1))) := ⟨hs6.congr (fun x => by have hv := HV.out; simp [hcb, hv, or_assoc]) (by omega), gr_trans H5.out.2 hg6⟩
              clear hs6 hg6 H5
              go_wp2
              go_roundw
              case rel => exact ⟨1 + 1, by omega, by go_num, HX.out⟩
              case measure => simp [intOf]
            · have q1 : (f.o.toList == s.toList) = false := by
                cases hq : (f.o.toList == s.toList) with
                | false => rfl
                | true => exact absurd (str_eq.1 hq) hv
              have HX : Hid (SSet w5 (w.heap.size + 1) (2 * j + (1 + 1)) (fun x => nodeM 2 s t ((fs.take j).filter (cntB bd lb)) (fun _ => False) (fun _ => False) x ∨ (cntB bd lb f = true ∧ ((0 < (1 + 1) ∧ f.s = s ∧ x = f.s) ∨ (1 < (1 + 1) ∧ f.o = s ∧ x = f.o)))) ∧ W4.grownBy w5 (some (w.heap.size + 1))) := ⟨H5.out.1.congr (fun x => by simp [hcb, hv]) (by omega), H5.out.2⟩
              clear H5
              go_wp2
              go_roundw
              case rel => exact ⟨1 + 1, by omega, by go_num, HX.out⟩
              case measure => simp [intOf]
        · have HF : Hid (SSet wr (w.heap.size + 1) (2 * (j + 1)) (nodeM 2 s t ((fs.take (j + 1)).filter (cntB bd lb)) (fun _ => False) (fun _ => False)) ∧ W2.grownBy wr (some (w.heap.size + 1))) := by
            refine ⟨HI.out.1.congr (fun x => ?_) (by omega), (HC.out wr HI.out.2).2.2.2.2.2⟩
            rw [HT.out]
            cases hc : cntB bd lb f with
            | false => simp
            | true =>
              rw [if_pos rfl, nodeM_app (by omega)]
              simp [stepM]
              constructor
              · rintro (q | ⟨q1, q2⟩ | ⟨q1, q2⟩)
                · exact .inl q
                · exact .inr ⟨.inl q1, by rw [q2, q1]⟩
                · exact .inr ⟨.inr q1, by rw [q2, q1]⟩
              · rintro (q | ⟨q1 | q1, q2⟩)
                · exact .inl q
                · exact .inr (.inl ⟨q1, by rw [q2, q1]⟩)
                · exact .inr (.inr ⟨q1, by rw [q2, q1]⟩)
          clear HI H4
          go_wp2
          go_roundw
          case rel => exact ⟨j + 1, by omega, by go_num, HF.out⟩
          case measure => simp [intOf]; omega
    · have e : j = n := by omega
      subst e
      have HF : Hid (RetS w 600 (nodeM 2 s t (fs.filter (cntB bd lb)) (fun _ => False) (fun _ => False)) (.returned (.map (some (w.heap.size + 1)))) wr) := by
        refine ⟨_, rfl, by omega, HS.out.1.congr (fun x => ?_) (by omega), below_gr H2.out.2.1 (by omega) HS.out.2 (by omega)⟩
        rw [HN.out.1, List.take_length]
      clear HS
      go_wp2
      go_ret
      exact HF.out
end Go.Proofs.Ythcclkeeekppmaa
