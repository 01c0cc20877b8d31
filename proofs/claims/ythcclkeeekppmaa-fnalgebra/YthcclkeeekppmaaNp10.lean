import Derived.Test.YthcclkeeekppmaaNp7
namespace Go.Proofs.Ythcclkeeekppmaa
open Go.RowKit Go.Deep Go.Maps
set_option linter.unusedVariables false
set_option maxRecDepth 100000
set_option linter.unusedSimpArgs false

set_option maxHeartbeats 4000000 in
theorem combined_6 (s t : ByteArray) (bd : Bool) (lb : ByteArray) (aa : Option Addr) (oc cc : Nat) (hh : Int) (Ba Na Bb Nb : Nat) (A Q : ByteArray → Prop) (F : List Fc) (w : World) (ha : SSet w Ba Na A) (hb : SSet w Bb Nb Q) (hNa : Na ≤ 1048576) :
    Calls Try.prog 65 #[.agg #[.int .i64 6, .string s, .string t, .bool bd, .string lb, .slice aa oc cc, .int .i64 hh], .map (some Ba), .map (some Bb)] w (RetS w Na (nodeM 6 s t F A Q)) := by
  have hmm := @run_makeMap Try.prog
  have hBa := ha.lt
  have hBb := hb.lt
  obtain ⟨DA, hDA, hA⟩ := ha
  have HB : Hid (SSet w Bb Nb Q) := hb
  have HA : Hid (∀ x, Maps.has DA (kS x) = true ↔ A x) := hA
  have hsz := hDA.size_le
  have hD2 : ((w.alloc (.cells #[.int .i64 6, .string s, .string t, .bool bd, .string lb, .slice aa oc cc, .int .i64 hh] 65)).alloc (.map #[] 0)).ownsMap Try.prog 9 unitElem Ba Na DA := (hDA.alloc _).alloc _
  have H2 : Hid (∀ w0, ((w.alloc (.cells #[.int .i64 6, .string s, .string t, .bool bd, .string lb, .slice aa oc cc, .int .i64 hh] 65)).alloc (.map #[] 0)).grownBy w0 none → SSet w0 (w.heap.size + 1) 0 (fun x => A x ∧ Maps.has DA (kS x) = false ∧ Q x) ∧ SSet w0 Bb Nb Q ∧ w0.cell? ⟨w.heap.size, 0, none⟩ = some (.int .i64 6) ∧ Below w.heap.size w w0) := fun w0 hg => by
    have h1 := sset_new (w.alloc (.cells #[.int .i64 6, .string s, .string t, .bool bd, .string lb, .slice aa oc cc, .int .i64 hh] 65)) (fun x => A x ∧ Maps.has DA (kS x) = false ∧ Q x) (fun x q => by have := (HA.out x).2 q.1; rw [q.2.1] at this; cases this)
    rw [World.size_alloc] at h1
    have hbl : Below w.heap.size w ((w.alloc (.cells #[.int .i64 6, .string s, .string t, .bool bd, .string lb, .slice aa oc cc, .int .i64 hh] 65)).alloc (.map #[] 0)) := (below_alloc _ _).alloc (by simp) _
    have hh0 : ((w.alloc (.cells #[.int .i64 6, .string s, .string t, .bool bd, .string lb, .slice aa oc cc, .int .i64 hh] 65)).alloc (.map #[] 0)).heap[w.heap.size]? = some (.cells #[.int .i64 6, .string s, .string t, .bool bd, .string lb, .slice aa oc cc, .int .i64 hh] 65) := (Below.heap_alloc _ _ _ (by simp)).trans (blk_alloc_new w _)
    have hz : w.heap.size < ((w.alloc (.cells #[.int .i64 6, .string s, .string t, .bool bd, .string lb, .slice aa oc cc, .int .i64 hh] 65)).alloc (.map #[] 0)).heap.size := by simp; omega
    have hh1 := (hg.block _ hz (by simp)).trans hh0
    refine ⟨h1.kept hg (by simp), (HB.out.below hbl).kept hg (by simp), by simp [World.cell?, hh1], hbl.grown hg (by simp; omega) (fun k e => by cases e)⟩
  have e1 : ((w.alloc (.cells #[.int .i64 6, .string s, .string t, .bool bd, .string lb, .slice aa oc cc, .int .i64 hh] 65)).alloc (.map #[] 0)).heap.size = w.heap.size + 2 := by simp
  clear hb hA
  go_enter Try.func65, Try.ntmps65
  go_wp2_with (first
    | (at_range; refine wpList_range_own _ rfl _ 67 rfl 9 74 strK undSet unitElem Ba Na DA rfl hD2 ?_; intro w0 hrg0 hg0 hs0)
    | go_in)
  go_frame
  rw [e1] at hrg0 hs0 ⊢
  have H0 : Hid (w0.ranges Try.prog 9 unitElem Ba (w.heap.size + 2) Na DA (Maps.has DA) (Maps.size DA) ∧ SSet w0 (w.heap.size + 1) (Na - (Maps.size DA)) (fun z0 => A z0 ∧ (Maps.has DA) (kS z0) = false ∧ Q z0) ∧ (SSet w0 Bb Nb Q ∧ w0.cell? ⟨w.heap.size, 0, none⟩ = some (.int .i64 6) ∧ w.heap.size + 2 < w0.heap.size) ∧ Below w.heap.size w w0) := by
    obtain ⟨q1, q2, q3, q4⟩ := H2.out w0 hg0
    exact ⟨hrg0, q1.congr (fun _ => Iff.rfl) (by omega), ⟨q2, q3, by omega⟩, q4⟩
  clear hrg0 hg0 H2 hD2 hmm
  go_loopw [9] (fun _ wr => ∃ (left : Lit → Bool) (cnt : Nat), cnt ≤ Na ∧ wr.ranges Try.prog 9 unitElem Ba (w.heap.size + 2) Na DA left cnt ∧ SSet wr (w.heap.size + 1) (Na - cnt) (fun z0 => A z0 ∧ left (kS z0) = false ∧ Q z0) ∧ (SSet wr Bb Nb Q ∧ wr.cell? ⟨w.heap.size, 0, none⟩ = some (.int .i64 6) ∧ w.heap.size + 2 < wr.heap.size) ∧ Below w.heap.size w wr) (fun _ wr => wr.rangeLeft Ba (w.heap.size + 2))
  case atStart => exact ⟨_, _, hsz, H0.out⟩
  case round =>
    obtain ⟨left, cnt, hcn, hrg, hs, hq, hbl⟩ := hrel
    have HI : Hid (wr.ranges Try.prog 9 unitElem Ba (w.heap.size + 2) Na DA left cnt ∧ SSet wr (w.heap.size + 1) (Na - cnt) (fun z0 => A z0 ∧ left (kS z0) = false ∧ Q z0) ∧ (SSet wr Bb Nb Q ∧ wr.cell? ⟨w.heap.size, 0, none⟩ = some (.int .i64 6) ∧ w.heap.size + 2 < wr.heap.size) ∧ Below w.heap.size w wr) := ⟨hrg, hs, hq, hbl⟩
    clear hrg hs hq hbl H0
    go_wp2_with (first
      | (at_next; refine wpList_next_ranges _ rfl _ rfl 9 strK unitElem Value.string (fun _ : Unit => .agg #[]) (fun _ _ h => key_inv h) (fun _ _ h => unit_inv h) Ba (w.heap.size + 2) Na DA _ _ rfl HI.out.1 ?_ ?_)
      | go_in)
    · intro hc0 hl0
      have HF : Hid (RetS w Na (nodeM 6 s t F A Q) (.returned (.map (some (w.heap.size + 1)))) wr) := by
        refine ⟨_, rfl, by omega, HI.out.2.1.congr (fun x => ?_) (by omega), HI.out.2.2.2⟩
        rw [hl0]
        simp [nodeM]
      clear HI hc0 hl0
      go_wp2
      go_ret
      exact HF.out
    · intro x _ kl y w1 cnt1 hkey hlk hv hat hrg1 hlt hg1 hs1 hen
      obtain ⟨rfl, hxs⟩ := key_str hkey
      have hAx : A x := (HA.out x).1 (has_true_of_atKey hat)
      have HCL : Hid (wr.rangeLeft Ba (w.heap.size + 2) = cnt) := HI.out.1.left_eq
      have H1 : Hid (w1.ranges Try.prog 9 unitElem Ba (w.heap.size + 2) Na DA (fun z => left z && !z.sameKey (kS x)) cnt1 ∧ SSet w1 (w.heap.size + 1) (Na - cnt) (fun x => A x ∧ left (kS x) = false ∧ Q x) ∧ (SSet w1 Bb Nb Q ∧ w1.cell? ⟨w.heap.size, 0, none⟩ = some (.int .i64 6) ∧ w.heap.size + 2 < w1.heap.size) ∧ Below w.heap.size w w1) := by
        obtain ⟨q1, q2, ⟨q3, q4, q5⟩, q6⟩ := HI.out
        have hc : w1.cell? ⟨w.heap.size, 0, none⟩ = some (.int .i64 6) := by
          rw [World.cell?_of_block (a := ⟨w.heap.size, 0, none⟩) (hg1.block w.heap.size (by omega) (fun e => by injection e with e; omega))]
          exact q4
        exact ⟨hrg1, q2.kept hg1 (fun e => by injection e with e; omega), ⟨q3.kept hg1 (fun e => by injection e with e; omega), hc, by omega⟩, q6.grown hg1 (by omega) (fun k e => by injection e with e; omega)⟩
      have HAx : Hid (A x ∧ x.size ≤ maxLen) := ⟨hAx, hxs⟩
      clear hkey hlk hv hat hrg1 hg1 HI hAx hxs
      -- how it goes on from a later world
      have HG : Hid (∀ W, Below w1.heap.size w1 W → W.ranges Try.prog 9 unitElem Ba (w.heap.size + 2) Na DA (fun z => left z && !z.sameKey (kS x)) cnt1 ∧ SSet W (w.heap.size + 1) (Na - cnt) (fun x => A x ∧ left (kS x) = false ∧ Q x) ∧ (SSet W Bb Nb Q ∧ W.cell? ⟨w.heap.size, 0, none⟩ = some (.int .i64 6) ∧ w.heap.size + 2 < W.heap.size) ∧ Below w.heap.size w W) := fun W hW => by
        obtain ⟨q1, q2, ⟨q3, q4, q5⟩, q6⟩ := H1.out
        have hg : w1.grownBy W none := ⟨hW.os, hW.tape, hW.output, hW.size, fun k hk _ => hW.block k hk⟩
        have hz := hW.size
        exact ⟨q1.kept hg (by simp) (by simp), q2.below hW, ⟨q3.below hW, (hW.cell (World.block_lt_of_cell? _ _ q4)).trans q4, by omega⟩, q6.trans (hW.mono (by omega))⟩
      have J0 : Hid (Below w1.heap.size w1 w1.drew) := (Below.refl _ _).drew
      have JH : Hid (Calls Try.prog 104 #[.map (some Bb), .string x] w1.drew fun e w' => ∃ b : Bool, e = .returned (.bool b) ∧ (b = true ↔ Q x) ∧ Below w1.drew.heap.size w1.drew w') := has_any Bb Nb Q x w1.drew (HG.out _ J0.out).2.2.1.1 HAx.out.2
      have c0 := H1.out.2.2.1.2.1
      have l0 : w.heap.size < w1.heap.size := by have := H1.out.2.2.1.2.2; omega
      go_upto_region 9 with fail
      go_region_held3 (fun w' => w'.cell? ⟨w.heap.size, 0, none⟩ = some (.int .i64 6)) (first | exact (HG.out _ J7.out.1).2.2.1.2.1 | exact (HG.out _ J0.out).2.2.1.2.1 | go_keep)
        (first
        | (go_at_call 104; (with_reducible refine JH.out.mono ?_); rintro e w7 ⟨bq, rfl, hbq, hb7⟩; have J7 : Hid (Below w1.heap.size w1 w7 ∧ (bq = true ↔ Q x)) := ⟨J0.out.trans (hb7.mono J0.out.size), hbq⟩; clear hbq hb7)
        | fail)
      have H7 := HG.out w7 J7.out.1
      have H7h : Hid (w7.ranges Try.prog 9 unitElem Ba (w.heap.size + 2) Na DA (fun z => left z && !z.sameKey (kS x)) cnt1 ∧ SSet w7 (w.heap.size + 1) (Na - cnt) (fun x => A x ∧ left (kS x) = false ∧ Q x) ∧ (SSet w7 Bb Nb Q ∧ w7.cell? ⟨w.heap.size, 0, none⟩ = some (.int .i64 6) ∧ w.heap.size + 2 < w7.heap.size) ∧ Below w.heap.size w w7) := H7
      have HBq : Hid (bq = true ↔ Q x) := J7.out.2
      clear H7 J7 JH J0 c0 l0
      cases bq with
      | true =>
        have HK : Hid (Q x) := HBq.out.1 rfl
        clear HBq
        go_wp2_with fail
        refine (add_any (w.heap.size + 1) (Na - cnt) _ x w7 H7h.out.2.1 (by omega) HAx.out.2).mono ?_
        rintro e w8 ⟨rfl, hs8, hg8⟩
        have HX : Hid (w8.ranges Try.prog 9 unitElem Ba (w.heap.size + 2) Na DA (fun z => left z && !z.sameKey (kS x)) cnt1 ∧ SSet w8 (w.heap.size + 1) (Na - cnt1) (fun z0 => A z0 ∧ (fun z => left z && !z.sameKey (kS x)) (kS z0) = false ∧ Q z0) ∧ (SSet w8 Bb Nb Q ∧ w8.cell? ⟨w.heap.size, 0, none⟩ = some (.int .i64 6) ∧ w.heap.size + 2 < w8.heap.size) ∧ Below w.heap.size w w8) := by
          obtain ⟨q1, q2, ⟨q3, q4, q5⟩, q6⟩ := H7h.out
          refine ⟨q1.kept hg8 (fun e => by injection e with e; omega) (fun e => by injection e with e; omega), hs8.congr (fun y => ?_) (by omega), ⟨q3.kept hg8 (fun e => by injection e with e; omega), ?_, by have := hg8.size; omega⟩, below_gr q6 (by omega) hg8 (by omega)⟩
          · have hk := HK.out
            have ha := HAx.out.1
            show _ ↔ A y ∧ (left (kS y) && !(kS y).sameKey (kS x)) = false ∧ _
            rw [left_step]
            by_cases e : y = x
            · subst e
              simp [hk, ha]
            · simp [e]
          · exact q2.cell hg8 q4
        clear hs8 hg8 H7h
        go_wp2
        go_roundw
        case rel => exact ⟨_, cnt1, by omega, HX.out⟩
        case measure => rw [HX.out.1.left_eq, HCL.out]; exact hlt
      | false =>
        have HK : Hid (¬ (Q x)) := fun q => by have := HBq.out.2 q; cases this
        clear HBq
        have HX : Hid (w7.ranges Try.prog 9 unitElem Ba (w.heap.size + 2) Na DA (fun z => left z && !z.sameKey (kS x)) cnt1 ∧ SSet w7 (w.heap.size + 1) (Na - cnt1) (fun z0 => A z0 ∧ (fun z => left z && !z.sameKey (kS x)) (kS z0) = false ∧ Q z0) ∧ (SSet w7 Bb Nb Q ∧ w7.cell? ⟨w.heap.size, 0, none⟩ = some (.int .i64 6) ∧ w.heap.size + 2 < w7.heap.size) ∧ Below w.heap.size w w7) := by
          obtain ⟨q1, q2, q3, q6⟩ := H7h.out
          refine ⟨q1, q2.congr (fun y => ?_) (by omega), q3, q6⟩
          have hk := HK.out
          show _ ↔ A y ∧ (left (kS y) && !(kS y).sameKey (kS x)) = false ∧ _
          rw [left_step]
          by_cases e : y = x
          · subst e
            constructor
            · rintro ⟨_, _, q⟩
              exact absurd q hk
            · rintro ⟨_, _, q⟩
              exact absurd q hk
          · simp [e]
        clear H7h
        go_wp2
        go_roundw
        case rel => exact ⟨_, cnt1, by omega, HX.out⟩
        case measure => rw [HX.out.1.left_eq, HCL.out]; exact hlt
end Go.Proofs.Ythcclkeeekppmaa

namespace Go.Proofs.Ythcclkeeekppmaa
open Go.RowKit Go.Deep Go.Maps
set_option linter.unusedVariables false
set_option maxRecDepth 100000
set_option linter.unusedSimpArgs false

set_option maxHeartbeats 4000000 in
theorem combined_8 (s t : ByteArray) (bd : Bool) (lb : ByteArray) (aa : Option Addr) (oc cc : Nat) (hh : Int) (Ba Na Bb Nb : Nat) (A Q : ByteArray → Prop) (F : List Fc) (w : World) (ha : SSet w Ba Na A) (hb : SSet w Bb Nb Q) (hNa : Na ≤ 1048576) :
    Calls Try.prog 65 #[.agg #[.int .i64 8, .string s, .string t, .bool bd, .string lb, .slice aa oc cc, .int .i64 hh], .map (some Ba), .map (some Bb)] w (RetS w Na (nodeM 8 s t F A Q)) := by
  have hmm := @run_makeMap Try.prog
  have hBa := ha.lt
  have hBb := hb.lt
  obtain ⟨DA, hDA, hA⟩ := ha
  have HB : Hid (SSet w Bb Nb Q) := hb
  have HA : Hid (∀ x, Maps.has DA (kS x) = true ↔ A x) := hA
  have hsz := hDA.size_le
  have hD2 : ((w.alloc (.cells #[.int .i64 8, .string s, .string t, .bool bd, .string lb, .slice aa oc cc, .int .i64 hh] 65)).alloc (.map #[] 0)).ownsMap Try.prog 9 unitElem Ba Na DA := (hDA.alloc _).alloc _
  have H2 : Hid (∀ w0, ((w.alloc (.cells #[.int .i64 8, .string s, .string t, .bool bd, .string lb, .slice aa oc cc, .int .i64 hh] 65)).alloc (.map #[] 0)).grownBy w0 none → SSet w0 (w.heap.size + 1) 0 (fun x => A x ∧ Maps.has DA (kS x) = false ∧ ¬ Q x) ∧ SSet w0 Bb Nb Q ∧ w0.cell? ⟨w.heap.size, 0, none⟩ = some (.int .i64 8) ∧ Below w.heap.size w w0) := fun w0 hg => by
    have h1 := sset_new (w.alloc (.cells #[.int .i64 8, .string s, .string t, .bool bd, .string lb, .slice aa oc cc, .int .i64 hh] 65)) (fun x => A x ∧ Maps.has DA (kS x) = false ∧ ¬ Q x) (fun x q => by have := (HA.out x).2 q.1; rw [q.2.1] at this; cases this)
    rw [World.size_alloc] at h1
    have hbl : Below w.heap.size w ((w.alloc (.cells #[.int .i64 8, .string s, .string t, .bool bd, .string lb, .slice aa oc cc, .int .i64 hh] 65)).alloc (.map #[] 0)) := (below_alloc _ _).alloc (by simp) _
    have hh0 : ((w.alloc (.cells #[.int .i64 8, .string s, .string t, .bool bd, .string lb, .slice aa oc cc, .int .i64 hh] 65)).alloc (.map #[] 0)).heap[w.heap.size]? = some (.cells #[.int .i64 8, .string s, .string t, .bool bd, .string lb, .slice aa oc cc, .int .i64 hh] 65) := (Below.heap_alloc _ _ _ (by simp)).trans (blk_alloc_new w _)
    have hz : w.heap.size < ((w.alloc (.cells #[.int .i64 8, .string s, .string t, .bool bd, .string lb, .slice aa oc cc, .int .i64 hh] 65)).alloc (.map #[] 0)).heap.size := by simp; omega
    have hh1 := (hg.block _ hz (by simp)).trans hh0
    refine ⟨h1.kept hg (by simp), (HB.out.below hbl).kept hg (by simp), by simp [World.cell?, hh1], hbl.grown hg (by simp; omega) (fun k e => by cases e)⟩
  have e1 : ((w.alloc (.cells #[.int .i64 8, .string s, .string t, .bool bd, .string lb, .slice aa oc cc, .int .i64 hh] 65)).alloc (.map #[] 0)).heap.size = w.heap.size + 2 := by simp
  clear hb hA
  go_enter Try.func65, Try.ntmps65
  go_wp2_with (first
    | (at_range; refine wpList_range_own _ rfl _ 67 rfl 9 74 strK undSet unitElem Ba Na DA rfl hD2 ?_; intro w0 hrg0 hg0 hs0)
    | go_in)
  go_frame
  rw [e1] at hrg0 hs0 ⊢
  have H0 : Hid (w0.ranges Try.prog 9 unitElem Ba (w.heap.size + 2) Na DA (Maps.has DA) (Maps.size DA) ∧ SSet w0 (w.heap.size + 1) (Na - (Maps.size DA)) (fun z0 => A z0 ∧ (Maps.has DA) (kS z0) = false ∧ ¬ Q z0) ∧ (SSet w0 Bb Nb Q ∧ w0.cell? ⟨w.heap.size, 0, none⟩ = some (.int .i64 8) ∧ w.heap.size + 2 < w0.heap.size) ∧ Below w.heap.size w w0) := by
    obtain ⟨q1, q2, q3, q4⟩ := H2.out w0 hg0
    exact ⟨hrg0, q1.congr (fun _ => Iff.rfl) (by omega), ⟨q2, q3, by omega⟩, q4⟩
  clear hrg0 hg0 H2 hD2 hmm
  go_loopw [9] (fun _ wr => ∃ (left : Lit → Bool) (cnt : Nat), cnt ≤ Na ∧ wr.ranges Try.prog 9 unitElem Ba (w.heap.size + 2) Na DA left cnt ∧ SSet wr (w.heap.size + 1) (Na - cnt) (fun z0 => A z0 ∧ left (kS z0) = false ∧ ¬ Q z0) ∧ (SSet wr Bb Nb Q ∧ wr.cell? ⟨w.heap.size, 0, none⟩ = some (.int .i64 8) ∧ w.heap.size + 2 < wr.heap.size) ∧ Below w.heap.size w wr) (fun _ wr => wr.rangeLeft Ba (w.heap.size + 2))
  case atStart => exact ⟨_, _, hsz, H0.out⟩
  case round =>
    obtain ⟨left, cnt, hcn, hrg, hs, hq, hbl⟩ := hrel
    have HI : Hid (wr.ranges Try.prog 9 unitElem Ba (w.heap.size + 2) Na DA left cnt ∧ SSet wr (w.heap.size + 1) (Na - cnt) (fun z0 => A z0 ∧ left (kS z0) = false ∧ ¬ Q z0) ∧ (SSet wr Bb Nb Q ∧ wr.cell? ⟨w.heap.size, 0, none⟩ = some (.int .i64 8) ∧ w.heap.size + 2 < wr.heap.size) ∧ Below w.heap.size w wr) := ⟨hrg, hs, hq, hbl⟩
    clear hrg hs hq hbl H0
    go_wp2_with (first
      | (at_next; refine wpList_next_ranges _ rfl _ rfl 9 strK unitElem Value.string (fun _ : Unit => .agg #[]) (fun _ _ h => key_inv h) (fun _ _ h => unit_inv h) Ba (w.heap.size + 2) Na DA _ _ rfl HI.out.1 ?_ ?_)
      | go_in)
    · intro hc0 hl0
      have HF : Hid (RetS w Na (nodeM 8 s t F A Q) (.returned (.map (some (w.heap.size + 1)))) wr) := by
        refine ⟨_, rfl, by omega, HI.out.2.1.congr (fun x => ?_) (by omega), HI.out.2.2.2⟩
        rw [hl0]
        simp [nodeM]
      clear HI hc0 hl0
      go_wp2
      go_ret
      exact HF.out
    · intro x _ kl y w1 cnt1 hkey hlk hv hat hrg1 hlt hg1 hs1 hen
      obtain ⟨rfl, hxs⟩ := key_str hkey
      have hAx : A x := (HA.out x).1 (has_true_of_atKey hat)
      have HCL : Hid (wr.rangeLeft Ba (w.heap.size + 2) = cnt) := HI.out.1.left_eq
      have H1 : Hid (w1.ranges Try.prog 9 unitElem Ba (w.heap.size + 2) Na DA (fun z => left z && !z.sameKey (kS x)) cnt1 ∧ SSet w1 (w.heap.size + 1) (Na - cnt) (fun x => A x ∧ left (kS x) = false ∧ ¬ Q x) ∧ (SSet w1 Bb Nb Q ∧ w1.cell? ⟨w.heap.size, 0, none⟩ = some (.int .i64 8) ∧ w.heap.size + 2 < w1.heap.size) ∧ Below w.heap.size w w1) := by
        obtain ⟨q1, q2, ⟨q3, q4, q5⟩, q6⟩ := HI.out
        have hc : w1.cell? ⟨w.heap.size, 0, none⟩ = some (.int .i64 8) := by
          rw [World.cell?_of_block (a := ⟨w.heap.size, 0, none⟩) (hg1.block w.heap.size (by omega) (fun e => by injection e with e; omega))]
          exact q4
        exact ⟨hrg1, q2.kept hg1 (fun e => by injection e with e; omega), ⟨q3.kept hg1 (fun e => by injection e with e; omega), hc, by omega⟩, q6.grown hg1 (by omega) (fun k e => by injection e with e; omega)⟩
      have HAx : Hid (A x ∧ x.size ≤ maxLen) := ⟨hAx, hxs⟩
      clear hkey hlk hv hat hrg1 hg1 HI hAx hxs
      -- how it goes on from a later world
      have HG : Hid (∀ W, Below w1.heap.size w1 W → W.ranges Try.prog 9 unitElem Ba (w.heap.size + 2) Na DA (fun z => left z && !z.sameKey (kS x)) cnt1 ∧ SSet W (w.heap.size + 1) (Na - cnt) (fun x => A x ∧ left (kS x) = false ∧ ¬ Q x) ∧ (SSet W Bb Nb Q ∧ W.cell? ⟨w.heap.size, 0, none⟩ = some (.int .i64 8) ∧ w.heap.size + 2 < W.heap.size) ∧ Below w.heap.size w W) := fun W hW => by
        obtain ⟨q1, q2, ⟨q3, q4, q5⟩, q6⟩ := H1.out
        have hg : w1.grownBy W none := ⟨hW.os, hW.tape, hW.output, hW.size, fun k hk _ => hW.block k hk⟩
        have hz := hW.size
        exact ⟨q1.kept hg (by simp) (by simp), q2.below hW, ⟨q3.below hW, (hW.cell (World.block_lt_of_cell? _ _ q4)).trans q4, by omega⟩, q6.trans (hW.mono (by omega))⟩
      have J0 : Hid (Below w1.heap.size w1 w1.drew) := (Below.refl _ _).drew
      have JH : Hid (Calls Try.prog 104 #[.map (some Bb), .string x] w1.drew fun e w' => ∃ b : Bool, e = .returned (.bool b) ∧ (b = true ↔ Q x) ∧ Below w1.drew.heap.size w1.drew w') := has_any Bb Nb Q x w1.drew (HG.out _ J0.out).2.2.1.1 HAx.out.2
      have c0 := H1.out.2.2.1.2.1
      have l0 : w.heap.size < w1.heap.size := by have := H1.out.2.2.1.2.2; omega
      go_upto_region 9 with fail
      go_region_held3 (fun w' => w'.cell? ⟨w.heap.size, 0, none⟩ = some (.int .i64 8)) (first | exact (HG.out _ J7.out.1).2.2.1.2.1 | exact (HG.out _ J0.out).2.2.1.2.1 | go_keep)
        (first
        | (go_at_call 104; (with_reducible refine JH.out.mono ?_); rintro e w7 ⟨bq, rfl, hbq, hb7⟩; have J7 : Hid (Below w1.heap.size w1 w7 ∧ (bq = true ↔ Q x)) := ⟨J0.out.trans (hb7.mono J0.out.size), hbq⟩; clear hbq hb7)
        | fail)
      have H7 := HG.out w7 J7.out.1
      have H7h : Hid (w7.ranges Try.prog 9 unitElem Ba (w.heap.size + 2) Na DA (fun z => left z && !z.sameKey (kS x)) cnt1 ∧ SSet w7 (w.heap.size + 1) (Na - cnt) (fun x => A x ∧ left (kS x) = false ∧ ¬ Q x) ∧ (SSet w7 Bb Nb Q ∧ w7.cell? ⟨w.heap.size, 0, none⟩ = some (.int .i64 8) ∧ w.heap.size + 2 < w7.heap.size) ∧ Below w.heap.size w w7) := H7
      have HBq : Hid (bq = true ↔ Q x) := J7.out.2
      clear H7 J7 JH J0 c0 l0
      cases bq with
      | false =>
        have HK : Hid (¬ Q x) := fun q => by have := HBq.out.2 q; cases this
        clear HBq
        go_wp2_with fail
        refine (add_any (w.heap.size + 1) (Na - cnt) _ x w7 H7h.out.2.1 (by omega) HAx.out.2).mono ?_
        rintro e w8 ⟨rfl, hs8, hg8⟩
        have HX : Hid (w8.ranges Try.prog 9 unitElem Ba (w.heap.size + 2) Na DA (fun z => left z && !z.sameKey (kS x)) cnt1 ∧ SSet w8 (w.heap.size + 1) (Na - cnt1) (fun z0 => A z0 ∧ (fun z => left z && !z.sameKey (kS x)) (kS z0) = false ∧ ¬ Q z0) ∧ (SSet w8 Bb Nb Q ∧ w8.cell? ⟨w.heap.size, 0, none⟩ = some (.int .i64 8) ∧ w.heap.size + 2 < w8.heap.size) ∧ Below w.heap.size w w8) := by
          obtain ⟨q1, q2, ⟨q3, q4, q5⟩, q6⟩ := H7h.out
          refine ⟨q1.kept hg8 (fun e => by injection e with e; omega) (fun e => by injection e with e; omega), hs8.congr (fun y => ?_) (by omega), ⟨q3.kept hg8 (fun e => by injection e with e; omega), ?_, by have := hg8.size; omega⟩, below_gr q6 (by omega) hg8 (by omega)⟩
          · have hk := HK.out
            have ha := HAx.out.1
            show _ ↔ A y ∧ (left (kS y) && !(kS y).sameKey (kS x)) = false ∧ _
            rw [left_step]
            by_cases e : y = x
            · subst e
              simp [hk, ha]
            · simp [e]
          · exact q2.cell hg8 q4
        clear hs8 hg8 H7h
        go_wp2
        go_roundw
        case rel => exact ⟨_, cnt1, by omega, HX.out⟩
        case measure => rw [HX.out.1.left_eq, HCL.out]; exact hlt
      | true =>
        have HK : Hid (¬ (¬ Q x)) := fun q => q (HBq.out.1 rfl)
        clear HBq
        have HX : Hid (w7.ranges Try.prog 9 unitElem Ba (w.heap.size + 2) Na DA (fun z => left z && !z.sameKey (kS x)) cnt1 ∧ SSet w7 (w.heap.size + 1) (Na - cnt1) (fun z0 => A z0 ∧ (fun z => left z && !z.sameKey (kS x)) (kS z0) = false ∧ ¬ Q z0) ∧ (SSet w7 Bb Nb Q ∧ w7.cell? ⟨w.heap.size, 0, none⟩ = some (.int .i64 8) ∧ w.heap.size + 2 < w7.heap.size) ∧ Below w.heap.size w w7) := by
          obtain ⟨q1, q2, q3, q6⟩ := H7h.out
          refine ⟨q1, q2.congr (fun y => ?_) (by omega), q3, q6⟩
          have hk := HK.out
          show _ ↔ A y ∧ (left (kS y) && !(kS y).sameKey (kS x)) = false ∧ _
          rw [left_step]
          by_cases e : y = x
          · subst e
            constructor
            · rintro ⟨_, _, q⟩
              exact absurd q hk
            · rintro ⟨_, _, q⟩
              exact absurd q hk
          · simp [e]
        clear H7h
        go_wp2
        go_roundw
        case rel => exact ⟨_, cnt1, by omega, HX.out⟩
        case measure => rw [HX.out.1.left_eq, HCL.out]; exact hlt
end Go.Proofs.Ythcclkeeekppmaa
