import Derived.Test.YtakemeccigpbaaaTnT2
import Derived.Test.YtakemeccigpbaaaTrV
namespace Go.Proofs.Ytakemeccigpbaaa
open Go.RowKit Go.Deep
set_option linter.unusedVariables false
set_option maxRecDepth 100000

theorem OwnTn.rdC {w : World} {B g n : Nat} {N : Nat → Tn} {KA DA : Nat → Option Addr} {KC DC : Nat → Nat} (h : OwnTn w B g n N KA DA KC DC) (C : Nat → Nat → Prop) (hC : ∀ i, i < n → C (N i).kn (KC i)) : RdTnC C w (some ⟨g, 0, none⟩) n N := by
  refine Or.inr ⟨g, 0, rfl, fun i hi => ⟨KA i, KC i, DA i, DC i, ?_, ?_, ?_, ?_, (h.keys i hi).rd, (h.kids i hi).rd, hC i hi⟩⟩
  · have := h.row.cell (i := i * 4) (by omega)
    rw [tnCell_0] at this
    simpa using this
  · have := h.row.cell (i := i * 4 + 1) (by omega)
    rw [tnCell_1] at this
    simpa using this
  · have := h.row.cell (i := i * 4 + 2) (by omega)
    rw [tnCell_2] at this
    simpa using this
  · have := h.row.cell (i := i * 4 + 3) (by omega)
    rw [tnCell_3] at this
    simpa using this

set_option maxHeartbeats 1000000 in
theorem toTNodeSC_any (a : Option Addr) (m c : Nat) (N : Nat → Tn) (w : World) (h : RdTn w a m N) (hm : m ≤ 1048576) (hN : ∀ i, i < m → TnFit (N i)) :
    Calls Try.prog 41 #[.slice a m c] w fun e w' => ∃ KA DA KC DC, e = .returned (.slice (some ⟨w.heap.size, 0, none⟩) m m) ∧ OwnTn w' w.heap.size w.heap.size m N KA DA KC DC ∧ Below w.heap.size w w' ∧ ∀ i, i < m → KC i = (N i).kn := by
  have hmk : ∀ w : World, (Instr.makeSlice 23 (.int .i64 (m : Int)) (.int .i64 (m : Int))).run Try.prog w = .ok (.slice (some ⟨w.heap.size, 0, none⟩) m m) (w.alloc (.cells (madeCells #[.bool false, .slice none 0 0, .slice none 0 0, .int .i64 0] (m * 4)) 88)) := by
    intro w
    obtain ⟨i0, hi, hz0, hz1, hz2⟩ := info_parts Try.info88
    have := run_make (P := Try.prog) w 23 88 i0 _ Try.underlying23 hi hz0 .i64 .i64 m m (by omega) (by omega) (by rw [hz2]; omega) (by omega)
    rw [hz1, show (Value.agg #[.bool false, .slice none 0 0, .slice none 0 0, .int .i64 0]).cells = #[.bool false, .slice none 0 0, .slice none 0 0, .int .i64 0] from rfl] at this
    simpa using this
  have H0 : Hid (OwnTn (w.alloc (.cells (madeCells #[.bool false, .slice none 0 0, .slice none 0 0, .int .i64 0] (m * 4)) 88)) w.heap.size w.heap.size m (cutN N 0) (fun _ => none) (fun _ => none) (fun _ => 0) (fun _ => 0)) :=
    ⟨Nat.le_refl _, (madeTn w m).congr (fun i _ => by simp [tnCell, cutN]), fun i _ => Or.inl (by simp [cutN, zTn]), fun i _ => Or.inl (by simp [cutN, zTn]), fun i j _ _ _ hl => absurd (by simp [cutN, zTn]) hl, fun i j _ _ _ hl => absurd (by simp [cutN, zTn]) hl⟩
  have HR : Hid (RdTn w a m N ∧ ∀ i, i < m → TnFit (N i)) := ⟨h, hN⟩
  clear h hN
  go_enter Try.func41, Try.ntmps41
  go_wp2
  go_loopw [4] (fun i wr => ∃ (k : Nat) (KA DA : Nat → Option Addr) (KC DC : Nat → Nat), k ≤ m ∧ i = .int .i64 k ∧ OwnTn wr w.heap.size w.heap.size m (cutN N k) KA DA KC DC ∧ Below w.heap.size w wr ∧ ∀ i, i < k → KC i = (N i).kn) (fun i _ => m - (intOf i).toNat)
  case atStart => exact ⟨0, _, _, _, _, Nat.zero_le _, rfl, H0.out, below_alloc _ _, fun i hi => absurd hi (Nat.not_lt_zero _)⟩
  case round =>
    obtain ⟨k, KA, DA, KC, DC, hk, rfl, hown, hbel, hcp⟩ := hrel
    have HCP : Hid (∀ i, i < k → KC i = (N i).kn) := hcp
    clear hcp
    clear H0
    by_cases hlt : k < m
    · have hne : ¬ m = 0 := by omega
      have h' := HR.out.1.below hbel
      have HB : Hid (Below w.heap.size w wr) := hbel
      have HO : Hid (OwnTn wr w.heap.size w.heap.size m (cutN N k) KA DA KC DC) := hown
      have hsz := hbel.size
      rcases h' with h' | ⟨b, o, rfl, hc⟩
      · exact absurd h' hne
      obtain ⟨ka, kc, da, dc, c0, c1, c2, c3, c4, c5⟩ := hc k hlt
      have HL := HR.out.2 k hlt
      have HK : Hid (RdS wr ka (N k).kn (N k).ks ∧ Rd .i64 wr da (N k).dn (N k).kd) := ⟨c4, c5⟩
      clear hc hbel hown hmk c4 c5
      go_wp2_with fail
      refine (toTNode_any (N k) ka da kc dc _ HK.out.1 HK.out.2 HL).mono ?_
      rintro e w1 ⟨gk, gd, rfl, hgk, hgd, hrk, hrd, hb1⟩
      have hrow := HO.out.row.of_block (hb1.block _ HO.out.row.lt)
      have hc1 := hrow.cell (i := k * 4) (by omega)
      have hc2 := hrow.cell (i := k * 4 + 1) (by omega)
      have hc3 := hrow.cell (i := k * 4 + 2) (by omega)
      have hc4 := hrow.cell (i := k * 4 + 3) (by omega)
      rw [tnCell_0] at hc1
      rw [tnCell_1] at hc2
      rw [tnCell_2] at hc3
      rw [tnCell_3] at hc4
      have hf1 := hrow.frozen (k * 4)
      have hf2 := hrow.frozen (k * 4 + 1)
      have hf3 := hrow.frozen (k * 4 + 2)
      have hf4 := hrow.frozen (k * 4 + 3)
      have HX : Hid (OwnTn ((((w1.setCell ⟨w.heap.size, k * 4, none⟩ (.bool (N k).lf)).setCell ⟨w.heap.size, k * 4 + 1, none⟩ (.slice (some ⟨gk, 0, none⟩) (N k).kn (N k).kn)).setCell ⟨w.heap.size, k * 4 + 2, none⟩ (.slice (some ⟨gd, 0, none⟩) (N k).dn (N k).dn)).setCell ⟨w.heap.size, k * 4 + 3, none⟩ (.int .i64 (N k).ct)) w.heap.size w.heap.size m (cutN N (k + 1))
          (fun i => if i = k then some ⟨gk, 0, none⟩ else KA i) (fun i => if i = k then some ⟨gd, 0, none⟩ else DA i) (fun i => if i = k then (N k).kn else KC i) (fun i => if i = k then (N k).dn else DC i) ∧
          Below w.heap.size w ((((w1.setCell ⟨w.heap.size, k * 4, none⟩ (.bool (N k).lf)).setCell ⟨w.heap.size, k * 4 + 1, none⟩ (.slice (some ⟨gk, 0, none⟩) (N k).kn (N k).kn)).setCell ⟨w.heap.size, k * 4 + 2, none⟩ (.slice (some ⟨gd, 0, none⟩) (N k).dn (N k).dn)).setCell ⟨w.heap.size, k * 4 + 3, none⟩ (.int .i64 (N k).ct))) := by
        have q := HO.out.put hsz hb1 k (N k) gk gd (N k).kn (N k).dn hgk hgd hrk hrd
        rw [cutN_put] at q
        exact ⟨q, ((((HB.out.trans (hb1.mono hsz)).setCell (Nat.le_refl _) _).setCell (Nat.le_refl _) _).setCell (Nat.le_refl _) _).setCell (Nat.le_refl _) _⟩
      clear hrk hrd hb1 hrow HO HB c0 c1 c2 c3
      go_wp2
      go_roundw
      case rel => exact ⟨k + 1, _, _, _, _, by omega, by go_num, HX.out.1, HX.out.2, fun i hi => by
        by_cases e : i = k
        · simp [e]
        · simp [e]; exact HCP.out i (by omega)⟩
      case measure => simp [intOf]; omega
    · have e : k = m := by omega
      subst e
      have HO : Hid (OwnTn wr w.heap.size w.heap.size k (cutN N k) KA DA KC DC) := hown
      clear hown
      go_wp2
      go_ret
      refine ⟨KA, DA, KC, DC, rfl, ?_, hbel, HCP.out⟩
      have e : ∀ i, i < k → cutN N k i = N i := fun i hi => by simp [cutN, hi]
      have hown := HO.out
      refine ⟨hown.le, hown.row.congr (fun x hx => ?_), fun i hi => ?_, fun i hi => ?_, fun i j hi hj hij hl1 hl2 => ?_, fun i j hi hj hij hl1 hl2 => ?_⟩
      · unfold tnCell
        rw [e (x / 4) (by omega)]
      · have := hown.keys i hi
        rwa [e i hi] at this
      · have := hown.kids i hi
        rwa [e i hi] at this
      · exact hown.apartK i j hi hj hij (by rw [e i hi]; exact hl1) (by rw [e j hj]; exact hl2)
      · exact hown.apartD i j hi hj hij (by rw [e i hi]; exact hl1) (by rw [e j hj]; exact hl2)

set_option maxHeartbeats 400000 in
theorem toTreeC_any (a : Option Addr) (m c : Nat) (N : Nat → Tn) (w : World) (h : RdTn w a m N) (hm : m ≤ 1048576) (hN : ∀ i, i < m → TnFit (N i)) :
    Calls Try.prog 21 #[.agg #[.slice a m c]] w fun e w' => ∃ g KA DA KC DC, e = .returned (.agg #[.slice (some ⟨g, 0, none⟩) m m]) ∧ w.heap.size ≤ g ∧ OwnTn w' w.heap.size g m N KA DA KC DC ∧ Below w.heap.size w w' ∧ ∀ i, i < m → KC i = (N i).kn := by
  have HH : Hid ((∀ o1 o2 o3, Below w.heap.size w (((w.alloc o1).alloc o2).alloc o3)) ∧ (∀ o1 o2 o3, (((w.alloc o1).alloc o2).alloc o3).heap.size = w.heap.size + 3) ∧ RdTn w a m N ∧ ∀ i, i < m → TnFit (N i)) := ⟨fun o1 o2 o3 => (((below_alloc _ _).alloc (by simp) _).alloc (by simp; omega) _), fun o1 o2 o3 => by simp, h, hN⟩
  clear h hN
  go_enter Try.func21, Try.ntmps21
  go_wp2_with fail
  refine (toTNodeSC_any a m c N _ (HH.out.2.2.1.below (HH.out.1 _ _ _)) hm HH.out.2.2.2).mono ?_
  rintro e w1 ⟨KA, DA, KC, DC, rfl, ho1, hb1, hcp⟩
  have HCP : Hid (∀ i, i < m → KC i = (N i).kn) := hcp
  clear hcp
  rw [HH.out.2.1] at ho1 hb1 ⊢
  have hz : w.heap.size + 2 < w1.heap.size := by have := ho1.row.lt; omega
  have hc : ∀ b o, b < w.heap.size + 3 → w1.cell? ⟨b, o, none⟩ = _ := fun b o hb => hb1.cell (p := ⟨b, o, none⟩) hb
  have hfz : ∀ b o, b < w.heap.size + 3 → w1.frozen? ⟨b, o, none⟩ = _ := fun b o hb => hb1.frozen (p := ⟨b, o, none⟩) hb
  have HE : Hid (OwnTn w1 (w.heap.size + 3) (w.heap.size + 3) m N KA DA KC DC ∧ Below w.heap.size w w1) := ⟨ho1, (HH.out.1 _ _ _).trans (hb1.mono (by omega))⟩
  clear ho1 hb1
  go_wp2
  refine bodyPost_ret (v := .agg #[.slice (some ⟨w.heap.size + 3, 0, none⟩) m m]) (by simp [results, Try.results21, go_sem, hc]) rfl ⟨_, KA, DA, KC, DC, rfl, by omega, ?_, ?_, HCP.out⟩
  · have hset : ∀ {W : World} {p : Addr} {v : Value}, OwnTn W (w.heap.size + 3) (w.heap.size + 3) m N KA DA KC DC → p.block < w.heap.size + 3 → OwnTn (W.setCell p v) (w.heap.size + 3) (w.heap.size + 3) m N KA DA KC DC := by
      intro W p v q hp
      refine ⟨q.le, q.row.setOther (by omega) _, fun i hi => (q.keys i hi).setOther hp _, fun i hi => ?_, q.apartK, q.apartD⟩
      rcases q.kids i hi with h0 | ⟨g, hA, hg, hr⟩
      · exact Or.inl h0
      · exact Or.inr ⟨g, hA, hg, hr.setOther (by omega) _⟩
    have q := hset (v := .slice (some ⟨w.heap.size + 3, 0, none⟩) m m) (p := ⟨w.heap.size + 1, 0, none⟩) (hset (v := .slice (some ⟨w.heap.size + 3, 0, none⟩) m m) (p := ⟨w.heap.size + 2, 0, none⟩) HE.out.1 (by simp)) (by simp)
    exact ⟨by omega, q.row, fun i hi => (q.keys i hi).mono (by omega), fun i hi => (q.kids i hi).mono (by omega), q.apartK, q.apartD⟩
  · exact (HE.out.2.setCell (by simp; try omega) _).setCell (by simp; try omega) _
end Go.Proofs.Ytakemeccigpbaaa
