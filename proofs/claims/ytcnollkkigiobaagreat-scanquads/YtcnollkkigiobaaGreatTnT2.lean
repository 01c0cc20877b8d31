import Derived.Test.YtcnollkkigiobaaGreatTnTo
import Derived.Test.YtcnollkkigiobaaGreatTnSz
namespace Go.Proofs.YtcnollkkigiobaaGreat
open Go.RowKit Go.Deep
set_option linter.unusedVariables false
set_option maxRecDepth 100000

set_option maxHeartbeats 1000000 in
theorem toTNode_any (x : Tn) (ka da : Option Addr) (kc dc : Nat) (w : World) (hk : RdS w ka x.kn x.ks) (hd : Rd .i64 w da x.dn x.kd) (hf : TnFit x) :
    Calls Tryz.prog 132 #[.agg #[.bool x.lf, .slice ka x.kn kc, .slice da x.dn dc, .int .i64 x.ct]] w fun e w' => ∃ gk gd, e = .returned (.agg #[.bool x.lf, .slice (some ⟨gk, 0, none⟩) x.kn x.kn, .slice (some ⟨gd, 0, none⟩) x.dn x.dn, .int .i64 x.ct]) ∧
      w.heap.size ≤ gk ∧ w.heap.size ≤ gd ∧ rowIn w' gk 9 x.kn (fun i => .string (x.ks i)) ∧ rowIn w' gd 2 x.dn (fun i => .int .i64 (x.kd i)) ∧ Below w.heap.size w w' := by
  obtain ⟨hf1, hf2⟩ := hf
  have hbel : ∀ o1 o2 o3, Below w.heap.size w (((w.alloc o1).alloc o2).alloc o3) := fun o1 o2 o3 => (((below_alloc _ _).alloc (by simp) _).alloc (by simp; omega) _)
  have hsz : ∀ o1 o2 o3, (((w.alloc o1).alloc o2).alloc o3).heap.size = w.heap.size + 3 := fun o1 o2 o3 => by simp
  have HH : Hid ((∀ o1 o2 o3, Below w.heap.size w (((w.alloc o1).alloc o2).alloc o3)) ∧ (∀ o1 o2 o3, (((w.alloc o1).alloc o2).alloc o3).heap.size = w.heap.size + 3) ∧ RdS w ka x.kn x.ks ∧ Rd .i64 w da x.dn x.kd) := ⟨hbel, hsz, hk, hd⟩
  clear hbel hsz hk hd
  go_enter Tryz.func132, Tryz.ntmps132
  go_wp2_with fail
  refine (toStringS_any ka x.kn kc x.ks _ ?_ hf1).mono ?_
  · exact HH.out.2.2.1.below (HH.out.1 _ _ _)
  rintro e w1 ⟨rfl, hr1, hb1, hs1⟩
  rw [HH.out.2.1] at hr1 hb1 hs1 ⊢
  have hz : w.heap.size + 2 < w1.heap.size := by omega
  have hc : ∀ b o, b < w.heap.size + 3 → w1.cell? ⟨b, o, none⟩ = _ := fun b o hb => hb1.cell (p := ⟨b, o, none⟩) hb
  have hfz : ∀ b o, b < w.heap.size + 3 → w1.frozen? ⟨b, o, none⟩ = _ := fun b o hb => hb1.frozen (p := ⟨b, o, none⟩) hb
  have HE : Hid (rowIn w1 (w.heap.size + 3) 9 x.kn (fun i => .string (x.ks i)) ∧ Below w.heap.size w w1 ∧ w1.heap.size = w.heap.size + 4) := ⟨rowIn.ofIs hr1, (HH.out.1 _ _ _).trans (hb1.mono (by omega)), by omega⟩
  clear hr1 hb1 hs1
  go_wp2_with fail
  refine (toInt64S_any da x.dn dc x.kd _ (HH.out.2.2.2.below (HE.out.2.1.setCell (by simp; omega) _)) hf2).mono ?_
  rintro e w2 ⟨rfl, hr2, hb2, hs2⟩
  have hsc : ∀ x v, (w1.setCell x v).heap.size = w.heap.size + 4 := fun x v => by rw [← HE.out.2.2]; simp [World.setCell]
  rw [hsc] at hr2 hb2 hs2 ⊢
  clear hsc
  have hz2 : w.heap.size + 3 < w2.heap.size := by omega
  have hc2 : ∀ b o, b < w.heap.size + 4 → w2.cell? ⟨b, o, none⟩ = _ := fun b o hb => hb2.cell (p := ⟨b, o, none⟩) hb
  have hf2 : ∀ b o, b < w.heap.size + 4 → w2.frozen? ⟨b, o, none⟩ = _ := fun b o hb => hb2.frozen (p := ⟨b, o, none⟩) hb
  have HF : Hid (rowIn w2 (w.heap.size + 3) 9 x.kn (fun i => .string (x.ks i)) ∧ rowIn w2 (w.heap.size + 4) 2 x.dn (fun i => .int .i64 (x.kd i)) ∧ Below w.heap.size w w2) := by
    refine ⟨(HE.out.1.setOther (by simp) _).of_block (hb2.block _ (by omega)), rowIn.ofIs hr2, (HE.out.2.1.setCell (by simp; omega) _).trans (hb2.mono (by omega))⟩
  clear hr2 hb2 hs2 HE
  go_wp2
  refine bodyPost_ret (v := .agg #[.bool x.lf, .slice (some ⟨w.heap.size + 3, 0, none⟩) x.kn x.kn, .slice (some ⟨w.heap.size + 4, 0, none⟩) x.dn x.dn, .int .i64 x.ct]) (by simp [results, Tryz.results132, go_sem, hc2, hc]) rfl ⟨_, _, rfl, by omega, by omega, ?_, ?_, ?_⟩
  · exact ((((((HF.out.1.setOther (by simp) _).setOther (by simp) _).setOther (by simp) _).setOther (by simp) _).setOther (by simp) _).setOther (by simp) _)
  · exact ((((((HF.out.2.1.setOther (by simp) _).setOther (by simp) _).setOther (by simp) _).setOther (by simp) _).setOther (by simp) _).setOther (by simp) _)
  · exact ((((((HF.out.2.2.setCell (by simp; try omega) _).setCell (by simp; try omega) _).setCell (by simp; try omega) _).setCell (by simp; try omega) _).setCell (by simp; try omega) _).setCell (by simp; try omega) _)

/-- A node put into its place among those that the call has made. -/
theorem OwnTn.put {w w2 : World} {B g m : Nat} {M : Nat → Tn} {KA DA : Nat → Option Addr} {KC DC : Nat → Nat} (h : OwnTn w B g m M KA DA KC DC) (hB : B ≤ w.heap.size) (hb : Below w.heap.size w w2) (k : Nat) (x : Tn) (gk gd ck cd : Nat)
    (hgk : w.heap.size ≤ gk) (hgd : w.heap.size ≤ gd) (hrk : rowIn w2 gk 9 x.kn (fun i => .string (x.ks i))) (hrd : rowIn w2 gd 2 x.dn (fun i => .int .i64 (x.kd i))) :
    OwnTn ((((w2.setCell ⟨g, k * 4, none⟩ (.bool x.lf)).setCell ⟨g, k * 4 + 1, none⟩ (.slice (some ⟨gk, 0, none⟩) x.kn ck)).setCell ⟨g, k * 4 + 2, none⟩ (.slice (some ⟨gd, 0, none⟩) x.dn cd)).setCell ⟨g, k * 4 + 3, none⟩ (.int .i64 x.ct)) B g m (fun i => if i = k then x else M i)
      (fun i => if i = k then some ⟨gk, 0, none⟩ else KA i) (fun i => if i = k then some ⟨gd, 0, none⟩ else DA i) (fun i => if i = k then ck else KC i) (fun i => if i = k then cd else DC i) := by
  have hrow2 : rowIn w2 g 168 (m * 4) (tnCell M KA DA KC DC) := h.row.of_block (hb.block g h.row.lt)
  have hnk : gk ≠ g := hrk.ne hrow2 (by decide)
  have hnd : gd ≠ g := hrd.ne hrow2 (by decide)
  refine ⟨h.le, ((((hrow2.set (k * 4) _).set (k * 4 + 1) _).set (k * 4 + 2) _).set (k * 4 + 3) _).congr (fun y hy => ?_), fun i hi => ?_, fun i hi => ?_, fun i j hi hj hij hl1 hl2 => ?_, fun i j hi hj hij hl1 hl2 => ?_⟩
  · unfold tnCell
    by_cases e : y / 4 = k
    · have h4 : y = k * 4 ∨ y = k * 4 + 1 ∨ y = k * 4 + 2 ∨ y = k * 4 + 3 := by omega
      rcases h4 with rfl | rfl | rfl | rfl
      · have q1 : (k * 4) % 4 = 0 := by omega
        have q2 : (k * 4) / 4 = k := by omega
        simp [q1, q2]
      · have q1 : (k * 4 + 1) % 4 = 1 := by omega
        have q2 : (k * 4 + 1) / 4 = k := by omega
        simp [q1, q2]
      · have q1 : (k * 4 + 2) % 4 = 2 := by omega
        have q2 : (k * 4 + 2) / 4 = k := by omega
        simp [q1, q2]
      · have q1 : (k * 4 + 3) % 4 = 3 := by omega
        have q2 : (k * 4 + 3) / 4 = k := by omega
        simp [q1, q2]
    · have e0 : ¬ y = k * 4 := by omega
      have e1 : ¬ y = k * 4 + 1 := by omega
      have e2 : ¬ y = k * 4 + 2 := by omega
      have e3 : ¬ y = k * 4 + 3 := by omega
      simp only [if_neg e, if_neg e0, if_neg e1, if_neg e2, if_neg e3]
  · by_cases e : i = k
    · simp only [if_pos e]
      exact Or.inr ⟨gk, rfl, by omega, (((hrk.setOther (by simpa using hnk) _).setOther (by simpa using hnk) _).setOther (by simpa using hnk) _).setOther (by simpa using hnk) _⟩
    · simp only [if_neg e]
      rcases (h.keys i hi).below hb with h0 | ⟨g', hA, hg', hr'⟩
      · exact Or.inl h0
      · have hne' : g' ≠ g := hr'.ne hrow2 (by decide)
        exact Or.inr ⟨g', hA, hg', (((hr'.setOther (by simpa using hne') _).setOther (by simpa using hne') _).setOther (by simpa using hne') _).setOther (by simpa using hne') _⟩
  · by_cases e : i = k
    · simp only [if_pos e]
      exact Or.inr ⟨gd, rfl, by omega, (((hrd.setOther (by simpa using hnd) _).setOther (by simpa using hnd) _).setOther (by simpa using hnd) _).setOther (by simpa using hnd) _⟩
    · simp only [if_neg e]
      rcases (h.kids i hi).below hb with h0 | ⟨g', hA, hg', hr'⟩
      · exact Or.inl h0
      · have hne' : g' ≠ g := hr'.ne hrow2 (by decide)
        exact Or.inr ⟨g', hA, hg', (((hr'.setOther (by simpa using hne') _).setOther (by simpa using hne') _).setOther (by simpa using hne') _).setOther (by simpa using hne') _⟩
  · have key : ∀ j, j < m → (M j).kn ≠ 0 → KA j ≠ some ⟨gk, 0, none⟩ := by
      intro j hj hl e
      rcases h.keys j hj with h0 | ⟨g', hA, hg', hr'⟩
      · exact hl h0
      · rw [hA] at e
        injection e with e
        injection e with e
        have := hr'.lt
        omega
    by_cases e1 : i = k
    · by_cases e2 : j = k
      · omega
      · simp only [if_pos e1, if_neg e2] at hl2 ⊢
        exact fun e => key j hj hl2 e.symm
    · by_cases e2 : j = k
      · simp only [if_neg e1, if_pos e2] at hl1 ⊢
        exact key i hi hl1
      · simp only [if_neg e1, if_neg e2] at hl1 hl2 ⊢
        exact h.apartK i j hi hj hij hl1 hl2
  · have key : ∀ j, j < m → (M j).dn ≠ 0 → DA j ≠ some ⟨gd, 0, none⟩ := by
      intro j hj hl e
      rcases h.kids j hj with h0 | ⟨g', hA, hg', hr'⟩
      · exact hl h0
      · rw [hA] at e
        injection e with e
        injection e with e
        have := hr'.lt
        omega
    by_cases e1 : i = k
    · by_cases e2 : j = k
      · omega
      · simp only [if_pos e1, if_neg e2] at hl2 ⊢
        exact fun e => key j hj hl2 e.symm
    · by_cases e2 : j = k
      · simp only [if_neg e1, if_pos e2] at hl1 ⊢
        exact key i hi hl1
      · simp only [if_neg e1, if_neg e2] at hl1 hl2 ⊢
        exact h.apartD i j hi hj hij hl1 hl2

def zTn : Tn := ⟨false, 0, fun _ => { data := #[] }, 0, fun _ => 0, 0⟩
/-- The first k nodes, the others empty. -/
def cutN (N : Nat → Tn) (k i : Nat) : Tn := if i < k then N i else zTn

theorem cutN_put (N : Nat → Tn) (k : Nat) : (fun i => if i = k then N k else cutN N k i) = cutN N (k + 1) := by
  funext i
  unfold cutN
  by_cases e : i = k
  · subst e; simp
  · by_cases e2 : i < k
    · have : i < k + 1 := by omega
      simp [e, e2, this]
    · have : ¬ i < k + 1 := by omega
      simp [e, e2, this]

theorem madeTn (w : World) (m : Nat) : rowIn (w.alloc (.cells (madeCells #[.bool false, .slice none 0 0, .slice none 0 0, .int .i64 0] (m * 4)) 168)) w.heap.size 168 (m * 4) (tnCell (cutN (fun _ => zTn) 0) (fun _ => none) (fun _ => none) (fun _ => 0) (fun _ => 0)) := by
  refine ⟨_, blk_alloc_new _ _, by rw [size_madeCells]; exact Nat.le_refl _, fun i hi => ?_⟩
  unfold tnCell cutN zTn
  have h4 : i % 4 = 0 ∨ i % 4 = 1 ∨ i % 4 = 2 ∨ i % 4 = 3 := by omega
  rcases h4 with e | e | e | e
  all_goals simp [madeCells, hi, e]

set_option maxHeartbeats 1000000 in
theorem toTNodeS_any (a : Option Addr) (m c : Nat) (N : Nat → Tn) (w : World) (h : RdTn w a m N) (hm : m ≤ 1048576) (hN : ∀ i, i < m → TnFit (N i)) :
    Calls Tryz.prog 108 #[.slice a m c] w fun e w' => ∃ KA DA KC DC, e = .returned (.slice (some ⟨w.heap.size, 0, none⟩) m m) ∧ OwnTn w' w.heap.size w.heap.size m N KA DA KC DC ∧ Below w.heap.size w w' := by
  have hmk : ∀ w : World, (Instr.makeSlice 57 (.int .i64 (m : Int)) (.int .i64 (m : Int))).run Tryz.prog w = .ok (.slice (some ⟨w.heap.size, 0, none⟩) m m) (w.alloc (.cells (madeCells #[.bool false, .slice none 0 0, .slice none 0 0, .int .i64 0] (m * 4)) 168)) := by
    intro w
    obtain ⟨i0, hi, hz0, hz1, hz2⟩ := info_parts Tryz.info168
    have := run_make (P := Tryz.prog) w 57 168 i0 _ Tryz.underlying57 hi hz0 .i64 .i64 m m (by omega) (by omega) (by rw [hz2]; omega) (by omega)
    rw [hz1, show (Value.agg #[.bool false, .slice none 0 0, .slice none 0 0, .int .i64 0]).cells = #[.bool false, .slice none 0 0, .slice none 0 0, .int .i64 0] from rfl] at this
    simpa using this
  have H0 : Hid (OwnTn (w.alloc (.cells (madeCells #[.bool false, .slice none 0 0, .slice none 0 0, .int .i64 0] (m * 4)) 168)) w.heap.size w.heap.size m (cutN N 0) (fun _ => none) (fun _ => none) (fun _ => 0) (fun _ => 0)) :=
    ⟨Nat.le_refl _, (madeTn w m).congr (fun i _ => by simp [tnCell, cutN]), fun i _ => Or.inl (by simp [cutN, zTn]), fun i _ => Or.inl (by simp [cutN, zTn]), fun i j _ _ _ hl => absurd (by simp [cutN, zTn]) hl, fun i j _ _ _ hl => absurd (by simp [cutN, zTn]) hl⟩
  have HR : Hid (RdTn w a m N ∧ ∀ i, i < m → TnFit (N i)) := ⟨h, hN⟩
  clear h hN
  go_enter Tryz.func108, Tryz.ntmps108
  go_wp2
  go_loopw [4] (fun i wr => ∃ (k : Nat) (KA DA : Nat → Option Addr) (KC DC : Nat → Nat), k ≤ m ∧ i = .int .i64 k ∧ OwnTn wr w.heap.size w.heap.size m (cutN N k) KA DA KC DC ∧ Below w.heap.size w wr) (fun i _ => m - (intOf i).toNat)
  case atStart => exact ⟨0, _, _, _, _, Nat.zero_le _, rfl, H0.out, below_alloc _ _⟩
  case round =>
    obtain ⟨k, KA, DA, KC, DC, hk, rfl, hown, hbel⟩ := hrel
    clear H0
    by_cases hlt : k < m
    · have hne : ¬ m = 0 := by omega
      have h' := HR.out.1.below hbel
      have HB : Hid (Below w.heap.size w wr) := hbel
      have HO : Hid (OwnTn wr w.heap.size w.heap.size m (cutN N k) KA DA KC DC) := hown
      have hsz := hbel.size
      rcases h' with h' | ⟨b, o, rfl, hc⟩
      · exact absurd h' hne
      obtain ⟨ka, kc, da, dc, c0, c1, c2, c3, c4, c5⟩ := hc k hlt
      have HL := HR.out.2 k hlt
      have HK : Hid (RdS wr ka (N k).kn (N k).ks ∧ Rd .i64 wr da (N k).dn (N k).kd) := ⟨c4, c5⟩
      clear hc hbel hown hmk c4 c5
      go_wp2_with fail
      refine (toTNode_any (N k) ka da kc dc _ HK.out.1 HK.out.2 HL).mono ?_
      rintro e w1 ⟨gk, gd, rfl, hgk, hgd, hrk, hrd, hb1⟩
      have hrow := HO.out.row.of_block (hb1.block _ HO.out.row.lt)
      have hc1 := hrow.cell (i := k * 4) (by omega)
      have hc2 := hrow.cell (i := k * 4 + 1) (by omega)
      have hc3 := hrow.cell (i := k * 4 + 2) (by omega)
      have hc4 := hrow.cell (i := k * 4 + 3) (by omega)
      rw [tnCell_0] at hc1
      rw [tnCell_1] at hc2
      rw [tnCell_2] at hc3
      rw [tnCell_3] at hc4
      have hf1 := hrow.frozen (k * 4)
      have hf2 := hrow.frozen (k * 4 + 1)
      have hf3 := hrow.frozen (k * 4 + 2)
      have hf4 := hrow.frozen (k * 4 + 3)
      have HX : Hid (OwnTn ((((w1.setCell ⟨w.heap.size, k * 4, none⟩ (.bool (N k).lf)).setCell ⟨w.heap.size, k * 4 + 1, none⟩ (.slice (some ⟨gk, 0, none⟩) (N k).kn (N k).kn)).setCell ⟨w.heap.size, k * 4 + 2, none⟩ (.slice (some ⟨gd, 0, none⟩) (N k).dn (N k).dn)).setCell ⟨w.heap.size, k * 4 + 3, none⟩ (.int .i64 (N k).ct)) w.heap.size w.heap.size m (cutN N (k + 1))
          (fun i => if i = k then some ⟨gk, 0, none⟩ else KA i) (fun i => if i = k then some ⟨gd, 0, none⟩ else DA i) (fun i => if i = k then (N k).kn else KC i) (fun i => if i = k then (N k).dn else DC i) ∧
          Below w.heap.size w ((((w1.setCell ⟨w.heap.size, k * 4, none⟩ (.bool (N k).lf)).setCell ⟨w.heap.size, k * 4 + 1, none⟩ (.slice (some ⟨gk, 0, none⟩) (N k).kn (N k).kn)).setCell ⟨w.heap.size, k * 4 + 2, none⟩ (.slice (some ⟨gd, 0, none⟩) (N k).dn (N k).dn)).setCell ⟨w.heap.size, k * 4 + 3, none⟩ (.int .i64 (N k).ct))) := by
        have q := HO.out.put hsz hb1 k (N k) gk gd (N k).kn (N k).dn hgk hgd hrk hrd
        rw [cutN_put] at q
        exact ⟨q, ((((HB.out.trans (hb1.mono hsz)).setCell (Nat.le_refl _) _).setCell (Nat.le_refl _) _).setCell (Nat.le_refl _) _).setCell (Nat.le_refl _) _⟩
      clear hrk hrd hb1 hrow HO HB c0 c1 c2 c3
      go_wp2
      go_roundw
      case rel => exact ⟨k + 1, _, _, _, _, by omega, by go_num, HX.out⟩
      case measure => simp [intOf]; omega
    · have e : k = m := by omega
      subst e
      have HO : Hid (OwnTn wr w.heap.size w.heap.size k (cutN N k) KA DA KC DC) := hown
      clear hown
      go_wp2
      go_ret
      refine ⟨KA, DA, KC, DC, rfl, ?_, hbel⟩
      have e : ∀ i, i < k → cutN N k i = N i := fun i hi => by simp [cutN, hi]
      have hown := HO.out
      refine ⟨hown.le, hown.row.congr (fun x hx => ?_), fun i hi => ?_, fun i hi => ?_, fun i j hi hj hij hl1 hl2 => ?_, fun i j hi hj hij hl1 hl2 => ?_⟩
      · unfold tnCell
        rw [e (x / 4) (by omega)]
      · have := hown.keys i hi
        rwa [e i hi] at this
      · have := hown.kids i hi
        rwa [e i hi] at this
      · exact hown.apartK i j hi hj hij (by rw [e i hi]; exact hl1) (by rw [e j hj]; exact hl2)
      · exact hown.apartD i j hi hj hij (by rw [e i hi]; exact hl1) (by rw [e j hj]; exact hl2)

set_option maxHeartbeats 400000 in
theorem toTree_any (a : Option Addr) (m c : Nat) (N : Nat → Tn) (w : World) (h : RdTn w a m N) (hm : m ≤ 1048576) (hN : ∀ i, i < m → TnFit (N i)) :
    Calls Tryz.prog 67 #[.agg #[.slice a m c]] w fun e w' => ∃ g KA DA KC DC, e = .returned (.agg #[.slice (some ⟨g, 0, none⟩) m m]) ∧ w.heap.size ≤ g ∧ OwnTn w' w.heap.size g m N KA DA KC DC ∧ Below w.heap.size w w' := by
  have HH : Hid ((∀ o1 o2 o3, Below w.heap.size w (((w.alloc o1).alloc o2).alloc o3)) ∧ (∀ o1 o2 o3, (((w.alloc o1).alloc o2).alloc o3).heap.size = w.heap.size + 3) ∧ RdTn w a m N ∧ ∀ i, i < m → TnFit (N i)) := ⟨fun o1 o2 o3 => (((below_alloc _ _).alloc (by simp) _).alloc (by simp; omega) _), fun o1 o2 o3 => by simp, h, hN⟩
  clear h hN
  go_enter Tryz.func67, Tryz.ntmps67
  go_wp2_with fail
  refine (toTNodeS_any a m c N _ (HH.out.2.2.1.below (HH.out.1 _ _ _)) hm HH.out.2.2.2).mono ?_
  rintro e w1 ⟨KA, DA, KC, DC, rfl, ho1, hb1⟩
  rw [HH.out.2.1] at ho1 hb1 ⊢
  have hz : w.heap.size + 2 < w1.heap.size := by have := ho1.row.lt; omega
  have hc : ∀ b o, b < w.heap.size + 3 → w1.cell? ⟨b, o, none⟩ = _ := fun b o hb => hb1.cell (p := ⟨b, o, none⟩) hb
  have hfz : ∀ b o, b < w.heap.size + 3 → w1.frozen? ⟨b, o, none⟩ = _ := fun b o hb => hb1.frozen (p := ⟨b, o, none⟩) hb
  have HE : Hid (OwnTn w1 (w.heap.size + 3) (w.heap.size + 3) m N KA DA KC DC ∧ Below w.heap.size w w1) := ⟨ho1, (HH.out.1 _ _ _).trans (hb1.mono (by omega))⟩
  clear ho1 hb1
  go_wp2
  refine bodyPost_ret (v := .agg #[.slice (some ⟨w.heap.size + 3, 0, none⟩) m m]) (by simp [results, Tryz.results67, go_sem, hc]) rfl ⟨_, KA, DA, KC, DC, rfl, by omega, ?_, ?_⟩
  · have hset : ∀ {W : World} {p : Addr} {v : Value}, OwnTn W (w.heap.size + 3) (w.heap.size + 3) m N KA DA KC DC → p.block < w.heap.size + 3 → OwnTn (W.setCell p v) (w.heap.size + 3) (w.heap.size + 3) m N KA DA KC DC := by
      intro W p v q hp
      refine ⟨q.le, q.row.setOther (by omega) _, fun i hi => (q.keys i hi).setOther hp _, fun i hi => ?_, q.apartK, q.apartD⟩
      rcases q.kids i hi with h0 | ⟨g, hA, hg, hr⟩
      · exact Or.inl h0
      · exact Or.inr ⟨g, hA, hg, hr.setOther (by omega) _⟩
    have q := hset (v := .slice (some ⟨w.heap.size + 3, 0, none⟩) m m) (p := ⟨w.heap.size + 1, 0, none⟩) (hset (v := .slice (some ⟨w.heap.size + 3, 0, none⟩) m m) (p := ⟨w.heap.size + 2, 0, none⟩) HE.out.1 (by simp)) (by simp)
    exact ⟨by omega, q.row, fun i hi => (q.keys i hi).mono (by omega), fun i hi => (q.kids i hi).mono (by omega), q.apartK, q.apartD⟩
  · exact (HE.out.2.setCell (by simp; try omega) _).setCell (by simp; try omega) _
end Go.Proofs.YtcnollkkigiobaaGreat
