import Derived.Test.YtbpcafcipncloaaToByteS
import Derived.Test.YtbpcafcipncloaaOwnP
namespace Go.Proofs.Ytbpcafcipncloaa
open Go.RowKit Go.Deep

theorem Try.info81 : (Try.prog.info? 81).map (fun i => (i.zero, i.size, i.bytes)) = some (some (.agg #[.int .i64 0, .slice none 0 0]), 2, 32) := by kernel_rfl

set_option maxHeartbeats 400000 in
theorem toPend_any (s : Int) (a : Option Addr) (n c : Nat) (f : Nat → Int) (w : World) (h : Rd .u8 w a n f) (hn : n ≤ 1048576) :
    Calls Try.prog 69 #[.agg #[.int .i64 s, .slice a n c]] w fun e w' => e = .returned (.agg #[.int .i64 s, .slice (some ⟨w.heap.size + 3, 0, none⟩) n n]) ∧
      rowIn w' (w.heap.size + 3) 5 n (fun i => .int .u8 (f i)) ∧ Below w.heap.size w w' := by
  have hbel : ∀ o1 o2 o3, Below w.heap.size w (((w.alloc o1).alloc o2).alloc o3) := fun o1 o2 o3 => (((below_alloc _ _).alloc (by simp) _).alloc (by simp; omega) _)
  have hsz : ∀ o1 o2 o3, (((w.alloc o1).alloc o2).alloc o3).heap.size = w.heap.size + 3 := fun o1 o2 o3 => by simp
  have HH : Hid ((∀ o1 o2 o3, Below w.heap.size w (((w.alloc o1).alloc o2).alloc o3)) ∧ ∀ o1 o2 o3, (((w.alloc o1).alloc o2).alloc o3).heap.size = w.heap.size + 3) := ⟨hbel, hsz⟩
  clear hbel hsz
  go_enter Try.func69, Try.ntmps69
  go_wp2_with fail
  refine (toByteS_any a n c f _ (h.below (HH.out.1 _ _ _)) (by omega)).mono ?_
  rintro e w1 ⟨rfl, hr1, hb1, hs1⟩
  rw [HH.out.2] at hr1 hb1 hs1 ⊢
  have hz : w.heap.size + 2 < w1.heap.size := by omega
  have hc : ∀ b o, b < w.heap.size + 3 → w1.cell? ⟨b, o, none⟩ = _ := fun b o hb => hb1.cell (p := ⟨b, o, none⟩) hb
  have hf : ∀ b o, b < w.heap.size + 3 → w1.frozen? ⟨b, o, none⟩ = _ := fun b o hb => hb1.frozen (p := ⟨b, o, none⟩) hb
  have HE : Hid (rowIn w1 (w.heap.size + 3) 5 n (fun i => .int .u8 (f i)) ∧ Below w.heap.size w w1) := ⟨rowIn.ofIs hr1, (HH.out.1 _ _ _).trans (hb1.mono (by omega))⟩
  clear hr1 hb1 hs1
  go_wp2
  refine bodyPost_ret (v := .agg #[.int .i64 s, .slice (some ⟨w.heap.size + 3, 0, none⟩) n n]) (by simp [results, Try.results69, go_sem, hc]) rfl ⟨rfl, ?_, ?_⟩
  · exact ((HE.out.1.setOther (by simp) _).setOther (by simp) _).setOther (by simp) _
  · exact ((HE.out.2.setCell (by simp; omega) _).setCell (by simp) _).setCell (by simp) _

/-- A write put into its place among those that the call has made. -/
theorem OwnPA.put {w w2 : World} {B gC m : Nat} {S : Nat → Int} {L : Nat → Nat} {F : Nat → Nat → Int} {A : Nat → Option Addr} {C : Nat → Nat} (h : OwnPA w B gC m S L F A C) (hB : B ≤ w.heap.size) (hb : Below w.heap.size w w2) (k : Nat) (s : Int) (g n c : Nat) (f : Nat → Int)
    (hg : w.heap.size ≤ g) (hr : rowIn w2 g 5 n (fun i => .int .u8 (f i))) :
    OwnPA ((w2.setCell ⟨gC, k * 2, none⟩ (.int .i64 s)).setCell ⟨gC, k * 2 + 1, none⟩ (.slice (some ⟨g, 0, none⟩) n c)) B gC m (fun i => if i = k then s else S i) (fun i => if i = k then n else L i) (fun i => if i = k then f else F i)
      (fun i => if i = k then some ⟨g, 0, none⟩ else A i) (fun i => if i = k then c else C i) := by
  have hrow2 : rowIn w2 gC 81 (m * 2) (pendCell S A L C) := h.row.of_block (hb.block gC h.row.lt)
  have hne : g ≠ gC := hr.ne hrow2 (by decide)
  refine ⟨h.le, ((hrow2.set (k * 2) _).set (k * 2 + 1) _).congr (fun x hx => ?_), fun i hi => ?_, fun i j hi hj hij hl1 hl2 => ?_⟩
  · unfold pendCell
    by_cases e1 : x = k * 2 + 1
    · subst e1
      have q1 : ¬ (k * 2 + 1) % 2 = 0 := by omega
      have q2 : (k * 2 + 1) / 2 = k := by omega
      simp only [if_true, q1, q2, if_false]
    · by_cases e2 : x = k * 2
      · subst e2
        have q1 : (k * 2) % 2 = 0 := by omega
        have q2 : (k * 2) / 2 = k := by omega
        simp [q1, q2]
      · have q : ¬ x / 2 = k := by omega
        simp only [if_neg e1, if_neg e2, q, if_false]
  · by_cases e : i = k
    · subst e
      simp only [if_true]
      exact Or.inr ⟨g, rfl, by omega, (hr.setOther (by simpa using hne) _).setOther (by simpa using hne) _⟩
    · simp only [if_neg e]
      rcases (h.each i hi).below hb with h0 | ⟨g', hA, hg', hr'⟩
      · exact Or.inl h0
      · have hne' : g' ≠ gC := hr'.ne hrow2 (by decide)
        exact Or.inr ⟨g', hA, hg', (hr'.setOther (by simpa using hne') _).setOther (by simpa using hne') _⟩
  · have key : ∀ j, j < m → L j ≠ 0 → A j ≠ some ⟨g, 0, none⟩ := by
      intro j hj hl e
      rcases h.each j hj with h0 | ⟨g', hA, hg', hr'⟩
      · exact hl h0
      · rw [hA] at e
        injection e with e
        injection e with e
        have := hr'.lt
        omega
    by_cases e1 : i = k
    · by_cases e2 : j = k
      · omega
      · simp only [if_pos e1, if_neg e2] at hl2 ⊢
        exact fun e => key j hj hl2 e.symm
    · by_cases e2 : j = k
      · simp only [if_neg e1, if_pos e2] at hl1 ⊢
        exact key i hi hl1
      · simp only [if_neg e1, if_neg e2] at hl1 hl2 ⊢
        exact h.apart i j hi hj hij hl1 hl2

theorem made2 (w : World) (m : Nat) : rowIn (w.alloc (.cells (madeCells #[.int .i64 0, .slice none 0 0] (m * 2)) 81)) w.heap.size 81 (m * 2) (pendCell (fun _ => 0) (fun _ => none) (fun _ => 0) (fun _ => 0)) := by
  refine ⟨_, blk_alloc_new _ _, by rw [size_madeCells]; exact Nat.le_refl _, fun i hi => ?_⟩
  unfold pendCell
  by_cases e : i % 2 = 0
  · simp [madeCells, hi, e]
  · have e1 : i % 2 = 1 := by omega
    simp [madeCells, hi, e1]

set_option maxHeartbeats 1000000 in
theorem toPendS_any (a : Option Addr) (m c : Nat) (S : Nat → Int) (L : Nat → Nat) (F : Nat → Nat → Int) (w : World) (h : RdP w a m S L F) (hm : m ≤ 1048576) (hL : ∀ i, i < m → L i ≤ 1048576) :
    Calls Try.prog 41 #[.slice a m c] w fun e w' => ∃ A C, e = .returned (.slice (some ⟨w.heap.size, 0, none⟩) m m) ∧ OwnPA w' w.heap.size w.heap.size m S L F A C ∧ Below w.heap.size w w' := by
  have hmk : ∀ w : World, (Instr.makeSlice 37 (.int .i64 (m : Int)) (.int .i64 (m : Int))).run Try.prog w = .ok (.slice (some ⟨w.heap.size, 0, none⟩) m m) (w.alloc (.cells (madeCells #[.int .i64 0, .slice none 0 0] (m * 2)) 81)) := by
    intro w
    obtain ⟨i0, hi, hz0, hz1, hz2⟩ := info_parts Try.info81
    have := run_make (P := Try.prog) w 37 81 i0 _ Try.underlying37 hi hz0 .i64 .i64 m m (by omega) (by omega) (by rw [hz2]; omega) (by omega)
    rw [hz1, show (Value.agg #[.int .i64 0, .slice none 0 0]).cells = #[.int .i64 0, .slice none 0 0] from rfl] at this
    simpa using this
  have H0 : Hid (OwnPA (w.alloc (.cells (madeCells #[.int .i64 0, .slice none 0 0] (m * 2)) 81)) w.heap.size w.heap.size m (fun i => if i < 0 then S i else 0) (fun i => if i < 0 then L i else 0) F (fun _ => none) (fun _ => 0)) :=
    ⟨Nat.le_refl _, (made2 w m).congr (fun i _ => by simp [pendCell]), fun i _ => Or.inl (by simp), fun i j _ _ _ hl => absurd (by simp) hl⟩
  go_enter Try.func41, Try.ntmps41
  go_wp2
  go_loopw [4] (fun i wr => ∃ (k : Nat) (A : Nat → Option Addr) (C : Nat → Nat), k ≤ m ∧ i = .int .i64 k ∧ OwnPA wr w.heap.size w.heap.size m (fun i => if i < k then S i else 0) (fun i => if i < k then L i else 0) F A C ∧ Below w.heap.size w wr) (fun i _ => m - (intOf i).toNat)
  case atStart => exact ⟨0, _, _, Nat.zero_le _, rfl, H0.out, below_alloc _ _⟩
  case round =>
    obtain ⟨k, A, C, hk, rfl, hown, hbel⟩ := hrel
    clear H0
    by_cases hlt : k < m
    · have hne : ¬ m = 0 := by omega
      have h' := h.below hbel
      have HB : Hid (Below w.heap.size w wr) := hbel
      have HO : Hid (OwnPA wr w.heap.size w.heap.size m (fun i => if i < k then S i else 0) (fun i => if i < k then L i else 0) F A C) := hown
      have hsz := hbel.size
      rcases h' with h' | ⟨b, o, rfl, hc⟩
      · exact absurd h' hne
      obtain ⟨c1, ad, cp, c2, c3⟩ := hc k hlt
      have HL := hL k hlt
      clear hc hL hbel h hown hmk
      go_wp2_with fail
      refine (toPend_any (S k) ad (L k) cp (F k) _ c3 HL).mono ?_
      rintro e w1 ⟨rfl, hr1, hb1⟩
      have hrow := HO.out.row.of_block (hb1.block _ HO.out.row.lt)
      have hc1 := hrow.cell (i := k * 2) (by omega)
      have hc2 := hrow.cell (i := k * 2 + 1) (by omega)
      rw [pendCell_even] at hc1
      rw [pendCell_odd] at hc2
      have hf1 := hrow.frozen (k * 2)
      have hf2 := hrow.frozen (k * 2 + 1)
      have HX : Hid (OwnPA ((w1.setCell ⟨w.heap.size, k * 2, none⟩ (.int .i64 (S k))).setCell ⟨w.heap.size, k * 2 + 1, none⟩ (.slice (some ⟨wr.heap.size + 3, 0, none⟩) (L k) (L k))) w.heap.size w.heap.size m (fun i => if i < k + 1 then S i else 0) (fun i => if i < k + 1 then L i else 0) F
          (fun i => if i = k then some ⟨wr.heap.size + 3, 0, none⟩ else A i) (fun i => if i = k then L k else C i) ∧ Below w.heap.size w ((w1.setCell ⟨w.heap.size, k * 2, none⟩ (.int .i64 (S k))).setCell ⟨w.heap.size, k * 2 + 1, none⟩ (.slice (some ⟨wr.heap.size + 3, 0, none⟩) (L k) (L k)))) := by
        have q := HO.out.put hsz hb1 k (S k) (wr.heap.size + 3) (L k) (L k) (F k) (by omega) hr1
        have es : ∀ (T : Type) (u : Nat → T) (z : T) (i : Nat), (if i = k then u k else if i < k then u i else z) = if i < k + 1 then u i else z := by
          intro T u z i
          by_cases e : i = k
          · subst e; simp
          · by_cases e2 : i < k
            · have : i < k + 1 := by omega
              simp [e, e2, this]
            · have : ¬ i < k + 1 := by omega
              simp [e, e2, this]
        refine ⟨⟨q.le, q.row.congr (fun x _ => ?_), fun i hi => ?_, fun i j hi hj hij hl1 hl2 => ?_⟩, ((HB.out.trans (hb1.mono hsz)).setCell (Nat.le_refl _) _).setCell (Nat.le_refl _) _⟩
        · unfold pendCell
          by_cases e : x % 2 = 0
          · simp only [if_pos e]; rw [es]
          · simp only [if_neg e]; rw [es]
        · have := q.each i hi
          simp only [es] at this
          by_cases e : i = k
          · subst e; simpa using this
          · simpa [e] using this
        · have := q.apart i j hi hj hij
          simp only [es] at this
          exact this hl1 hl2
      clear hr1 hb1 hrow HO HB c1 c2 c3
      go_wp2
      go_roundw
      case rel => exact ⟨k + 1, _, _, by omega, by go_num, HX.out⟩
      case measure => simp [intOf]; omega
    · have e : k = m := by omega
      subst e
      go_wp2
      go_ret
      refine ⟨A, C, rfl, ⟨hown.le, hown.row.congr (fun x hx => ?_), fun i hi => ?_, fun i j hi hj hij hl1 hl2 => ?_⟩, hbel⟩
      · unfold pendCell
        have : x / 2 < k := by omega
        simp [this]
      · simpa [hi] using hown.each i hi
      · exact hown.apart i j hi hj hij (by simpa [hi] using hl1) (by simpa [hj] using hl2)

set_option maxHeartbeats 400000 in
theorem toDisk_any (a p : Option Addr) (n c m q : Nat) (d S : Nat → Int) (L : Nat → Nat) (F : Nat → Nat → Int) (fuel : Int) (dead : Bool) (w : World) (ha : Rd .u8 w a n d) (hp : RdP w p m S L F) (hn : n ≤ 1048576) (hm : m ≤ 1048576) (hL : ∀ i, i < m → L i ≤ 1048576) :
    Calls Try.prog 16 #[.agg #[.slice a n c, .slice p m q, .int .i64 fuel, .bool dead]] w fun e w' => ∃ a' c' p' q' A, e = .returned (.agg #[.slice a' n c', .slice p' m q', .int .i64 fuel, .bool dead]) ∧
      OwnD w' w.heap.size a' n d p' m S L F A ∧ Below w.heap.size w w' ∧ c' = n ∧ q' = m := by
  have hbel : ∀ o1 o2 o3, Below w.heap.size w (((w.alloc o1).alloc o2).alloc o3) := fun o1 o2 o3 => (((below_alloc _ _).alloc (by simp) _).alloc (by simp; omega) _)
  have hsz : ∀ o1 o2 o3, (((w.alloc o1).alloc o2).alloc o3).heap.size = w.heap.size + 3 := fun o1 o2 o3 => by simp
  have HH : Hid ((∀ o1 o2 o3, Below w.heap.size w (((w.alloc o1).alloc o2).alloc o3)) ∧ ∀ o1 o2 o3, (((w.alloc o1).alloc o2).alloc o3).heap.size = w.heap.size + 3) := ⟨hbel, hsz⟩
  clear hbel hsz
  go_enter Try.func16, Try.ntmps16
  go_wp2_with fail
  refine (toByteS_any a n c d _ (ha.below (HH.out.1 _ _ _)) (by omega)).mono ?_
  rintro e w1 ⟨rfl, hr1, hb1, hs1⟩
  rw [HH.out.2] at hr1 hb1 hs1 ⊢
  have hz : w.heap.size + 2 < w1.heap.size := by omega
  have hc : ∀ b o, b < w.heap.size + 3 → w1.cell? ⟨b, o, none⟩ = _ := fun b o hb => hb1.cell (p := ⟨b, o, none⟩) hb
  have hf : ∀ b o, b < w.heap.size + 3 → w1.frozen? ⟨b, o, none⟩ = _ := fun b o hb => hb1.frozen (p := ⟨b, o, none⟩) hb
  have HE : Hid (rowIn w1 (w.heap.size + 3) 5 n (fun i => .int .u8 (d i)) ∧ Below w.heap.size w w1 ∧ w1.heap.size = w.heap.size + 4) := ⟨rowIn.ofIs hr1, (HH.out.1 _ _ _).trans (hb1.mono (by omega)), by omega⟩
  clear hr1 hb1 hs1
  go_wp2_with fail
  refine (toPendS_any p m q S L F _ (hp.below (HE.out.2.1.setCell (by simp; omega) _)) hm hL).mono ?_
  rintro e w2 ⟨A, C, rfl, ho2, hb2⟩
  have hsc : ∀ x v, (w1.setCell x v).heap.size = w.heap.size + 4 := fun x v => by rw [← HE.out.2.2]; simp [World.setCell]
  rw [hsc] at ho2 hb2 ⊢
  clear hsc
  have hz2 : w.heap.size + 3 < w2.heap.size := by have := ho2.row.lt; omega
  have hc2 : ∀ b o, b < w.heap.size + 4 → w2.cell? ⟨b, o, none⟩ = _ := fun b o hb => hb2.cell (p := ⟨b, o, none⟩) hb
  have hf2 : ∀ b o, b < w.heap.size + 4 → w2.frozen? ⟨b, o, none⟩ = _ := fun b o hb => hb2.frozen (p := ⟨b, o, none⟩) hb
  have HF : Hid (OwnD w2 (w.heap.size + 3) (some ⟨w.heap.size + 3, 0, none⟩) n d (some ⟨w.heap.size + 4, 0, none⟩) m S L F A ∧ Below w.heap.size w w2) := by
    refine ⟨⟨Or.inr ⟨_, rfl, Nat.le_refl _, (HE.out.1.setOther (by simp) _).of_block (hb2.block _ (by omega))⟩, Or.inr ⟨_, C, rfl, by have := ho2.le; omega, ho2.row, fun i hi => (ho2.each i hi).mono (by omega), ho2.apart⟩, fun _ i hi hl e => ?_⟩, (HE.out.2.1.setCell (by simp; omega) _).trans (hb2.mono (by omega))⟩
    rcases ho2.each i hi with h0 | ⟨g, hA, hg, _⟩
    · exact hl h0
    · rw [hA] at e
      injection e with e
      injection e with e
      omega
  clear ho2 hb2 HE
  go_wp2
  refine bodyPost_ret (v := .agg #[.slice (some ⟨w.heap.size + 3, 0, none⟩) n n, .slice (some ⟨w.heap.size + 4, 0, none⟩) m m, .int .i64 fuel, .bool dead]) (by simp [results, Try.results16, go_sem, hc2, hc]) rfl ⟨_, _, _, _, A, rfl, ?_, ?_, rfl, rfl⟩
  · refine OwnD.mono (B := w.heap.size + 3) ?_ (by omega)
    exact (((((((HF.out.1.setOther (by simp) _).setOther (by simp) _).setOther (by simp) _).setOther (by simp) _).setOther (by simp) _).setOther (by simp) _).setOther (by simp) _)
  · exact (((((((HF.out.2.setCell (by simp; try omega) _).setCell (by simp; try omega) _).setCell (by simp; try omega) _).setCell (by simp; try omega) _).setCell (by simp; try omega) _).setCell (by simp; try omega) _).setCell (by simp; try omega) _)
end Go.Proofs.Ytbpcafcipncloaa
