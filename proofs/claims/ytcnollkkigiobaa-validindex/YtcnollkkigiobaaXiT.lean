import Derived.Test.YtcnollkkigiobaaXiR
namespace Go.Proofs.Ytcnollkkigiobaa
open Go.RowKit Go.Deep
set_option linter.unusedVariables false
set_option maxRecDepth 100000

theorem Try.info48 : (Try.prog.info? 48).map (fun i => (i.zero, i.size, i.bytes)) = some (some (.agg #[.slice none 0 0]), 1, 24) := by kernel_rfl

theorem OwnTn.und {w w' : World} {B g n : Nat} {N : Nat → Tn} {KA DA : Nat → Option Addr} {KC DC : Nat → Nat} (h : OwnTn w B g n N KA DA KC DC) (hb : Below w.heap.size w w') : OwnTn w' B g n N KA DA KC DC :=
  ⟨h.le, h.row.of_block (hb.block g h.row.lt), fun i hi => (h.keys i hi).below hb, fun i hi => (h.kids i hi).below hb, h.apartK, h.apartD⟩

theorem OwnIx.put {w w1 : World} {B g n k : Nat} {M : Nat → Nat} {T : Nat → Nat → Tn} (h : OwnIx w B g n k M T) (hB : B ≤ w.heap.size) (hk : k < n) (hb : Below w.heap.size w w1) {gk : Nat} {KA DA : Nat → Option Addr} {KC DC : Nat → Nat} (ho : OwnTn w1 w.heap.size gk (M k) (T k) KA DA KC DC) : OwnIx (w1.setCell ⟨g, k, none⟩ (.slice (some ⟨gk, 0, none⟩) (M k) (M k))) B g n (k + 1) M T := by
  obtain ⟨hg, cur, h1, h2, h3⟩ := h
  have h1' : Bx w1 g 48 cur := (show Bx w g 48 cur from h1).below hb
  have hs := h1'.set k (.slice (some ⟨gk, 0, none⟩) (M k) (M k))
  refine ⟨hg, _, hs, by simpa using h2, fun i hi => ?_⟩
  by_cases e : i = k
  · subst e
    refine ⟨gk, KA, DA, KC, DC, by simp [h2, hk], ?_⟩
    have q := ho.setO (p := ⟨g, i, none⟩) (by show g < w.heap.size; omega) (.slice (some ⟨gk, 0, none⟩) (M i) (M i))
    have hle := q.le
    exact ⟨by omega, q.row, fun j hj => (q.keys j hj).mono (by omega), fun j hj => (q.kids j hj).mono (by omega), q.apartK, q.apartD⟩
  · obtain ⟨gi, KA', DA', KC', DC', q1, q2⟩ := h3 i (by omega)
    refine ⟨gi, KA', DA', KC', DC', ?_, (q2.und hb).setO (p := ⟨g, k, none⟩) hg _⟩
    rw [Array.getElem?_setIfInBounds_ne (by omega)]
    exact q1
theorem OwnIx.setO {w : World} {B g n : Nat} {M : Nat → Nat} {T : Nat → Nat → Tn} (h : OwnIx w B g n n M T) {p : Addr} (hp : p.block < g) (v : Value) : OwnIx (w.setCell p v) B g n n M T := by
  obtain ⟨hg, cur, h1, h2, h3⟩ := h
  refine ⟨hg, cur, by rw [Below.heap_setCell _ _ _ _ (show g ≠ p.block by omega)]; exact h1, h2, fun i hi => ?_⟩
  obtain ⟨gi, KA', DA', KC', DC', q1, q2⟩ := h3 i hi
  exact ⟨gi, KA', DA', KC', DC', q1, q2.setO (by omega) _⟩

set_option maxHeartbeats 2000000 in
theorem toTreeS_any (a : Option Addr) (m c : Nat) (M : Nat → Nat) (T : Nat → Nat → Tn) (w : World) (h : RdIx w a m M T) (hm : m ≤ 1048576) (hN : IxFit m M T) :
    Calls Try.prog 20 #[.slice a m c] w fun e w' => e = .returned (.slice (some ⟨w.heap.size, 0, none⟩) m m) ∧ OwnIx w' (w.heap.size + 1) w.heap.size m m M T ∧ Below w.heap.size w w' := by
  have hmk : ∀ w : World, (Instr.makeSlice 27 (.int .i64 (m : Int)) (.int .i64 (m : Int))).run Try.prog w = .ok (.slice (some ⟨w.heap.size, 0, none⟩) m m) (w.alloc (.cells (madeCells #[.slice none 0 0] m) 48)) := by
    intro w
    obtain ⟨i0, hi, hz0, hz1, hz2⟩ := info_parts Try.info48
    have := run_make (P := Try.prog) w 27 48 i0 _ Try.underlying27 hi hz0 .i64 .i64 m m (by omega) (by omega) (by rw [hz2]; omega) (by omega)
    rw [hz1, show (Value.agg #[.slice none 0 0]).cells = #[.slice none 0 0] from rfl, Nat.mul_one] at this
    simpa using this
  have H0 : Hid (OwnIx (w.alloc (.cells (madeCells #[.slice none 0 0] m) 48)) (w.heap.size + 1) w.heap.size m 0 M T) := ⟨by omega, _, Bx.new w _ 48, by simp [madeCells], fun i hi => absurd hi (Nat.not_lt_zero _)⟩
  have HR : Hid (RdIx w a m M T ∧ IxFit m M T) := ⟨h, hN⟩
  clear h hN
  go_enter Try.func20, Try.ntmps20
  go_wp2
  go_loopw [4] (fun i wr => ∃ (k : Nat), k ≤ m ∧ i = .int .i64 k ∧ OwnIx wr (w.heap.size + 1) w.heap.size m k M T ∧ Below w.heap.size w wr) (fun i _ => m - (intOf i).toNat)
  case atStart => exact ⟨0, Nat.zero_le _, rfl, H0.out, below_alloc _ _⟩
  case round =>
    obtain ⟨k, hk, rfl, hown, hbel⟩ := hrel
    clear H0
    by_cases hlt : k < m
    · have hne : ¬ m = 0 := by omega
      have h' := HR.out.1.below hbel
      have HB : Hid (Below w.heap.size w wr) := hbel
      have HO : Hid (OwnIx wr (w.heap.size + 1) w.heap.size m k M T) := hown
      have hsz := hbel.size
      rcases h' with h' | ⟨b, o, rfl, hc⟩
      · exact absurd h' hne
      obtain ⟨ai, ci, c0, c4⟩ := hc k hlt
      have HL := HR.out.2 k hlt
      have HK : Hid (RdTn wr ai (M k) (T k)) := c4
      clear hc hbel hown hmk c4
      go_wp2_with fail
      refine (toTree_any ai (M k) ci (T k) _ HK.out HL.1 HL.2).mono ?_
      rintro e w1 ⟨gk, KA, DA, KC, DC, rfl, hgk, ho1, hb1⟩
      obtain ⟨_, cur, q1, q2, _⟩ := HO.out
      have hgl : w.heap.size < wr.heap.size := (Array.getElem?_eq_some_iff.1 q1).1
      have q3 : Bx w1 w.heap.size 48 cur := (show Bx wr w.heap.size 48 cur from q1).below hb1
      obtain ⟨u0, hu0⟩ : ∃ u0, cur[k]? = some u0 := ⟨_, Array.getElem?_eq_getElem (by omega)⟩
      have hc1 : w1.cell? ⟨w.heap.size, k, none⟩ = some u0 := by rw [q3.cell k]; exact hu0
      have hf1 := q3.frozen k
      have hl1 := q3.lt
      have HX : Hid (OwnIx (w1.setCell ⟨w.heap.size, k, none⟩ (.slice (some ⟨gk, 0, none⟩) (M k) (M k))) (w.heap.size + 1) w.heap.size m (k + 1) M T ∧ Below w.heap.size w (w1.setCell ⟨w.heap.size, k, none⟩ (.slice (some ⟨gk, 0, none⟩) (M k) (M k)))) := ⟨HO.out.put (by omega) hlt hb1 ho1, (HB.out.trans (hb1.mono hsz)).setCell (Nat.le_refl _) _⟩
      clear ho1 hb1 HO HB c0 q1 q2 q3 hu0
      go_wp2
      go_roundw
      case rel => exact ⟨k + 1, by omega, by go_num, HX.out⟩
      case measure => simp [intOf]; omega
    · have e : k = m := by omega
      subst e
      have HO : Hid (OwnIx wr (w.heap.size + 1) w.heap.size k k M T) := hown
      clear hown
      go_wp2
      go_ret
      exact ⟨rfl, HO.out, hbel⟩

set_option maxHeartbeats 400000 in
theorem toIndex_any (a : Option Addr) (m c : Nat) (M : Nat → Nat) (T : Nat → Nat → Tn) (w : World) (h : RdIx w a m M T) (hm : m ≤ 1048576) (hN : IxFit m M T) :
    Calls Try.prog 7 #[.agg #[.slice a m c]] w fun e w' => ∃ g, e = .returned (.agg #[.slice (some ⟨g, 0, none⟩) m m]) ∧ w.heap.size ≤ g ∧ OwnIx w' (g + 1) g m m M T ∧ Below w.heap.size w w' := by
  have HH : Hid ((∀ o1 o2 o3, Below w.heap.size w (((w.alloc o1).alloc o2).alloc o3)) ∧ (∀ o1 o2 o3, (((w.alloc o1).alloc o2).alloc o3).heap.size = w.heap.size + 3) ∧ RdIx w a m M T ∧ IxFit m M T) := ⟨fun o1 o2 o3 => (((below_alloc _ _).alloc (by simp) _).alloc (by simp; omega) _), fun o1 o2 o3 => by simp, h, hN⟩
  clear h hN
  go_enter Try.func7, Try.ntmps7
  go_wp2_with fail
  refine (toTreeS_any a m c M T _ (HH.out.2.2.1.below (HH.out.1 _ _ _)) hm HH.out.2.2.2).mono ?_
  rintro e w1 ⟨rfl, ho1, hb1⟩
  rw [HH.out.2.1] at ho1 hb1 ⊢
  have hz : w.heap.size + 2 < w1.heap.size := by have := hb1.size; rw [HH.out.2.1] at this; omega
  have hc : ∀ b o, b < w.heap.size + 3 → w1.cell? ⟨b, o, none⟩ = _ := fun b o hb => hb1.cell (p := ⟨b, o, none⟩) hb
  have hfz : ∀ b o, b < w.heap.size + 3 → w1.frozen? ⟨b, o, none⟩ = _ := fun b o hb => hb1.frozen (p := ⟨b, o, none⟩) hb
  have HE : Hid (OwnIx w1 (w.heap.size + 3 + 1) (w.heap.size + 3) m m M T ∧ Below w.heap.size w w1) := ⟨ho1, (HH.out.1 _ _ _).trans (hb1.mono (by omega))⟩
  clear ho1 hb1
  go_wp2
  refine bodyPost_ret (v := .agg #[.slice (some ⟨w.heap.size + 3, 0, none⟩) m m]) (by simp [results, Try.results7, go_sem, hc]) rfl ⟨_, rfl, by omega, ?_, ?_⟩
  · exact (HE.out.1.setO (p := ⟨w.heap.size + 2, 0, none⟩) (by simp) _).setO (p := ⟨w.heap.size + 1, 0, none⟩) (by simp) _
  · exact (HE.out.2.setCell (by simp; try omega) _).setCell (by simp; try omega) _

section
open Go.ChangeShapes Go.WideShapes Go.ChangeAt Go.Joins
variable {H : Type} {enc : TypeId × Value → H} {W : World}
set_option maxRecDepth 100000 in
theorem trees_of {fuel : Nat} {cs : List Value} {x : DataW H × List MemPlace} (h : DataW.trod enc Try.prog W 0 (fun _ => true) true fuel 22 cs = some x) :
    ∃ a n c M T, cs = [.slice a n c] ∧ RdIx W a n M T ∧ (∀ i, i < n → M i ≤ maxLen ∧ ∀ j, j < M i → TnBig (T i j)) ∧ n ≤ maxLen := by
  rcases open_slice (P := Try.prog) (t := 22) (e := 72) (by kernel_rfl) h with ⟨hcs, _⟩ | ⟨a, len, cap, m, fu, D, Pl, hcs, _, hl, hm, hmm, _, hx⟩
  · exact ⟨none, 0, 0, fun _ => 0, fun _ _ => ⟨false, 0, fun _ => { data := #[] }, 0, fun _ => 0, 0⟩, hcs, Or.inl rfl, fun i hi => absurd hi (Nat.not_lt_zero _), Nat.zero_le _⟩
  · have hlm : len ≤ m := by rw [hmm]; split <;> omega
    have each : ∀ i, i < len → ∃ q : Nat × (Nat → Tn) × Option Addr × Nat, W.cell? (a.add i) = some (.slice q.2.2.1 q.1 q.2.2.2) ∧ RdTn W q.2.2.1 q.1 q.2.1 ∧ q.1 ≤ maxLen ∧ ∀ j, j < q.1 → TnBig (q.2.1 j) := by
      intro i hi
      obtain ⟨cs', h1, h2⟩ := hx i (by omega)
      rw [show Try.prog.cellsOf 72 = 1 by kernel_rfl] at h1
      obtain ⟨_, hlen, hcell⟩ := World.cells?_some h1
      obtain ⟨xs, k, hk, hxy, _, hxl, hf⟩ := DataW.trod_struct (P := Try.prog) Try.underlying72 h2
      have g0 := hf 0 _ rfl
      rw [show Try.prog.cellsOf _ = 1 by kernel_rfl] at g0
      match xs, hxl, cs', hlen with
      | [y0], _, [v0], _ =>
        simp at g0
        obtain ⟨ai, n', c', N, e1, hr, hX, hn⟩ := tnodes_of g0
        simp at e1
        subst e1
        have c0 := hcell 0 (by omega)
        rw [Addr.add_add] at c0
        exact ⟨(n', N, ai, c'), by simpa using c0, hr, hn, hX⟩
    haveI : Inhabited (Nat × (Nat → Tn) × Option Addr × Nat) := ⟨(0, fun _ => ⟨false, 0, fun _ => { data := #[] }, 0, fun _ => 0, 0⟩, none, 0)⟩
    obtain ⟨q, hq⟩ := choose_lt each
    refine ⟨some a, len, cap, fun i => (q i).1, fun i => (q i).2.1, hcs, ?_, fun i hi => (hq i hi).2.2, by omega⟩
    by_cases h0 : len = 0
    · exact Or.inl h0
    · obtain ⟨b, off, spot⟩ := a
      have hs := spotT_of (a := ⟨b, off, spot⟩) (by simpa using (hq 0 (by omega)).1)
      simp at hs
      subst hs
      refine Or.inr ⟨b, off, rfl, fun i hi => ?_⟩
      obtain ⟨k0, k1, _⟩ := hq i hi
      rw [addT_eq] at k0
      exact ⟨_, _, k0, k1⟩
/-- What the walk is told of an index that came in. -/
def IsIndex (w : World) (v : Value) : Prop :=
  ∃ a n c M T, v = .agg #[.slice a n c] ∧ RdIx w a n M T ∧ (∀ i, i < n → M i ≤ maxLen ∧ ∀ j, j < M i → TnBig (T i j)) ∧ n ≤ maxLen
set_option maxRecDepth 100000 in
theorem openIndex {r : Reach} {b0 : Nat} {v : Value} {d : DataW H} {p : List MemPlace} (hv : Value.okWide Try.prog W r b0 24 v) (h : DataW.Trod enc Try.prog W 0 (fun _ => true) true 24 v d p) : IsIndex W v := by
  obtain ⟨cs, rfl, hsz⟩ := okWide_struct (P := Try.prog) Try.underlying24 hv
  have h1 : cs.size = 1 := hsz.trans (by kernel_rfl)
  obtain ⟨l⟩ := cs
  match l, h1 with
  | [c0], _ =>
    obtain ⟨fuel, hf⟩ := h
    obtain ⟨xs, k, hk, hxy, _, hxl, hff⟩ := DataW.trod_struct (P := Try.prog) Try.underlying24 hf
    have g0 := hff 0 _ rfl
    rw [show Try.prog.cellsOf _ = 1 by kernel_rfl] at g0
    match xs, hxl with
    | [y0], _ =>
      simp [Value.cells] at g0
      obtain ⟨a, n', c, M, T, e1, hr, hX, hn⟩ := trees_of g0
      simp at e1
      subst e1
      exact ⟨a, n', c, M, T, rfl, hr, hX, hn⟩
end
end Go.Proofs.Ytcnollkkigiobaa
