import Derived.Test.YtbpcafcipncloaaRecM
import Derived.Test.YtbpcafcipncloaaLateS
namespace Go.Proofs.Ytbpcafcipncloaa
open Go.RowKit Go.Deep
set_option linter.unusedVariables false
set_option maxRecDepth 100000

theorem specRead_at (y : Int) (a p : Option Addr) (n c m q : Nat) (d S : Nat → Int) (L : Nat → Nat) (F : Nat → Nat → Int) (fuel : Int) (dead : Bool) (s : Nat) (w : World) (hy : y = (s : Int)) (ha : Rd .u8 w a n d) (hp : RdP w p m S L F) (hv : VD n m S L fuel) (hs : s < n / 64) (hn : n ≤ 1048576) (hnc : n ≤ c) (hcm : c ≤ 9223372036854775807) (hm : m ≤ 1048576) :
    Calls Try.prog 38 #[.agg #[.slice a n c, .slice p m q, .int .i64 fuel, .bool dead], .int .i64 y] w fun e w' => RetOwn w e w' 64 (secF d S F m s) := by
  rw [hy]
  exact specRead_good a p n c m q d S L F fuel dead s w ha hp hv hs hn hnc hcm hm

/-- What spec.ReadRec answers. -/
def SpRet (w : World) (e : Ending) (w' : World) (G : Nat → Nat → Int) (r : Int) (seq : Int) : Prop := Below w.heap.size w w' ∧
  ((recOk G r seq ∧ ∃ a c, e = .returned (.agg #[.bool true, .slice a (catL (recLz G) (getN (G 0) 6 2).toNat) c, .int .i64 (getN (G 0) 6 2)]) ∧ OwnB w' w.heap.size a (catL (recLz G) (getN (G 0) 6 2).toNat) (catF (recLz G) (recFz G) (getN (G 0) 6 2).toNat)) ∨
    (¬ recOk G r seq ∧ e = .returned (.agg #[.bool false, .slice none 0 0, .int .i64 0])))

theorem catL_le48 (L : Nat → Nat) (x : Nat) (h : ∀ j, j < x → L j ≤ 48) : catL L x ≤ 48 * x := by
  induction x with
  | zero => simp [catL]
  | succ x ih =>
    have h1 := ih (fun j hj => h j (by omega))
    have h2 := h x (by omega)
    simp only [catL]
    omega

theorem ownB_grown {w w' : World} {B n : Nat} {a : Option Addr} {f : Nat → Int} {row : Option Nat} (h : OwnB w B a n f) (hg : w.grownBy w' row) (hne : ∀ g, row = some g → g < B) : OwnB w' B a n f := by
  rcases h with h0 | ⟨g, rfl, hgl, hr⟩
  · exact Or.inl h0
  · exact Or.inr ⟨g, rfl, hgl, hr.of_block (hg.block g hr.lt (fun e => by have := hne g e.symm; omega))⟩

theorem below3 {w W : World} {b : Nat} {v0 v1 v2 : Value} (h : Below w.heap.size w W) (hb : w.heap.size ≤ b) : Below w.heap.size w (((W.setCell ⟨b, 0, none⟩ v0).setCell ⟨b, 1, none⟩ v1).setCell ⟨b, 2, none⟩ v2) := ((h.setCell hb _).setCell hb _).setCell hb _

/-- Bytes as a text. -/
def strN (n : Nat) (f : Nat → Int) : ByteArray := strOfNums ((List.range n).map f)
theorem strN_same (n m : Nat) (f g : Nat → Int) (hf : ∀ i, i < n → 0 ≤ f i ∧ f i < 256) (hg : ∀ i, i < m → 0 ≤ g i ∧ g i < 256) : ((strN n f).toList == (strN m g).toList) = true ↔ (n = m ∧ ∀ i, i < n → f i = g i) := by
  rw [beq_iff_eq, ByteArray.toList_eq, ByteArray.toList_eq]
  unfold strN
  rw [strOfNums_data, strOfNums_data]
  constructor
  · intro h
    have hl := congrArg List.length h
    simp at hl
    subst hl
    refine ⟨rfl, fun i hi => ?_⟩
    have h1 := congrArg (fun l => l[i]?) h
    simp [hi] at h1
    have h2 := congrArg UInt8.toNat h1
    have q1 := hf i hi
    have q2 := hg i hi
    simp at h2
    omega
  · rintro ⟨rfl, h⟩
    rw [List.map_map, List.map_map]
    refine List.map_congr_left (fun i hi => ?_)
    show UInt8.ofNat (f i).toNat = UInt8.ofNat (g i).toNat
    rw [h i (List.mem_range.1 hi)]

theorem conv_any {act : Act} {o : Oper} {p n c : Nat} {a : Option Addr} {f : Nat → Int} {w : World} (ho : o.op = .convert 24 9 (.tmp p)) (hp : act.tmps.getD p undef = .slice a n c) (hs : Rd .u8 w a n f) (hn : n ≠ 0) : (execOp act.eval o).run Try.prog w = .ok (.value (.string (strN n f))) w := by
  rcases hs with h0 | ⟨b, off, rfl, hc⟩
  · exact absurd h0 hn
  · have h := run_convert_bytes_arg (P := Try.prog) w 24 5 underBytes (by kernel_rfl) b off n c ((List.range n).map f) (by simp) (fun i hi => by rw [hc i hi]; simp [List.getD, hi]) 9 (by kernel_rfl)
    simp only [execOp, ho, Act.eval]
    rw [Sem.run_bind, hp, h]
    rfl

theorem step_vl {ops : Array Oper} {o : Oper} {a : Act} {w w' : World} {K : Act → World → Prop} {Q : Exit → Act → World → Prop} {E : Prop} {v : Value} (hw : Region.wanted o (yielded ops a.tmps) = true) (hrun : (execOp a.eval o).run Try.prog w = .ok (.value v) w') (h : K (a.put o.dst v) w') :
    if Region.wanted o (yielded ops a.tmps) = true then Oper.wp Try.prog o a w K Q else E := by
  rw [if_pos hw]
  unfold Oper.wp
  rw [hrun]
  exact h

theorem step_l2S {ops : Array Oper} {o : Oper} {a : Act} {w : World} {K : Act → World → Prop} {Q : Exit → Act → World → Prop} {E : Prop} {t u : TypeId} (hw : Region.wanted o (yielded ops a.tmps) = true) (x y : Nat)
    (ho : o.op = .call { callee := .value (.func 40), args := #[.tmp x, .tmp y], argTypes := #[t, u] }) (v v' : Value) (hx : a.tmps[x]?.getD undef = v) (hy : a.tmps[y]?.getD undef = v')
    (h : Calls Try.prog 40 #[v, v'] w fun e w' => ∃ u, e = .returned u ∧ K (a.put o.dst u) w') :
    if Region.wanted o (yielded ops a.tmps) = true then Oper.wp Try.prog o a w K Q else E := by
  rw [if_pos hw]
  unfold Oper.wp
  simp [execOp, ho, resolve, invoke, hx, hy, go_sem]
  refine h.mono ?_
  rintro e w' ⟨u, rfl, hk⟩
  exact hk

theorem step_l2C {ops : Array Oper} {o : Oper} {a : Act} {w : World} {K : Act → World → Prop} {Q : Exit → Act → World → Prop} {E : Prop} {t : TypeId} (hw : Region.wanted o (yielded ops a.tmps) = true) (x : Nat)
    (ho : o.op = .call { callee := .value (.func 39), args := #[.tmp x], argTypes := #[t] }) (v : Value) (hx : a.tmps[x]?.getD undef = v)
    (h : Calls Try.prog 39 #[v] w fun e w' => ∃ u, e = .returned u ∧ K (a.put o.dst u) w') :
    if Region.wanted o (yielded ops a.tmps) = true then Oper.wp Try.prog o a w K Q else E := by
  rw [if_pos hw]
  unfold Oper.wp
  simp [execOp, ho, resolve, invoke, hx, go_sem]
  refine h.mono ?_
  rintro e w' ⟨u, rfl, hk⟩
  exact hk

theorem cat_range {L : Nat → Nat} {F : Nat → Nat → Int} : ∀ (k : Nat), (∀ i, i < k → ∀ j, j < L i → 0 ≤ F i j ∧ F i j < 256) → ∀ j, j < catL L k → 0 ≤ catF L F k j ∧ catF L F k j < 256
  | 0, _, j, hj => by simp [catL] at hj
  | k + 1, h, j, hj => by
    simp only [catF]
    simp only [catL] at hj
    split
    · rename_i h1
      exact cat_range k (fun i hi => h i (by omega)) j h1
    · exact h k (by omega) _ (by omega)

theorem cat_same {L : Nat → Nat} {F G : Nat → Nat → Int} (k : Nat) : (∀ j, j < catL L k → catF L F k j = catF L G k j) ↔ ∀ i, i < k → ∀ j, j < L i → F i j = G i j := by
  constructor
  · intro h i hi j hj
    have h1 : catL L (i + 1) ≤ catL L k := catL_mono L (by omega)
    simp only [catL] at h1
    have := h (catL L i + j) (by omega)
    rw [cat_pos L F k i j hi hj, cat_pos L G k i j hi hj] at this
    exact this
  · intro h
    induction k with
    | zero => intro j hj; simp [catL] at hj
    | succ k ih =>
      intro j hj
      simp only [catF]
      simp only [catL] at hj
      split
      · rename_i h1
        exact ih (fun i hi => h i (by omega)) j h1
      · exact h k (by omega) _ (by omega)

set_option maxHeartbeats 8000000 in
theorem specReadRec_in (a p : Option Addr) (n c m q : Nat) (d S : Nat → Int) (L : Nat → Nat) (F : Nat → Nat → Int) (fuel : Int) (dead : Bool) (s : Nat) (seq : Int) (w : World) (ha : Rd .u8 w a n d) (hp : RdP w p m S L F) (hv : VD n m S L fuel) (hq : numB seq = true) (hs : s < n / 64) (hn : n ≤ 1048576) (hnc : n ≤ c) (hcm : c ≤ 9223372036854775807) (hm : m ≤ 1048576) (hr : ∀ s i, i < 64 → 0 ≤ secF d S F m s i ∧ secF d S F m s i < 256) :
    Calls Try.prog 15 #[.agg #[.slice a n c, .slice p m q, .int .i64 fuel, .bool dead], .int .i64 s, .int .i64 seq] w fun e w' => SpRet w e w' (fun i => secF d S F m (s + i)) ((n : Int) / 64 - s) seq := by
  have HFIN : Hid (∀ W : World, Below (w.heap.size + 2) ((w.alloc (.cells #[.slice a n c, .slice p m q, .int .i64 fuel, .bool dead] 39)).alloc (.cells #[.bool false, .slice none 0 0, .int .i64 0] 35)) W → Below w.heap.size w W) := fun W h => ((below_alloc _ _).trans ((below_alloc _ _).mono (by simp))).trans (h.mono (by omega))
  have HE2 : Hid (∀ o1 o2, ((w.alloc o1).alloc o2).heap.size = w.heap.size + 2) := fun _ _ => by simp
  have HA : Hid (Rd .u8 w a n d) := ha
  have HP : Hid (RdP w p m S L F) := hp
  have HV : Hid (VD n m S L fuel) := hv
  have HQ : Hid (numB seq = true) := hq
  have HR : Hid (∀ s i, i < 64 → 0 ≤ secF d S F m s i ∧ secF d S F m s i < 256) := hr
  have hs0 : ¬ ((s : Int) < 0) := by omega
  have hs1 : ¬ ((n : Int) / 64 ≤ (s : Int)) := by omega
  clear ha hp hv hq hr
  go_enter Try.func15, Try.ntmps15
  go_wp2_with fail
  refine (specValid_any a p n c m q S L F fuel dead _ (HP.out.below ((below_alloc _ _).trans ((below_alloc _ _).mono (by simp)))) hn hm).mono ?_
  rintro e w1 ⟨h1, hb1⟩
  have := ans_true' h1 HV.out
  subst this
  rw [HE2.out] at hb1
  have K1 : Hid (Below (w.heap.size + 2) ((w.alloc (.cells #[.slice a n c, .slice p m q, .int .i64 fuel, .bool dead] 39)).alloc (.cells #[.bool false, .slice none 0 0, .int .i64 0] 35)) w1) := hb1
  have z1 : w.heap.size + 2 ≤ w1.heap.size := by have := hb1.size; rw [HE2.out] at this; exact this
  clear hb1 h1
  go_wp2_with fail
  refine (l2Number_any seq w1).mono ?_
  rintro e w2 ⟨he, hw⟩
  subst hw
  rw [HQ.out] at he
  subst he
  have hc1 : ∀ b o, b < w.heap.size + 2 → w2.cell? ⟨b, o, none⟩ = _ := fun b o hb => K1.out.cell (p := ⟨b, o, none⟩) hb
  go_wp2_with fail
  refine (l1Sectors_any a p n c m q fuel dead w2 hn).mono ?_
  rintro e w3 ⟨rfl, hb3⟩
  have K3 : Hid (Below (w.heap.size + 2) ((w.alloc (.cells #[.slice a n c, .slice p m q, .int .i64 fuel, .bool dead] 39)).alloc (.cells #[.bool false, .slice none 0 0, .int .i64 0] 35)) w3) := K1.out.trans (hb3.mono z1)
  have z3 : w.heap.size + 2 ≤ w3.heap.size := Nat.le_trans z1 hb3.size
  clear hb3 hc1 K1
  have hc3 : ∀ b o, b < w.heap.size + 2 → w3.cell? ⟨b, o, none⟩ = _ := fun b o hb => K3.out.cell (p := ⟨b, o, none⟩) hb
  go_wp2_with fail
  refine (specRead_good a p n c m q d S L F fuel dead s w3 (HA.out.below (HFIN.out _ K3.out)) (HP.out.below (HFIN.out _ K3.out)) HV.out hs hn hnc hcm hm).mono ?_
  rintro e w4 ⟨a4, c4, rfl, ho4, hb4, hl4, hm4⟩
  have K4 : Hid (Below (w.heap.size + 2) ((w.alloc (.cells #[.slice a n c, .slice p m q, .int .i64 fuel, .bool dead] 39)).alloc (.cells #[.bool false, .slice none 0 0, .int .i64 0] 35)) w4) := K3.out.trans (hb4.mono z3)
  have z4 : w.heap.size + 2 ≤ w4.heap.size := Nat.le_trans z3 hb4.size
  have R4 : Hid (Rd .u8 w4 (shA a4 6 c4) 2 (fun j => secF d S F m s (6 + j))) := rd_mid (lo := 6) (hi := 8) c4 ho4.rd (by omega) (by omega) hl4
  have hsl4 : ∀ wz, (Instr.sliceAt 24 (.slice a4 64 c4) (some (.int .i64 6)) (some (.int .i64 8)) none).run Try.prog wz = .ok (.slice (shA a4 6 c4) 2 (c4 - 6)) wz := fun wz => run_mid a4 64 c4 6 8 (by omega) (by omega) wz
  clear ho4 hb4 hc3 K3
  go_wp2_with fail
  refine (l2Get_any (shA a4 6 c4) 2 (c4 - 6) (fun j => secF d S F m s (6 + j)) w4 R4.out (fun i hi => HR.out s (6 + i) (by omega)) (by omega)).mono ?_
  rintro e w5 ⟨rfl, hw5⟩
  subst hw5
  rw [horn_at2 (secF d S F m s) 6]
  have hK := getN2_range (HR.out s) (o := 6) (by omega)
  obtain ⟨K, hKe⟩ : ∃ K, getN (secF d S F m s) 6 2 = K := ⟨_, rfl⟩
  rw [hKe] at hK ⊢
  have HKE : Hid (getN (secF d S F m (s + 0)) 6 2 = K) := hKe
  clear R4 hsl4 hKe
  have hc5 : ∀ b o, b < w.heap.size + 2 → w5.cell? ⟨b, o, none⟩ = _ := fun b o hb => K4.out.cell (p := ⟨b, o, none⟩) hb
  have hf5 : ∀ b o, b < w.heap.size + 2 → w5.frozen? ⟨b, o, none⟩ = _ := fun b o hb => K4.out.frozen (p := ⟨b, o, none⟩) hb
  have hz5 : w.heap.size + 1 < w5.heap.size := by omega
  have HB5 : Hid (Below w.heap.size w w5) := HFIN.out _ K4.out
  by_cases hk1 : K < 1
  · have HNO : Hid (¬ recOk (fun i => secF d S F m (s + i)) ((n : Int) / 64 - s) seq) := fun q => by
      have h9 : 1 ≤ getN (secF d S F m (s + 0)) 6 2 := q.1
      rw [HKE.out] at h9
      omega
    go_wp2
    refine bodyPost_ret (v := .agg #[.bool false, .slice none 0 0, .int .i64 0]) (by simp [results, Try.results15, go_sem, hc5]) rfl ⟨?_, Or.inr ⟨HNO.out, rfl⟩⟩
    exact below3 HB5.out (by omega)
  go_wp2_with fail
  refine (l1Sectors_any a p n c m q fuel dead w5 hn).mono ?_
  rintro e w6 ⟨rfl, hb6⟩
  have K6 : Hid (Below (w.heap.size + 2) ((w.alloc (.cells #[.slice a n c, .slice p m q, .int .i64 fuel, .bool dead] 39)).alloc (.cells #[.bool false, .slice none 0 0, .int .i64 0] 35)) w6) := K4.out.trans (hb6.mono z4)
  have z6 : w.heap.size + 2 ≤ w6.heap.size := Nat.le_trans z4 hb6.size
  clear hb6 hc5 hf5 hz5 HB5 K4
  have hadd : IntKind.i64.wrap ((s : Int) + K) = (s : Int) + K := by rw [IntKind.wrap_i64]; omega
  by_cases hk2 : (n : Int) / 64 < (s : Int) + K
  · have HNO : Hid (¬ recOk (fun i => secF d S F m (s + i)) ((n : Int) / 64 - s) seq) := fun q => by
      have h9 : getN (secF d S F m (s + 0)) 6 2 ≤ (n : Int) / 64 - s := q.2.2.1
      rw [HKE.out] at h9
      omega
    have hc6 : ∀ b o, b < w.heap.size + 2 → w6.cell? ⟨b, o, none⟩ = _ := fun b o hb => K6.out.cell (p := ⟨b, o, none⟩) hb
    have hf6 : ∀ b o, b < w.heap.size + 2 → w6.frozen? ⟨b, o, none⟩ = _ := fun b o hb => K6.out.frozen (p := ⟨b, o, none⟩) hb
    have hz6 : w.heap.size + 1 < w6.heap.size := by omega
    have HB6 : Hid (Below w.heap.size w w6) := HFIN.out _ K6.out
    go_wp2
    refine bodyPost_ret (v := .agg #[.bool false, .slice none 0 0, .int .i64 0]) (by simp [results, Try.results15, go_sem, hc6]) rfl ⟨?_, Or.inr ⟨HNO.out, rfl⟩⟩
    exact below3 HB6.out (by omega)
  obtain ⟨k, hkK⟩ : ∃ k : Nat, K = (k : Int) := ⟨K.toNat, by omega⟩
  have HKN : Hid (K.toNat = k ∧ 1 ≤ k ∧ s + k ≤ n / 64) := ⟨by omega, by omega, by omega⟩
  subst hkK
  have HSt0 : Hid (RrSt w6.heap.size ((w6.alloc (.cells #[] 5)).alloc (.cells #[] 5)) (fun i => secF d S F m (s + i)) 0 (.slice (some ⟨w6.heap.size, 0, none⟩) 0 0) (.slice (some ⟨w6.heap.size + 1, 0, none⟩) 0 0)) := by
    have e1 : (w6.alloc (.cells #[] 5)).heap.size = w6.heap.size + 1 := by simp
    have b1 := blk_alloc_new (w6.alloc (.cells #[] 5)) (.cells #[] 5)
    rw [e1] at b1
    refine ⟨⟨rfl, Or.inr ⟨w6.heap.size, 0, #[], rfl, Nat.le_refl _, ((below_alloc _ _).block _ (by omega)).trans (blk_alloc_new _ _), Nat.le_refl _, Nat.zero_le _, rfl, rfl⟩⟩, ⟨rfl, Or.inr ⟨w6.heap.size + 1, 0, #[], rfl, by omega, b1, Nat.le_refl _, Nat.zero_le _, rfl, rfl⟩⟩, fun g h1 h2 => ?_, by simp; omega⟩
    simp [Value.ownBlock] at h1 h2
    omega
  have HB0 : Hid (Below w6.heap.size w6 ((w6.alloc (.cells #[] 5)).alloc (.cells #[] 5))) := (below_alloc _ _).alloc (by simp) _
  go_wp2
  go_loopw [8, 9, 10, 11, 12] (fun v u i _ _ wr => ∃ x : Nat, x ≤ k ∧ i = .int .i64 x ∧ RrSt w6.heap.size wr (fun i => secF d S F m (s + i)) x v u ∧ (∀ j, j < x → getN (secF d S F m (s + j)) 8 2 ≤ 48) ∧ Below w6.heap.size w6 wr) (fun _ _ i _ _ _ => k - (intOf i).toNat)
  case atStart => exact ⟨0, Nat.zero_le _, rfl, HSt0.out, fun j hj => absurd hj (Nat.not_lt_zero _), HB0.out⟩
  case round =>
    obtain ⟨x, hx, rfl, hst, hsm, hbw⟩ := hrel
    have HS : Hid (RrSt w6.heap.size wr (fun i => secF d S F m (s + i)) x u8 u9) := hst
    have HSM : Hid (∀ j, j < x → getN (secF d S F m (s + j)) 8 2 ≤ 48) := hsm
    have HBW : Hid (Below w6.heap.size w6 wr) := hbw
    have K7 : Hid (Below (w.heap.size + 2) ((w.alloc (.cells #[.slice a n c, .slice p m q, .int .i64 fuel, .bool dead] 39)).alloc (.cells #[.bool false, .slice none 0 0, .int .i64 0] 35)) wr) := K6.out.trans (hbw.mono z6)
    have z7 : w.heap.size + 2 ≤ wr.heap.size := Nat.le_trans z6 hbw.size
    clear hst hsm hbw HSt0 HB0
    by_cases hlt : x < k
    · have hlti : (x : Int) < (k : Int) := by omega
      have hc7 : ∀ b o, b < w.heap.size + 2 → wr.cell? ⟨b, o, none⟩ = _ := fun b o hb => K7.out.cell (p := ⟨b, o, none⟩) hb
      have hadx : IntKind.i64.wrap ((s : Int) + (x : Int)) = (s : Int) + (x : Int) := by have := HKN.out; rw [IntKind.wrap_i64]; omega
      go_wp2_with fail
      refine (specRead_at _ a p n c m q d S L F fuel dead (s + x) wr (by omega) (HA.out.below (HFIN.out _ K7.out)) (HP.out.below (HFIN.out _ K7.out)) HV.out (by have := HKN.out; omega) hn hnc hcm hm).mono ?_
      rintro e w8 ⟨a8, c8, rfl, ho8, hb8, hl8, hm8⟩
      have R8 : Hid (Rd .u8 w8 a8 64 (secF d S F m (s + x))) := ho8.rd
      have O8 : Hid (OwnB w8 wr.heap.size a8 64 (secF d S F m (s + x)) ∧ ∀ g, u8.ownBlock = some g → g < wr.heap.size) := ⟨ho8, fun g hg => (ownsRow_in HS.out.pay hg).2⟩
      have S8 : Hid (RrSt w6.heap.size w8 (fun i => secF d S F m (s + i)) x u8 u9) := HS.out.below hb8
      have B8 : Hid (Below w6.heap.size w6 w8) := HBW.out.trans (hb8.mono HBW.out.size)
      have K8 : Hid (Below (w.heap.size + 2) ((w.alloc (.cells #[.slice a n c, .slice p m q, .int .i64 fuel, .bool dead] 39)).alloc (.cells #[.bool false, .slice none 0 0, .int .i64 0] 35)) w8) := K7.out.trans (hb8.mono z7)
      have z8 : w.heap.size + 2 ≤ w8.heap.size := Nat.le_trans z7 hb8.size
      clear ho8 hb8 hc7 K7 HS HBW
      have hsl8 : ∀ wz, (Instr.sliceAt 24 (.slice a8 64 c8) (some (.int .i64 8)) (some (.int .i64 10)) none).run Try.prog wz = .ok (.slice (shA a8 8 c8) 2 (c8 - 8)) wz := fun wz => run_mid a8 64 c8 8 10 (by omega) (by omega) wz
      go_wp2_with fail
      refine (l2Get_any (shA a8 8 c8) 2 (c8 - 8) (fun j => secF d S F m (s + x) (8 + j)) w8 (rd_mid (lo := 8) (hi := 10) c8 R8.out (by omega) (by omega) hl8) (fun i hi => HR.out (s + x) (8 + i) (by omega)) (by omega)).mono ?_
      rintro e w9 ⟨rfl, hw9⟩
      subst hw9
      rw [horn_at2 (secF d S F m (s + x)) 8]
      have hN := getN2_range (HR.out (s + x)) (o := 8) (by omega)
      obtain ⟨N, hNe⟩ : ∃ N, getN (secF d S F m (s + x)) 8 2 = N := ⟨_, rfl⟩
      rw [hNe] at hN ⊢
      have HNE : Hid (getN (secF d S F m (s + x)) 8 2 = N) := hNe
      clear hNe hsl8
      by_cases hbig : 48 < N
      · have HNO : Hid (¬ recOk (fun i => secF d S F m (s + i)) ((n : Int) / 64 - s) seq) := fun q => by
          have h9 := q.2.2.2 x (by show (x : Int) < getN (secF d S F m (s + 0)) 6 2; rw [HKE.out]; omega)
          have h8 := piece_len (G := fun i => secF d S F m (s + i)) (x := x) h9
          have h7 : recLz (fun i => secF d S F m (s + i)) x = N.toNat := by show (getN (secF d S F m (s + x)) 8 2).toNat = _; rw [HNE.out]
          omega
        have hc9 : ∀ b o, b < w.heap.size + 2 → w9.cell? ⟨b, o, none⟩ = _ := fun b o hb => K8.out.cell (p := ⟨b, o, none⟩) hb
        have hf9 : ∀ b o, b < w.heap.size + 2 → w9.frozen? ⟨b, o, none⟩ = _ := fun b o hb => K8.out.frozen (p := ⟨b, o, none⟩) hb
        have hz9 : w.heap.size + 1 < w9.heap.size := by omega
        have HB9 : Hid (Below w.heap.size w w9) := HFIN.out _ K8.out
        go_wp2
        refine bodyPost_ret (v := .agg #[.bool false, .slice none 0 0, .int .i64 0]) (by simp [results, Try.results15, go_sem, hc9]) rfl ⟨?_, Or.inr ⟨HNO.out, rfl⟩⟩
        exact below3 HB9.out (by omega)
      obtain ⟨l, hNl⟩ : ∃ l : Nat, N = (l : Int) := ⟨N.toNat, by omega⟩
      have HLZ : Hid (recLz (fun i => secF d S F m (s + i)) x = l) := by show (getN (secF d S F m (s + x)) 8 2).toNat = l; rw [HNE.out]; omega
      have hl48 : l ≤ 48 := by omega
      have hNs : getN (secF d S F m (s + x)) 8 2 ≤ 48 := by rw [HNE.out]; omega
      have HNS : Hid (getN (secF d S F m (s + x)) 8 2 ≤ 48) := hNs
      clear hNs
      subst hNl
      have hsl9 : ∀ wz, (Instr.sliceAt 24 (.slice a8 64 c8) (some (.int .i64 12)) (some (.int .i64 (12 + (l : Int)))) none).run Try.prog wz = .ok (.slice (shA a8 12 c8) l (c8 - 12)) wz := fun wz => by
        have := run_mid a8 64 c8 12 (12 + l) (by omega) (by omega) wz
        rw [show (((12 + l : Nat)) : Int) = 12 + (l : Int) by omega, show 12 + l - 12 = l by omega] at this
        exact this
      have had9 : IntKind.i64.wrap (12 + (l : Int)) = 12 + (l : Int) := by rw [IntKind.wrap_i64]; omega
      have RP9 : Hid (Rd .u8 w9 (shA a8 12 c8) l (recFz (fun i => secF d S F m (s + i)) x)) := by
        have := rd_mid (lo := 12) (hi := 12 + l) c8 R8.out (by omega) (by omega) hl8
        rw [show 12 + l - 12 = l by omega] at this
        exact this
      have HCL : Hid (catL (recLz (fun i => secF d S F m (s + i))) x ≤ 48 * x) := catL_le48 _ x (fun j hj => by
        have h9 := HSM.out j hj
        show (getN (secF d S F m (s + j)) 8 2).toNat ≤ 48
        omega)
      have hx9 : x ≤ 65536 := by omega
      have hB9 : w6.heap.size ≤ w9.heap.size := S8.out.le
      go_wp2_with (at_builtin; refine wpList_append_rd_at rfl _ _ rfl w6.heap.size _ (catL (recLz (fun i => secF d S F m (s + i))) x) _ rfl S8.out.pay (shA a8 12 c8) l (c8 - 12) (recFz (fun i => secF d S F m (s + i)) x) rfl RP9.out (by have := HCL.out; omega) hB9 ?_)
      intro v' w10 o10 g10 l10
      have R10 : Hid (Rd .u8 w10 a8 64 (secF d S F m (s + x))) := (ownB_grown O8.out.1 g10 O8.out.2).rd
      have D10 : Hid (w10.ownsRow w6.heap.size 5 1 v' (catL (recLz (fun i => secF d S F m (s + i))) x + l) (byteRow (catF (recLz (fun i => secF d S F m (s + i))) (recFz (fun i => secF d S F m (s + i))) x) (catL (recLz (fun i => secF d S F m (s + i))) x) ++ byteRow (recFz (fun i => secF d S F m (s + i)) x) l) ∧ w9.grownBy w10 u8.ownBlock ∧ (v'.ownBlock = u8.ownBlock ∨ v'.ownBlock = some w9.heap.size)) := ⟨o10, g10, l10⟩
      have RW10 : Hid (w10.ownsRow w6.heap.size 5 1 u9 (catL (fun _ => 64) x) (byteRow (catF (fun _ => 64) (fun i => secF d S F m (s + i)) x) (catL (fun _ => 64) x))) := ownsRow_kept S8.out.raw g10 (fun g e1 e2 => S8.out.apart g e2 e1)
      have hB10 : w6.heap.size ≤ w10.heap.size := Nat.le_trans hB9 g10.size
      have HC64 : Hid (catL (fun _ => 64) x = 64 * x) := catL64 x
      clear o10 g10 l10 hsl9 had9
      go_wp2_with (at_builtin; refine wpList_append_rd_at rfl _ _ rfl w6.heap.size _ (catL (fun _ => 64) x) _ rfl RW10.out a8 64 c8 (secF d S F m (s + x)) rfl R10.out (by have := HC64.out; omega) hB10 ?_)
      intro u' w11 o11 g11 l11
      have HN : Hid (RrSt w6.heap.size w11 (fun i => secF d S F m (s + i)) (x + 1) v' u' ∧ Below w6.heap.size w6 w11 ∧ ∀ j, j < x + 1 → getN (secF d S F m (s + j)) 8 2 ≤ 48) := by
        obtain ⟨o10, g10, l10⟩ := D10.out
        refine ⟨S8.out.next (by rw [HLZ.out]; exact o10) g10 l10 o11 g11 l11, ?_, fun j hj => ?_⟩
        · refine (B8.out.grown g10 B8.out.size (fun g e => (ownsRow_in S8.out.pay e).1)).grown g11 (Nat.le_trans B8.out.size g10.size) (fun g e => (ownsRow_in RW10.out e).1)
        · by_cases e : j = x
          · subst e; exact HNS.out
          · exact HSM.out j (by omega)
      clear o11 g11 l11 D10 RW10 R10 RP9 S8 R8 O8 HSM
      go_wp2
      go_roundw
      case rel => exact ⟨x + 1, by omega, by go_num, HN.out.1, HN.out.2.2, HN.out.2.1⟩
      case measure => simp [intOf]; omega
    · have e : x = k := by omega
      subst e
      obtain ⟨av, cv, hvv, hov, hlv, hmv⟩ := ownB_ofRow HS.out.pay
      obtain ⟨au, cu, huu, hou, hlu, hmu⟩ := ownB_ofRow HS.out.raw
      subst hvv huu
      have hx1 : 1 ≤ x := HKN.out.2.1
      have hsx : s + x ≤ n / 64 := HKN.out.2.2
      rw [catL64] at hou hlu ⊢
      have HG : Hid (∀ i j, j < 64 → 0 ≤ (fun i => secF d S F m (s + i)) i j ∧ (fun i => secF d S F m (s + i)) i j < 256) := fun i j hj => HR.out (s + i) j hj
      have HIFF : catL (recLz (fun i => secF d S F m (s + i))) x ≤ 30000 → (recOk (fun i => secF d S F m (s + i)) ((n : Int) / 64 - s) seq ↔ (cntOf (catL (recLz (fun i => secF d S F m (s + i))) x) = x ∧ ∀ i, i < x → ∀ j, j < 64 → secW (catL (recLz (fun i => secF d S F m (s + i))) x) seq (catF (recLz (fun i => secF d S F m (s + i))) (recFz (fun i => secF d S F m (s + i))) x) i j = (fun i => secF d S F m (s + i)) i j)) := fun h9 =>
        rec_same (fun i => secF d S F m (s + i)) _ seq x HKE.out hx1 (by omega) (fun i => (getN2_range (fun j hj => HR.out (s + i) j hj) (o := 8) (by omega)).1) HSM.out h9
      have HOV : Hid (OwnB wr w6.heap.size av (catL (recLz (fun i => secF d S F m (s + i))) x) (catF (recLz (fun i => secF d S F m (s + i))) (recFz (fun i => secF d S F m (s + i))) x)) := hov
      have HOU : Hid (OwnB wr w6.heap.size au (64 * x) (catF (fun _ => 64) (fun i => secF d S F m (s + i)) x)) := hou
      by_cases hbig : 30000 < catL (recLz (fun i => secF d S F m (s + i))) x
      · have hbi : 30000 < ((catL (recLz (fun i => secF d S F m (s + i))) x : Nat) : Int) := by omega
        have hbd : decide (30000 < ((catL (recLz (fun i => secF d S F m (s + i))) x : Nat) : Int)) = true := by simp; omega
        have HNO : Hid (¬ recOk (fun i => secF d S F m (s + i)) ((n : Int) / 64 - s) seq) := fun q => by
          have h9 : getN (secF d S F m (s + 0)) 6 2 ≤ 625 := q.2.1
          have h8 : ∀ y : Nat, y < x → pieceB ((fun i => secF d S F m (s + i)) y) seq y (x : Int) = true := fun y hy => by
            have := q.2.2.2 y (by show (y : Int) < getN (secF d S F m (s + 0)) 6 2; rw [HKE.out]; omega)
            rw [show getN ((fun i => secF d S F m (s + i)) 0) 6 2 = (x : Int) from HKE.out] at this
            exact this
          have h7 := catL_le (G := (fun i => secF d S F m (s + i))) (seq := seq) (K := x) x h8
          rw [HKE.out] at h9
          omega
        have hc7 : ∀ b o, b < w.heap.size + 2 → wr.cell? ⟨b, o, none⟩ = _ := fun b o hb => K7.out.cell (p := ⟨b, o, none⟩) hb
        have hf7 : ∀ b o, b < w.heap.size + 2 → wr.frozen? ⟨b, o, none⟩ = _ := fun b o hb => K7.out.frozen (p := ⟨b, o, none⟩) hb
        have hz7 : w.heap.size + 1 < wr.heap.size := by omega
        have HB7 : Hid (Below w.heap.size w wr) := HFIN.out _ K7.out
        clear HIFF hov hou
        go_wp2
        refine wp_region_late (S := (fun _ => True)) 12 (by kernel_rfl) ?_ (fun hHeld => ?_)
        · (try trivial)
        refine late_take 0 .zero (v := ?_) (by kernel_rfl) (by kernel_rfl) (by kernel_rfl) (by kernel_rfl) (fun _ _ _ h => h) (by rfl) ?_ (by assumption) ?_
        rotate_left
        · (intro w hSw; (try dsimp only at hSw); go_simp) <;> with_reducible rfl
        simp only [Act.put, List.setIfInBounds_toArray, List.set_cons_zero, List.set_cons_succ]
        refine late_take 1 (.succ .zero) (v := ?_) (by kernel_rfl) (by kernel_rfl) (by kernel_rfl) (by kernel_rfl) (fun _ _ _ h => h) (by rfl) ?_ (by assumption) ?_
        rotate_left
        · (intro w hSw; (try dsimp only at hSw); go_simp) <;> with_reducible rfl
        simp only [Act.put, List.setIfInBounds_toArray, List.set_cons_zero, List.set_cons_succ]
        refine late_take 2 (.succ (.succ .zero)) (v := ?_) (by kernel_rfl) (by kernel_rfl) (by kernel_rfl) (by kernel_rfl) (fun _ _ _ h => h) (by rfl) ?_ (by assumption) ?_
        rotate_left
        · (intro w hSw; (try dsimp only at hSw); go_simp) <;> with_reducible rfl
        simp only [Act.put, List.setIfInBounds_toArray, List.set_cons_zero, List.set_cons_succ]
        refine late_take 3 (.succ (.succ (.succ .zero))) (v := ?_) (by kernel_rfl) (by kernel_rfl) (by kernel_rfl) (by kernel_rfl) (fun _ _ _ h => h) (by rfl) ?_ (by assumption) ?_
        rotate_left
        · (intro w hSw; (try dsimp only at hSw); go_simp) <;> with_reducible rfl
        simp only [Act.put, List.setIfInBounds_toArray, List.set_cons_zero, List.set_cons_succ]
        refine late_skip 4 (.succ (.succ (.succ (.succ .zero)))) (by kernel_rfl) (by kernel_rfl) (by kernel_rfl) (by kernel_rfl) (fun _ _ _ h => h) (by rfl) (by assumption) ?_
        simp only [Act.put, List.setIfInBounds_toArray, List.set_cons_zero, List.set_cons_succ]
        refine late_skip 5 (.succ (.succ (.succ (.succ (.succ .zero))))) (by kernel_rfl) (by kernel_rfl) (by kernel_rfl) (by kernel_rfl) (fun _ _ _ h => h) (by rfl) (by assumption) ?_
        simp only [Act.put, List.setIfInBounds_toArray, List.set_cons_zero, List.set_cons_succ]
        refine late_skip 6 (.succ (.succ (.succ (.succ (.succ (.succ .zero)))))) (by kernel_rfl) (by kernel_rfl) (by kernel_rfl) (by kernel_rfl) (fun _ _ _ h => h) (by rfl) (by assumption) ?_
        simp only [Act.put, List.setIfInBounds_toArray, List.set_cons_zero, List.set_cons_succ]
        refine late_skip 7 (.succ (.succ (.succ (.succ (.succ (.succ (.succ .zero))))))) (by kernel_rfl) (by kernel_rfl) (by kernel_rfl) (by kernel_rfl) (fun _ _ _ h => h) (by rfl) (by assumption) ?_
        simp only [Act.put, List.setIfInBounds_toArray, List.set_cons_zero, List.set_cons_succ]
        refine late_skip 8 (.succ (.succ (.succ (.succ (.succ (.succ (.succ (.succ .zero)))))))) (by kernel_rfl) (by kernel_rfl) (by kernel_rfl) (by kernel_rfl) (fun _ _ _ h => h) (by rfl) (by assumption) ?_
        simp only [Act.put, List.setIfInBounds_toArray, List.set_cons_zero, List.set_cons_succ]
        refine late_skip 9 (.succ (.succ (.succ (.succ (.succ (.succ (.succ (.succ (.succ .zero))))))))) (by kernel_rfl) (by kernel_rfl) (by kernel_rfl) (by kernel_rfl) (fun _ _ _ h => h) (by rfl) (by assumption) ?_
        simp only [Act.put, List.setIfInBounds_toArray, List.set_cons_zero, List.set_cons_succ]
        refine late_skip 10 (.succ (.succ (.succ (.succ (.succ (.succ (.succ (.succ (.succ (.succ .zero)))))))))) (by kernel_rfl) (by kernel_rfl) (by kernel_rfl) (by kernel_rfl) (fun _ _ _ h => h) (by rfl) (by assumption) ?_
        simp only [Act.put, List.setIfInBounds_toArray, List.set_cons_zero, List.set_cons_succ]
        refine late_skip 11 (.succ (.succ (.succ (.succ (.succ (.succ (.succ (.succ (.succ (.succ (.succ .zero))))))))))) (by kernel_rfl) (by kernel_rfl) (by kernel_rfl) (by kernel_rfl) (fun _ _ _ h => h) (by rfl) (by assumption) ?_
        simp only [Act.put, List.setIfInBounds_toArray, List.set_cons_zero, List.set_cons_succ]
        refine late_one 12 (.succ (.succ (.succ (.succ (.succ (.succ (.succ (.succ (.succ (.succ (.succ (.succ .zero)))))))))))) (by kernel_rfl) (fun K hK => ?_)
        go_simp
        refine hK.out _ _ ?_ (fun hHeld2 => ?_)
        · (intro hne; exact absurd rfl hne)
        clear hK K hHeld2
        refine wpLate_done (by kernel_rfl) ?_ _
        go_wp2
        refine bodyPost_ret (v := .agg #[.bool false, .slice none 0 0, .int .i64 0]) (by simp [results, Try.results15, go_sem, hc7]) rfl ⟨?_, Or.inr ⟨HNO.out, rfl⟩⟩
        exact below3 HB7.out.drew (by omega)
      · have hle : (catL (recLz (fun i => secF d S F m (s + i))) x) ≤ 30000 := by omega
        have hbd : decide (30000 < (((catL (recLz (fun i => secF d S F m (s + i))) x) : Nat) : Int)) = false := by simp; omega
        have HF2 : Hid (∀ j, j < (catL (recLz (fun i => secF d S F m (s + i))) x) → 0 ≤ (catF (recLz (fun i => secF d S F m (s + i))) (recFz (fun i => secF d S F m (s + i))) x) j ∧ (catF (recLz (fun i => secF d S F m (s + i))) (recFz (fun i => secF d S F m (s + i))) x) j < 256) := fun j hj => cat_range x (fun i hi j hj => by
          have h9 := HSM.out i hi
          have h8 : recLz (fun i => secF d S F m (s + i)) i ≤ 48 := by show (getN (secF d S F m (s + i)) 8 2).toNat ≤ 48; omega
          exact HG.out i (12 + j) (by omega)) j hj
        have H6 : Hid (Calls Try.prog 40 #[.int .i64 seq, .slice av (catL (recLz (fun i => secF d S F m (s + i))) x) cv] wr.drew (SecsRet wr.drew (catL (recLz (fun i => secF d S F m (s + i))) x) seq (catF (recLz (fun i => secF d S F m (s + i))) (recFz (fun i => secF d S F m (s + i))) x))) := by
          have hq9 := HQ.out
          unfold numB at hq9
          simp only [Bool.and_eq_true, decide_eq_true_eq] at hq9
          exact l2Sectors_any av (catL (recLz (fun i => secF d S F m (s + i))) x) cv (catF (recLz (fun i => secF d S F m (s + i))) (recFz (fun i => secF d S F m (s + i))) x) seq wr.drew HOV.out.rd HF2.out hle hlv hmv (by omega) (by omega)
        have RR : Hid (∀ w12, Below wr.drew.heap.size wr.drew w12 → Rd .u8 w12 au (64 * x) (catF (fun _ => 64) (fun i => secF d S F m (s + i)) x)) := fun w12 hb => by
          have q : Rd .u8 wr.drew au (64 * x) (catF (fun _ => 64) (fun i => secF d S F m (s + i)) x) := HOU.out.rd
          exact q.below hb
        have hcn : cntOf (catL (recLz (fun i => secF d S F m (s + i))) x) ≤ 1000 := by unfold cntOf; split <;> omega
        have hcn0 : cntOf (catL (recLz (fun i => secF d S F m (s + i))) x) ≠ 0 := by unfold cntOf; split <;> omega
        have H7 : Hid (∀ (w12 : World) (b12 q12 : Nat), RdS w12 b12 0 (cntOf (catL (recLz (fun i => secF d S F m (s + i))) x)) (fun _ => 64) (secW (catL (recLz (fun i => secF d S F m (s + i))) x) seq (catF (recLz (fun i => secF d S F m (s + i))) (recFz (fun i => secF d S F m (s + i))) x)) → Calls Try.prog 39 #[.slice (some ⟨b12, 0, none⟩) (cntOf (catL (recLz (fun i => secF d S F m (s + i))) x)) q12] w12 fun e w' => RetOwn w12 e w' (catL (fun _ => 64) (cntOf (catL (recLz (fun i => secF d S F m (s + i))) x))) (catF (fun _ => 64) (secW (catL (recLz (fun i => secF d S F m (s + i))) x) seq (catF (recLz (fun i => secF d S F m (s + i))) (recFz (fun i => secF d S F m (s + i))) x)) (cntOf (catL (recLz (fun i => secF d S F m (s + i))) x)))) := fun w12 b12 q12 hh =>
          l2Cat_any b12 0 _ q12 _ _ w12 hh (by omega) (fun k hk => by rw [catL64]; omega) (fun k hk => by omega)
        have HNZ : Hid (catL (fun _ => 64) (cntOf (catL (recLz (fun i => secF d S F m (s + i))) x)) ≠ 0) := by show _ ≠ 0; rw [catL64]; omega
        have HEQ : ((strN (catL (fun _ => 64) (cntOf (catL (recLz (fun i => secF d S F m (s + i))) x))) (catF (fun _ => 64) (secW (catL (recLz (fun i => secF d S F m (s + i))) x) seq (catF (recLz (fun i => secF d S F m (s + i))) (recFz (fun i => secF d S F m (s + i))) x)) (cntOf (catL (recLz (fun i => secF d S F m (s + i))) x)))).toList == (strN (64 * x) (catF (fun _ => 64) (fun i => secF d S F m (s + i)) x)).toList) = true ↔ recOk (fun i => secF d S F m (s + i)) ((n : Int) / 64 - s) seq := by
          have hr1 : ∀ j, j < catL (fun _ => 64) (cntOf (catL (recLz (fun i => secF d S F m (s + i))) x)) → 0 ≤ catF (fun _ => 64) (secW (catL (recLz (fun i => secF d S F m (s + i))) x) seq (catF (recLz (fun i => secF d S F m (s + i))) (recFz (fun i => secF d S F m (s + i))) x)) (cntOf (catL (recLz (fun i => secF d S F m (s + i))) x)) j ∧ catF (fun _ => 64) (secW (catL (recLz (fun i => secF d S F m (s + i))) x) seq (catF (recLz (fun i => secF d S F m (s + i))) (recFz (fun i => secF d S F m (s + i))) x)) (cntOf (catL (recLz (fun i => secF d S F m (s + i))) x)) j < 256 := cat_range _ (fun i hi j hj => by
            have h6 := recH_range seq i (cntOf (catL (recLz (fun i => secF d S F m (s + i))) x)) (plen (catL (recLz (fun i => secF d S F m (s + i))) x) i) (fun j => (catF (recLz (fun i => secF d S F m (s + i))) (recFz (fun i => secF d S F m (s + i))) x) (i * 48 + j)) (fun j hj => HF2.out _ (by
              unfold plen at hj
              have h7 := cntOf_lt hi
              split at hj <;> omega))
            exact putN_range h6 j hj)
          have hr2 : ∀ j, j < 64 * x → 0 ≤ (catF (fun _ => 64) (fun i => secF d S F m (s + i)) x) j ∧ (catF (fun _ => 64) (fun i => secF d S F m (s + i)) x) j < 256 := by
            rw [← catL64]
            exact cat_range _ (fun i hi j hj => HG.out i j hj)
          rw [HIFF hle, strN_same _ _ _ _ hr1 hr2, catL64]
          constructor
          · rintro ⟨h1, h2⟩
            have h3 : cntOf (catL (recLz (fun i => secF d S F m (s + i))) x) = x := by omega
            rw [h3] at h2
            exact ⟨h3, (cat_same x).1 (by rw [catL64]; exact h2)⟩
          · rintro ⟨h1, h2⟩
            rw [h1]
            refine ⟨rfl, ?_⟩
            have := (cat_same (L := fun _ => 64) x).2 h2
            rw [catL64] at this
            exact this
        have RW0 : Rd .u8 wr.drew au (64 * x) (catF (fun _ => 64) (fun i => secF d S F m (s + i)) x) := HOU.out.rd
        clear HIFF hov hou
        by_cases hok : recOk (fun i => secF d S F m (s + i)) ((n : Int) / 64 - s) seq
        · have HOK : Hid (recOk (fun i => secF d S F m (s + i)) ((n : Int) / 64 - s) seq) := hok
          have heq := HEQ.2 hok
          clear HEQ hok
          go_wp2
          refine wp_region_late (S := (fun w' => Rd .u8 w' au (64 * x) (catF (fun _ => 64) (fun i => secF d S F m (s + i)) x))) 12 (by kernel_rfl) ?_ (fun hHeld => ?_)
          · ((try dsimp only); assumption)
          refine late_take 0 .zero (v := ?_) (by kernel_rfl) (by kernel_rfl) (by kernel_rfl) (by kernel_rfl) (fun _ _ _ h => h) (by rfl) ?_ (by assumption) ?_
          rotate_left
          · (intro w hSw; (try dsimp only at hSw); go_simp) <;> with_reducible rfl
          simp only [Act.put, List.setIfInBounds_toArray, List.set_cons_zero, List.set_cons_succ]
          refine late_take 1 (.succ .zero) (v := ?_) (by kernel_rfl) (by kernel_rfl) (by kernel_rfl) (by kernel_rfl) (fun _ _ _ h => h) (by rfl) ?_ (by assumption) ?_
          rotate_left
          · (intro w hSw; (try dsimp only at hSw); go_simp) <;> with_reducible rfl
          simp only [Act.put, List.setIfInBounds_toArray, List.set_cons_zero, List.set_cons_succ]
          refine late_take 2 (.succ (.succ .zero)) (v := ?_) (by kernel_rfl) (by kernel_rfl) (by kernel_rfl) (by kernel_rfl) (fun _ _ _ h => h) (by rfl) ?_ (by assumption) ?_
          rotate_left
          · (intro w hSw; (try dsimp only at hSw); go_simp) <;> with_reducible rfl
          simp only [Act.put, List.setIfInBounds_toArray, List.set_cons_zero, List.set_cons_succ]
          refine late_take 3 (.succ (.succ (.succ .zero))) (v := ?_) (by kernel_rfl) (by kernel_rfl) (by kernel_rfl) (by kernel_rfl) (fun _ _ _ h => h) (by rfl) ?_ (by assumption) ?_
          rotate_left
          · (intro w hSw; (try dsimp only at hSw); go_simp) <;> with_reducible rfl
          simp only [Act.put, List.setIfInBounds_toArray, List.set_cons_zero, List.set_cons_succ]
          refine late_take 4 (.succ (.succ (.succ (.succ .zero)))) (v := ?_) (by kernel_rfl) (by kernel_rfl) (by kernel_rfl) (by kernel_rfl) (fun _ _ _ h => h) (by rfl) ?_ (by assumption) ?_
          rotate_left
          · (intro w hSw; (try dsimp only at hSw); go_simp) <;> with_reducible rfl
          simp only [Act.put, List.setIfInBounds_toArray, List.set_cons_zero, List.set_cons_succ]
          refine late_take 5 (.succ (.succ (.succ (.succ (.succ .zero))))) (v := ?_) (by kernel_rfl) (by kernel_rfl) (by kernel_rfl) (by kernel_rfl) (fun _ _ _ h => h) (by rfl) ?_ (by assumption) ?_
          rotate_left
          · (intro w hSw; (try dsimp only at hSw); go_simp) <;> with_reducible rfl
          simp only [Act.put, List.setIfInBounds_toArray, List.set_cons_zero, List.set_cons_succ]
          refine late_take 9 (.succ (.succ (.succ (.succ (.succ (.succ (.succ (.succ (.succ .zero))))))))) (v := ?_) (by kernel_rfl) (by kernel_rfl) (by kernel_rfl) (by kernel_rfl) (fun _ _ _ h => h) (by rfl) ?_ (by assumption) ?_
          rotate_left
          · (intro w hSw; (try dsimp only at hSw); go_simp) <;> with_reducible rfl
          simp only [Act.put, List.setIfInBounds_toArray, List.set_cons_zero, List.set_cons_succ]
          refine late_take 10 (.succ (.succ (.succ (.succ (.succ (.succ (.succ (.succ (.succ (.succ .zero)))))))))) (v := .string (strN (64 * x) (catF (fun _ => 64) (fun i => secF d S F m (s + i)) x))) (by kernel_rfl) (by kernel_rfl) (by kernel_rfl) (by kernel_rfl) (fun _ _ _ h => h) (by rfl) ?_ (by assumption) ?_
          · (intro w hSw; (try dsimp only at hSw); exact conv_any (by rfl) (by rfl) hSw (by omega))
          simp only [Act.put, List.setIfInBounds_toArray, List.set_cons_zero, List.set_cons_succ]
          refine late_one 6 (.succ (.succ (.succ (.succ (.succ (.succ .zero)))))) (by kernel_rfl) (fun K hK => ?_)
          (refine step_l2S (by rfl) 79 80 (by rfl) _ _ (by rfl) (by rfl) ?_; refine H6.out.mono ?_; rintro e w12 ⟨b12, q12, rfl, hs12, hb12⟩; refine ⟨_, rfl, ?_⟩; have hS12 := RR.out w12 hb12)
          refine hK.out _ _ ?_ (fun hHeld2 => ?_)
          · (intro _; (try dsimp only); assumption)
          clear hK K
          replace hHeld := hHeld2 (by decide)
          clear hHeld2
          try simp only [Act.put, List.setIfInBounds_toArray, List.set_cons_zero, List.set_cons_succ]
          refine late_one 7 (.succ (.succ (.succ (.succ (.succ (.succ (.succ .zero))))))) (by kernel_rfl) (fun K hK => ?_)
          (refine step_l2C (by rfl) 81 (by rfl) _ (by rfl) ?_; refine (H7.out w12 b12 q12 hs12).mono ?_; rintro e w13 ⟨a13, c13, rfl, ho13, hb13, -, -⟩; refine ⟨_, rfl, ?_⟩; have hS13 := hS12.below hb13)
          refine hK.out _ _ ?_ (fun hHeld2 => ?_)
          · (intro _; (try dsimp only); assumption)
          clear hK K
          replace hHeld := hHeld2 (by decide)
          clear hHeld2
          try simp only [Act.put, List.setIfInBounds_toArray, List.set_cons_zero, List.set_cons_succ]
          refine late_one 8 (.succ (.succ (.succ (.succ (.succ (.succ (.succ (.succ .zero)))))))) (by kernel_rfl) (fun K hK => ?_)
          (refine step_vl (by rfl) (conv_any (by rfl) (by rfl) ho13.rd HNZ.out) ?_)
          refine hK.out _ _ ?_ (fun hHeld2 => ?_)
          · (intro _; (try dsimp only); assumption)
          clear hK K
          replace hHeld := hHeld2 (by decide)
          clear hHeld2
          try simp only [Act.put, List.setIfInBounds_toArray, List.set_cons_zero, List.set_cons_succ]
          refine late_take 11 (.succ (.succ (.succ (.succ (.succ (.succ (.succ (.succ (.succ (.succ (.succ .zero))))))))))) (v := ?_) (by kernel_rfl) (by kernel_rfl) (by kernel_rfl) (by kernel_rfl) (fun _ _ _ h => h) (by rfl) ?_ (by assumption) ?_
          rotate_left
          · (intro w hSw; (try dsimp only at hSw); go_simp) <;> with_reducible rfl
          simp only [Act.put, List.setIfInBounds_toArray, List.set_cons_zero, List.set_cons_succ]
          refine late_one 12 (.succ (.succ (.succ (.succ (.succ (.succ (.succ (.succ (.succ (.succ (.succ (.succ .zero)))))))))))) (by kernel_rfl) (fun K hK => ?_)
          go_simp
          refine hK.out _ _ ?_ (fun hHeld2 => ?_)
          · (intro hne; exact absurd rfl hne)
          clear hK K hHeld2
          refine wpLate_done (by kernel_rfl) ?_ _
          have K13 : Hid (Below (w.heap.size + 2) ((w.alloc (.cells #[.slice a n c, .slice p m q, .int .i64 fuel, .bool dead] 39)).alloc (.cells #[.bool false, .slice none 0 0, .int .i64 0] 35)) w13 ∧ Below w6.heap.size w6 w13) := by
            have q1 : Below wr.heap.size wr w13 := ((Below.refl _ _).drew.trans hb12).trans (hb13.mono hb12.size)
            exact ⟨K7.out.trans (q1.mono z7), HBW.out.trans (q1.mono HBW.out.size)⟩
          have OV13 : Hid (OwnB w13 w6.heap.size av (catL (recLz (fun i => secF d S F m (s + i))) x) (catF (recLz (fun i => secF d S F m (s + i))) (recFz (fun i => secF d S F m (s + i))) x)) := by
            have q1 : Below wr.heap.size wr w13 := ((Below.refl _ _).drew.trans hb12).trans (hb13.mono hb12.size)
            exact HOV.out.below q1
          clear ho13 hb13 hb12 hs12 hS12 hS13 H6 H7 RR
          have hc13 : ∀ b o, b < w.heap.size + 2 → w13.cell? ⟨b, o, none⟩ = _ := fun b o hb => K13.out.1.cell (p := ⟨b, o, none⟩) hb
          have hf13 : ∀ b o, b < w.heap.size + 2 → w13.frozen? ⟨b, o, none⟩ = _ := fun b o hb => K13.out.1.frozen (p := ⟨b, o, none⟩) hb
          have hz13 : w.heap.size + 1 < w13.heap.size := by have := K13.out.2.size; omega
          have HB13 : Hid (Below w.heap.size w w13) := HFIN.out _ K13.out.1
          go_wp2
          refine bodyPost_ret (v := .agg #[.bool true, .slice av (catL (recLz (fun i => secF d S F m (s + i))) x) cv, .int .i64 x]) (by simp [results, Try.results15, go_sem, hc13]) rfl ⟨?_, Or.inl ⟨HOK.out, av, cv, ?_, ?_⟩⟩
          · exact below3 HB13.out (by omega)
          · rw [show getN ((fun i => secF d S F m (s + i)) 0) 6 2 = (x : Int) from HKE.out]; rfl
          · rw [show getN ((fun i => secF d S F m (s + i)) 0) 6 2 = (x : Int) from HKE.out]
            exact ((((OV13.out.setOther (by simp; omega) _).setOther (by simp; omega) _).setOther (by simp; omega) _)).mono (by omega)
        · have HNO : Hid (¬ recOk (fun i => secF d S F m (s + i)) ((n : Int) / 64 - s) seq) := hok
          have heq : ((strN (catL (fun _ => 64) (cntOf (catL (recLz (fun i => secF d S F m (s + i))) x))) (catF (fun _ => 64) (secW (catL (recLz (fun i => secF d S F m (s + i))) x) seq (catF (recLz (fun i => secF d S F m (s + i))) (recFz (fun i => secF d S F m (s + i))) x)) (cntOf (catL (recLz (fun i => secF d S F m (s + i))) x)))).toList == (strN (64 * x) (catF (fun _ => 64) (fun i => secF d S F m (s + i)) x)).toList) = false := by
            cases hh : ((strN (catL (fun _ => 64) (cntOf (catL (recLz (fun i => secF d S F m (s + i))) x))) (catF (fun _ => 64) (secW (catL (recLz (fun i => secF d S F m (s + i))) x) seq (catF (recLz (fun i => secF d S F m (s + i))) (recFz (fun i => secF d S F m (s + i))) x)) (cntOf (catL (recLz (fun i => secF d S F m (s + i))) x)))).toList == (strN (64 * x) (catF (fun _ => 64) (fun i => secF d S F m (s + i)) x)).toList) with
            | false => rfl
            | true => exact absurd (HEQ.1 hh) hok
          clear HEQ hok
          go_wp2
          refine wp_region_late (S := (fun w' => Rd .u8 w' au (64 * x) (catF (fun _ => 64) (fun i => secF d S F m (s + i)) x))) 12 (by kernel_rfl) ?_ (fun hHeld => ?_)
          · ((try dsimp only); assumption)
          refine late_take 0 .zero (v := ?_) (by kernel_rfl) (by kernel_rfl) (by kernel_rfl) (by kernel_rfl) (fun _ _ _ h => h) (by rfl) ?_ (by assumption) ?_
          rotate_left
          · (intro w hSw; (try dsimp only at hSw); go_simp) <;> with_reducible rfl
          simp only [Act.put, List.setIfInBounds_toArray, List.set_cons_zero, List.set_cons_succ]
          refine late_take 1 (.succ .zero) (v := ?_) (by kernel_rfl) (by kernel_rfl) (by kernel_rfl) (by kernel_rfl) (fun _ _ _ h => h) (by rfl) ?_ (by assumption) ?_
          rotate_left
          · (intro w hSw; (try dsimp only at hSw); go_simp) <;> with_reducible rfl
          simp only [Act.put, List.setIfInBounds_toArray, List.set_cons_zero, List.set_cons_succ]
          refine late_take 2 (.succ (.succ .zero)) (v := ?_) (by kernel_rfl) (by kernel_rfl) (by kernel_rfl) (by kernel_rfl) (fun _ _ _ h => h) (by rfl) ?_ (by assumption) ?_
          rotate_left
          · (intro w hSw; (try dsimp only at hSw); go_simp) <;> with_reducible rfl
          simp only [Act.put, List.setIfInBounds_toArray, List.set_cons_zero, List.set_cons_succ]
          refine late_take 3 (.succ (.succ (.succ .zero))) (v := ?_) (by kernel_rfl) (by kernel_rfl) (by kernel_rfl) (by kernel_rfl) (fun _ _ _ h => h) (by rfl) ?_ (by assumption) ?_
          rotate_left
          · (intro w hSw; (try dsimp only at hSw); go_simp) <;> with_reducible rfl
          simp only [Act.put, List.setIfInBounds_toArray, List.set_cons_zero, List.set_cons_succ]
          refine late_take 4 (.succ (.succ (.succ (.succ .zero)))) (v := ?_) (by kernel_rfl) (by kernel_rfl) (by kernel_rfl) (by kernel_rfl) (fun _ _ _ h => h) (by rfl) ?_ (by assumption) ?_
          rotate_left
          · (intro w hSw; (try dsimp only at hSw); go_simp) <;> with_reducible rfl
          simp only [Act.put, List.setIfInBounds_toArray, List.set_cons_zero, List.set_cons_succ]
          refine late_take 5 (.succ (.succ (.succ (.succ (.succ .zero))))) (v := ?_) (by kernel_rfl) (by kernel_rfl) (by kernel_rfl) (by kernel_rfl) (fun _ _ _ h => h) (by rfl) ?_ (by assumption) ?_
          rotate_left
          · (intro w hSw; (try dsimp only at hSw); go_simp) <;> with_reducible rfl
          simp only [Act.put, List.setIfInBounds_toArray, List.set_cons_zero, List.set_cons_succ]
          refine late_take 9 (.succ (.succ (.succ (.succ (.succ (.succ (.succ (.succ (.succ .zero))))))))) (v := ?_) (by kernel_rfl) (by kernel_rfl) (by kernel_rfl) (by kernel_rfl) (fun _ _ _ h => h) (by rfl) ?_ (by assumption) ?_
          rotate_left
          · (intro w hSw; (try dsimp only at hSw); go_simp) <;> with_reducible rfl
          simp only [Act.put, List.setIfInBounds_toArray, List.set_cons_zero, List.set_cons_succ]
          refine late_take 10 (.succ (.succ (.succ (.succ (.succ (.succ (.succ (.succ (.succ (.succ .zero)))))))))) (v := .string (strN (64 * x) (catF (fun _ => 64) (fun i => secF d S F m (s + i)) x))) (by kernel_rfl) (by kernel_rfl) (by kernel_rfl) (by kernel_rfl) (fun _ _ _ h => h) (by rfl) ?_ (by assumption) ?_
          · (intro w hSw; (try dsimp only at hSw); exact conv_any (by rfl) (by rfl) hSw (by omega))
          simp only [Act.put, List.setIfInBounds_toArray, List.set_cons_zero, List.set_cons_succ]
          refine late_one 6 (.succ (.succ (.succ (.succ (.succ (.succ .zero)))))) (by kernel_rfl) (fun K hK => ?_)
          (refine step_l2S (by rfl) 79 80 (by rfl) _ _ (by rfl) (by rfl) ?_; refine H6.out.mono ?_; rintro e w12 ⟨b12, q12, rfl, hs12, hb12⟩; refine ⟨_, rfl, ?_⟩; have hS12 := RR.out w12 hb12)
          refine hK.out _ _ ?_ (fun hHeld2 => ?_)
          · (intro _; (try dsimp only); assumption)
          clear hK K
          replace hHeld := hHeld2 (by decide)
          clear hHeld2
          try simp only [Act.put, List.setIfInBounds_toArray, List.set_cons_zero, List.set_cons_succ]
          refine late_one 7 (.succ (.succ (.succ (.succ (.succ (.succ (.succ .zero))))))) (by kernel_rfl) (fun K hK => ?_)
          (refine step_l2C (by rfl) 81 (by rfl) _ (by rfl) ?_; refine (H7.out w12 b12 q12 hs12).mono ?_; rintro e w13 ⟨a13, c13, rfl, ho13, hb13, -, -⟩; refine ⟨_, rfl, ?_⟩; have hS13 := hS12.below hb13)
          refine hK.out _ _ ?_ (fun hHeld2 => ?_)
          · (intro _; (try dsimp only); assumption)
          clear hK K
          replace hHeld := hHeld2 (by decide)
          clear hHeld2
          try simp only [Act.put, List.setIfInBounds_toArray, List.set_cons_zero, List.set_cons_succ]
          refine late_one 8 (.succ (.succ (.succ (.succ (.succ (.succ (.succ (.succ .zero)))))))) (by kernel_rfl) (fun K hK => ?_)
          (refine step_vl (by rfl) (conv_any (by rfl) (by rfl) ho13.rd HNZ.out) ?_)
          refine hK.out _ _ ?_ (fun hHeld2 => ?_)
          · (intro _; (try dsimp only); assumption)
          clear hK K
          replace hHeld := hHeld2 (by decide)
          clear hHeld2
          try simp only [Act.put, List.setIfInBounds_toArray, List.set_cons_zero, List.set_cons_succ]
          refine late_take 11 (.succ (.succ (.succ (.succ (.succ (.succ (.succ (.succ (.succ (.succ (.succ .zero))))))))))) (v := ?_) (by kernel_rfl) (by kernel_rfl) (by kernel_rfl) (by kernel_rfl) (fun _ _ _ h => h) (by rfl) ?_ (by assumption) ?_
          rotate_left
          · (intro w hSw; (try dsimp only at hSw); go_simp) <;> with_reducible rfl
          simp only [Act.put, List.setIfInBounds_toArray, List.set_cons_zero, List.set_cons_succ]
          refine late_one 12 (.succ (.succ (.succ (.succ (.succ (.succ (.succ (.succ (.succ (.succ (.succ (.succ .zero)))))))))))) (by kernel_rfl) (fun K hK => ?_)
          go_simp
          refine hK.out _ _ ?_ (fun hHeld2 => ?_)
          · (intro hne; exact absurd rfl hne)
          clear hK K hHeld2
          refine wpLate_done (by kernel_rfl) ?_ _
          have K13 : Hid (Below (w.heap.size + 2) ((w.alloc (.cells #[.slice a n c, .slice p m q, .int .i64 fuel, .bool dead] 39)).alloc (.cells #[.bool false, .slice none 0 0, .int .i64 0] 35)) w13 ∧ Below w6.heap.size w6 w13) := by
            have q1 : Below wr.heap.size wr w13 := ((Below.refl _ _).drew.trans hb12).trans (hb13.mono hb12.size)
            exact ⟨K7.out.trans (q1.mono z7), HBW.out.trans (q1.mono HBW.out.size)⟩
          have OV13 : Hid (OwnB w13 w6.heap.size av (catL (recLz (fun i => secF d S F m (s + i))) x) (catF (recLz (fun i => secF d S F m (s + i))) (recFz (fun i => secF d S F m (s + i))) x)) := by
            have q1 : Below wr.heap.size wr w13 := ((Below.refl _ _).drew.trans hb12).trans (hb13.mono hb12.size)
            exact HOV.out.below q1
          clear ho13 hb13 hb12 hs12 hS12 hS13 H6 H7 RR
          have hc13 : ∀ b o, b < w.heap.size + 2 → w13.cell? ⟨b, o, none⟩ = _ := fun b o hb => K13.out.1.cell (p := ⟨b, o, none⟩) hb
          have hf13 : ∀ b o, b < w.heap.size + 2 → w13.frozen? ⟨b, o, none⟩ = _ := fun b o hb => K13.out.1.frozen (p := ⟨b, o, none⟩) hb
          have hz13 : w.heap.size + 1 < w13.heap.size := by have := K13.out.2.size; omega
          have HB13 : Hid (Below w.heap.size w w13) := HFIN.out _ K13.out.1
          go_wp2
          refine bodyPost_ret (v := .agg #[.bool false, .slice none 0 0, .int .i64 0]) (by simp [results, Try.results15, go_sem, hc13]) rfl ⟨?_, Or.inr ⟨HNO.out, rfl⟩⟩
          exact below3 HB13.out (by omega)
end Go.Proofs.Ytbpcafcipncloaa
