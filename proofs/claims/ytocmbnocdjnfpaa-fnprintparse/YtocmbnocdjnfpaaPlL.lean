import Derived.Test.YtocmbnocdjnfpaaPlS
import Derived.Test.YtocmbnocdjnfpaaPaV
import Derived.Deep.CutBlock
namespace Go.Proofs.Ytocmbnocdjnfpaa
open Go.RowKit Go.Deep
set_option linter.unusedVariables false
set_option maxRecDepth 100000

/-- What readPath gives. -/
def PathRet (C : (Nat → Bool) → (Nat → ByteArray) → Prop) (w : World) (n : Nat) (I : Nat → Int) (X R : Nat → ByteArray) (e : Ending) (w' : World) : Prop :=
  Below w.heap.size w w' ∧
  ((¬ VPth n I X R ∧ ∃ v, e = .returned (.tuple #[v, .bool false])) ∨
  (VPth n I X R ∧ ∃ g c AA CC Bd Lb, e = .returned (.tuple #[.slice (some ⟨g, 0, none⟩) n c, .bool true]) ∧ w.heap.size ≤ g ∧ n ≤ c ∧ c ≤ 9223372036854775807 ∧ C Bd Lb ∧
    PlAt w' g n (plF I X R AA CC Bd Lb (fun i => (hM (arI I) 100 i : Int))) ∧ (∀ i, i < n → OwnI w' w.heap.size (AA i) (arOf (I i)) (fun j => (opf (arI I) i j : Int))) ∧ (∀ i, i < n → arOf (I i) ≤ CC i ∧ CC i ≤ 9223372036854775807)))

/-- The box of a node. -/
def NBox (w : World) (b : Nat) (k : Int) (s t : ByteArray) : Prop := w.cell? ⟨b, 0, none⟩ = some (.int .i64 k) ∧ w.cell? ⟨b, 1, none⟩ = some (.string s) ∧ w.cell? ⟨b, 2, none⟩ = some (.string t)
theorem NBox.below {w w' : World} {b : Nat} {k : Int} {s t : ByteArray} (h : NBox w b k s t) (hb : Below w.heap.size w w') : NBox w' b k s t := by
  obtain ⟨h1, h2, h3⟩ := h
  refine ⟨?_, ?_, ?_⟩
  · rw [hb.cell (World.block_lt_of_cell? _ _ h1)]; exact h1
  · rw [hb.cell (World.block_lt_of_cell? _ _ h2)]; exact h2
  · rw [hb.cell (World.block_lt_of_cell? _ _ h3)]; exact h3

/-- What is asked of measure. -/
def MeasureOk : Prop := ∀ (g n c B : Nat) (I : Nat → Int) (X R : Nat → ByteArray) (AA : Nat → Option Addr) (CC : Nat → Nat) (Bd : Nat → Bool) (Lb : Nat → ByteArray) (w : World),
  PlAt w g n (plF I X R AA CC Bd Lb (fun _ => 0)) → (∀ i, i < n → OwnI w B (AA i) (arOf (I i)) (fun j => (opf (arI I) i j : Int))) → (∀ i, i < n → arOf (I i) ≤ CC i ∧ CC i ≤ 9223372036854775807) → StackOk (arI I) n → n ≤ 100 → 0 < n →
  Calls Try.prog 82 #[.slice (some ⟨g, 0, none⟩) n c] w fun e w' => e = .returned (.tuple #[]) ∧ PlAt w' g n (plF I X R AA CC Bd Lb (fun i => (hM (arI I) 100 i : Int))) ∧ w.grownBy w' (some g)
/-- What is asked of bindContexts. -/
def BindOk (C : Nat → (Nat → Int) → (Nat → ByteArray) → (Nat → Bool) → (Nat → ByteArray) → Prop) : Prop := ∀ (g n c B : Nat) (I : Nat → Int) (X R : Nat → ByteArray) (AA : Nat → Option Addr) (CC : Nat → Nat) (H : Nat → Int) (w : World),
  PlAt w g n (plF I X R AA CC (fun _ => false) (fun _ => { data := #[] }) H) → (∀ i, i < n → OwnI w B (AA i) (arOf (I i)) (fun j => (opf (arI I) i j : Int))) → (∀ i, i < n → arOf (I i) ≤ CC i ∧ CC i ≤ 9223372036854775807) → StackOk (arI I) n → n ≤ 100 → 0 < n → B ≤ w.heap.size →
  Calls Try.prog 83 #[.slice (some ⟨g, 0, none⟩) n c] w fun e w' => e = .returned (.tuple #[]) ∧ ∃ Bd Lb, C n I X Bd Lb ∧ PlAt w' g n (plF I X R AA CC Bd Lb H) ∧ w.grownBy w' (some g)
/-- What is asked of last. -/
def LastOk : Prop := ∀ (g n c : Nat) (f : Nat → Plc) (w : World), PlAt w g n f → 0 < n → n ≤ 100 →
  Calls Try.prog 84 #[.slice (some ⟨g, 0, none⟩) n c] w fun e w' => e = .returned (.agg #[.int .i64 (f (n - 1)).kind, .string (f (n - 1)).s, .string (f (n - 1)).t, .bool (f (n - 1)).bound, .string (f (n - 1)).label, .slice (f (n - 1)).ad (f (n - 1)).cnt (f (n - 1)).cap, .int .i64 (f (n - 1)).height]) ∧ Below w.heap.size w w'

/-- The operands that impl.operandCount counts. -/
def ocOf (k : Int) : Nat := if 1 ≤ k ∧ k ≤ 9 then arOf k else 1
theorem ocOf_le (k : Int) : ocOf k ≤ 2 := by
  have := arOf_le k
  unfold ocOf
  split <;> omega
theorem opCount_all (k : Int) (w : World) : Calls Try.prog 79 #[.int .i64 k] w fun e w' => e = .returned (.int .i64 (ocOf k)) ∧ w' = w := by
  by_cases h : 1 ≤ k ∧ k ≤ 9
  · rw [show ocOf k = arOf k from if_pos h]; exact opCount_any k w h
  · rw [show ocOf k = 1 from if_neg h]; exact opCount_none k w h
theorem ocOf_good {k : Int} {s t : ByteArray} (h : gnB k s t = true) : ocOf k = arOf k := by
  by_cases e : 1 ≤ k ∧ k ≤ 9
  · exact if_pos e
  · rw [arOf_none e] at h; cases h
theorem not_vp {n : Nat} {I : Nat → Int} {X R : Nat → ByteArray} {k : Nat} (hk : k < n) (h : ¬ (arOf (I k) : Int) ≤ dep (arI I) k) : ¬ VPth n I X R := fun hv => by
  have h1 := (whole_iff (fun i => arOf (I i)) n (by omega)).1 hv.2.2.1
  exact h (h1.1 k hk)

theorem OwnI.grownP {w w' : World} {B : Nat} {a : Option Addr} {n : Nat} {f : Nat → Int} {g m : Nat} {F : Nat → Plc} (h : OwnI w B a n f) (hp : PlAt w g m F) (hg : w.grownBy w' (some g)) : OwnI w' B a n f := by
  rcases h with h | ⟨q, rfl, hq, hr⟩
  · exact Or.inl h
  · refine Or.inr ⟨q, rfl, hq, hr.of_block (hg.block q hr.lt (fun e => ?_))⟩
    injection e with e
    exact hp.ne hr (by decide) e

theorem vp_height {n : Nat} {I : Nat → Int} (hn : 0 < n) (hok : StackOk (arI I) n) (hd : dep (arI I) n = 1) : Begins (fun i => arOf (I i)) n 0 ∧ htF 100 (fun i => arOf (I i)) n = hM (arI I) 100 (n - 1) := by
  have hb : Begins (arI I) n 0 := (whole_iff (arI I) n hn).2 ⟨hok, hd⟩
  refine ⟨hb, ?_⟩
  have h1 := htF_hM hok (arI_le I) 100 (n - 1) 0 (by omega) (by rw [show n - 1 + 1 = n by omega]; exact hb)
  rw [show n - 1 + 1 - 0 = n by omega] at h1
  have e : (fun q => arI I (0 + q)) = fun i => arOf (I i) := by funext q; rw [Nat.zero_add]; rfl
  rw [e] at h1
  exact h1

theorem field_pl (a b d f : Value) (e : Value) (c : Value) (h : Value) (w : World) : (Instr.field 73 (.agg #[a, b, c, d, e, f, h]) 3).run Try.prog w = .ok h w := by kernel_rfl

set_option maxHeartbeats 4000000 in
theorem readPath_any (C : Nat → (Nat → Int) → (Nat → ByteArray) → (Nat → Bool) → (Nat → ByteArray) → Prop) (hME : MeasureOk) (hBI : BindOk C) (hLA : LastOk) (a : Option Addr) (n c : Nat) (I : Nat → Int) (X R : Nat → ByteArray) (w : World) (h : RdN w a n I X R) (hn : n ≤ 1048576) (hc : n ≤ c) (hcm : c ≤ 9223372036854775807) :
    Calls Try.prog 44 #[.agg #[.slice a n c]] w (PathRet (C n I X) w n I X R) := by
  have HR : Hid (RdN w a n I X R) := h
  have HME : Hid MeasureOk := hME
  have HBI : Hid (BindOk C) := hBI
  have HLA : Hid LastOk := hLA
  clear h hME hBI hLA
  by_cases h2 : 100 < n
  · have i2 : (100 : Int) < (n : Int) := by omega
    have i2' : decide ((100 : Int) < (n : Int)) = true := decide_eq_true i2
    have HN : Hid (¬ VPth n I X R) := fun h => by have := h.1; omega
    go_enter Try.func44, Try.ntmps44
    go_wp2
    refine bodyPost_ret (v := .tuple #[.slice none 0 0, .bool false]) (by simp [results, Try.results44, go_sem]) rfl ⟨below_alloc _ _, .inl ⟨HN.out, _, rfl⟩⟩
  · have i2 : ¬ (100 : Int) < (n : Int) := by omega
    have i2' : decide ((100 : Int) < (n : Int)) = false := decide_eq_false i2
    have HC : Hid (∀ W : World, Below w.heap.size w W → ∀ i, i < n → ∃ b o, a = some ⟨b, o, none⟩ ∧ W.cell? ⟨b, o + i * 3, none⟩ = some (.int .i64 (I i)) ∧ W.cell? ⟨b, o + i * 3 + 1, none⟩ = some (.string (X i)) ∧ W.cell? ⟨b, o + i * 3 + 2, none⟩ = some (.string (R i))) := by
      intro W hW i hi
      rcases HR.out.below hW with h | ⟨b', o', e, hcc⟩
      · omega
      · exact ⟨b', o', e, hcc i hi⟩
    go_enter Try.func44, Try.ntmps44
    go_wp2
    go_loopw [4, 5, 16] (fun t o i wr => ∃ k d : Nat, ∃ AA CC S, k ≤ n ∧ i = .int .i64 k ∧ (∀ j, j < k → gnB (I j) (X j) (R j) = true) ∧ PlSt wr (w.heap.size + 1) I X R k k t o d AA CC S ∧ d ≤ k ∧ Below (w.heap.size + 1) (w.alloc (.cells #[.slice a n c] 29)) wr) (fun _ _ i _ => n - (intOf i).toNat)
    case atStart => exact ⟨0, 0, _, _, _, Nat.zero_le _, rfl, fun j hj => absurd hj (Nat.not_lt_zero _), PlSt.start _ _ _ _ _, Nat.le_refl _, Below.refl _ _⟩
    case round =>
      obtain ⟨k, d, AA, CC, S, hk, rfl, hg, hst, hdk, hb⟩ := hrel
      have HG : Hid (∀ j, j < k → gnB (I j) (X j) (R j) = true) := hg
      obtain ⟨p4, c4, rfl⟩ := owns_shapeN hst.row
      obtain ⟨p5, c5, rfl⟩ := owns_shapeN hst.stk
      have HST : Hid (PlSt wr (w.heap.size + 1) I X R k k (.slice p4 k c4) (.slice p5 d c5) d AA CC S) := hst
      have HB : Hid (Below (w.heap.size + 1) (w.alloc (.cells #[.slice a n c] 29)) wr) := hb
      have HBW : Hid (Below w.heap.size w wr) := (below_alloc _ _).trans (hb.mono (by omega))
      obtain ⟨x0, xz⟩ := pbox hb
      clear hg hb hst
      by_cases hlt : k < n
      · obtain ⟨b, o, rfl, c0, c1, c2⟩ := HC.out wr HBW.out k hlt
        have ik : (k : Int) < (n : Int) := by omega
        have ik0 : (0 : Int) ≤ (k : Int) := by omega
        go_upto_region 8 with fail
        have S1 : Hid ((NBox (wr.alloc (Obj.cells #[.int .i64 (I k), .string (X k), .string (R k)] 61)) wr.heap.size (I k) (X k) (R k) ∧ wr.heap.size < (wr.alloc (Obj.cells #[.int .i64 (I k), .string (X k), .string (R k)] 61)).heap.size ∧ w.heap.size + 1 ≤ wr.heap.size) ∧ PlSt (wr.alloc (Obj.cells #[.int .i64 (I k), .string (X k), .string (R k)] 61)) (w.heap.size + 1) I X R k k (.slice p4 k c4) (.slice p5 d c5) d AA CC S ∧ Below (w.heap.size + 1) (w.alloc (.cells #[.slice (some ⟨b, o, none⟩) n c] 29)) (wr.alloc (Obj.cells #[.int .i64 (I k), .string (X k), .string (R k)] 61))) :=
          ⟨⟨⟨by simp, by simp, by simp⟩, by simp, by omega⟩, HST.out.below (below_alloc _ _), HB.out.trans ((below_alloc _ _).mono (by omega))⟩
        have HNB : Hid ((Value.slice p4 k c4).ownBlock ≠ some wr.heap.size ∧ (Value.slice p5 d c5).ownBlock ≠ some wr.heap.size) := ⟨fun e => by have := (HST.out.row.lt _ e).2; omega, fun e => by have := (HST.out.stk.lt _ e).2; omega⟩
        clear HST HB HBW x0 c0 c1 c2 HC
        generalize (wr.alloc (Obj.cells #[.int .i64 (I k), .string (X k), .string (R k)] 61)) = W at S1 ⊢
        clear xz
        generalize wr.heap.size = nb at S1 HNB ⊢
        have hdd := S1.out.2.1.dd
        obtain ⟨⟨y0, y1, y2⟩, yz, yb⟩ := S1.out.1
        have hoc := ocOf_le (I k)
        have wd : IntKind.i64.wrap ((d : Int) - (ocOf (I k) : Int)) = (d : Int) - (ocOf (I k) : Int) := by rw [IntKind.wrap_i64]; omega
        go_wp2_with fail
        refine (opCount_all (I k) W).mono ?_
        rintro e w2 ⟨rfl, hw2⟩
        subst hw2
        go_wp2_with fail
        refine (isNode_any (I k) (X k) (R k) w2).mono ?_
        rintro e w3 ⟨he, hb3⟩
        have S3 : Hid ((NBox w3 nb (I k) (X k) (R k) ∧ nb < w3.heap.size ∧ w.heap.size + 1 ≤ nb) ∧ PlSt w3 (w.heap.size + 1) I X R k k (.slice p4 k c4) (.slice p5 d c5) d AA CC S ∧ Below (w.heap.size + 1) (w.alloc (.cells #[.slice (some ⟨b, o, none⟩) n c] 29)) w3) := by
          have := hb3.size
          exact ⟨⟨S1.out.1.1.below hb3, by omega, yb⟩, S1.out.2.1.below hb3, S1.out.2.2.trans (hb3.mono (by omega))⟩
        clear hb3 y0 y1 y2 S1
        cases hgk : gnB (I k) (X k) (R k) with
        | false =>
          rw [hgk] at he
          subst he
          have HN : Hid (¬ VPth n I X R) := fun h => by have := h.2.1 k hlt; rw [hgk] at this; cases this
          have HZ : Hid (Below w.heap.size w w3) := (below_alloc _ _).trans (S3.out.2.2.mono (by omega))
          go_wp2
          refine bodyPost_ret (v := .tuple #[.slice none 0 0, .bool false]) (by simp [results, Try.results44, go_sem]) rfl ⟨HZ.out, .inl ⟨HN.out, _, rfl⟩⟩
        | true =>
          rw [hgk] at he
          subst he
          have eoc := ocOf_good hgk
          rw [eoc] at wd hoc ⊢
          clear eoc
          by_cases hda : d < arOf (I k)
          · have iz : (d : Int) - (arOf (I k) : Int) < 0 := by omega
            have iz' : decide ((d : Int) - (arOf (I k) : Int) < 0) = true := decide_eq_true iz
            have HN : Hid (¬ VPth n I X R) := not_vp hlt (by rw [hdd]; omega)
            have HZ : Hid (Below w.heap.size w w3) := (below_alloc _ _).trans (S3.out.2.2.mono (by omega))
            clear hdd
            go_wp2
            refine bodyPost_ret (v := .tuple #[.slice none 0 0, .bool false]) (by simp [results, Try.results44, go_sem]) rfl ⟨HZ.out, .inl ⟨HN.out, _, rfl⟩⟩
          · have iz : ¬ (d : Int) - (arOf (I k) : Int) < 0 := by omega
            have iz' : decide ((d : Int) - (arOf (I k) : Int) < 0) = false := decide_eq_false iz
            have HG2 : Hid (∀ j, j < k + 1 → gnB (I j) (X j) (R j) = true) := fun j hj => by
              by_cases e : j = k
              · subst e; exact hgk
              · exact HG.out j (by omega)
            clear hdd hgk HG
            go_upto_region 11 with fail
            obtain ⟨l, hl⟩ : ∃ l : Nat, (d : Int) - (arOf (I k) : Int) = (l : Int) := ⟨d - arOf (I k), by omega⟩
            rw [hl] at ⊢
            have il0 : (0 : Int) ≤ (l : Int) := by omega
            have ild : (l : Int) ≤ (d : Int) := by omega
            obtain ⟨⟨y0, y1, y2⟩, yz, _⟩ := S3.out.1
            clear iz iz' wd
            have hdl : d - l = arOf (I k) := by omega
            have HRD : Hid (Rd .i64 w3.drew (if c5 = l then p5 else Option.map (fun x => x.add l) p5) (arOf (I k)) (fun j => ((opf (arI I) k j : Nat) : Int))) := by
              have h1 := rd_slice (S3.out.2.1.stk) (l := l) (by omega)
              unfold slAd at h1
              simp only [Nat.mul_one] at h1
              rw [hdl] at h1
              have h2 : Rd .i64 w3 (if c5 = l then p5 else Option.map (fun x => x.add l) p5) (arOf (I k)) (fun j => ((opf (arI I) k j : Nat) : Int)) := by
                rcases h1 with h1 | ⟨g, q, e, h1⟩
                · exact Or.inl h1
                · refine Or.inr ⟨g, q, e, fun i hi => ?_⟩
                  rw [h1 i hi]
                  have h3 := S3.out.2.1.opnd (by omega) (j := i) hi
                  rw [show d - arOf (I k) = l by omega] at h3
                  show some (Value.int .i64 ((S (l + i) : Nat) : Int)) = _
                  rw [h3]
              exact h2
            have HC : Hid (∀ w4 : World, Below w3.drew.heap.size w3.drew w4 → w4.cell? ⟨nb, 0, none⟩ = some (.int .i64 (I k)) ∧ w4.cell? ⟨nb, 1, none⟩ = some (.string (X k)) ∧ w4.cell? ⟨nb, 2, none⟩ = some (.string (R k))) := fun w4 hb4 => S3.out.1.1.below ((Below.refl _ _).drew.trans hb4)
            obtain ⟨sa, hsa⟩ : ∃ sa, (if c5 = l then p5 else Option.map (fun x => x.add l) p5) = sa := ⟨_, rfl⟩
            rw [hsa] at HRD
            have HD : Hid (∀ (w4 w5 : World) (O : Obj), Below w3.drew.heap.size w3.drew w4 → (w4.alloc O).grownBy w5 (Value.slice p4 k c4).ownBlock → w5.cell? ⟨nb, 0, none⟩ = some (.int .i64 (I k)) ∧ w5.cell? ⟨nb, 1, none⟩ = some (.string (X k)) ∧ w5.cell? ⟨nb, 2, none⟩ = some (.string (R k))) := by
              intro w4 w5 O hb4 hg5
              have hs : nb < w4.heap.size := by
                have h1 : w3.heap.size ≤ w4.heap.size := hb4.size
                omega
              obtain ⟨q0, q1, q2⟩ := HC.out w4 hb4
              have hne : (Value.slice p4 k c4).ownBlock ≠ some nb := HNB.out.1
              exact ⟨(grown_cellP hg5 (x := ⟨nb, 0, none⟩) hs hne).trans q0, (grown_cellP hg5 (x := ⟨nb, 1, none⟩) hs hne).trans q1, (grown_cellP hg5 (x := ⟨nb, 2, none⟩) hs hne).trans q2⟩
            have HT : Hid (∀ w4 : World, Below w3.drew.heap.size w3.drew w4 → Below w3.heap.size w3 w4) := fun w4 hb4 => (Below.refl _ _).drew.trans hb4
            have hk2 : k ≤ 1048576 := by omega
            have hz3 : w.heap.size + 1 ≤ w3.heap.size := by omega
            go_region_held3 (fun w' => w'.cell? ⟨nb, 0, none⟩ = some (.int .i64 (I k)) ∧ w'.cell? ⟨nb, 1, none⟩ = some (.string (X k)) ∧ w'.cell? ⟨nb, 2, none⟩ = some (.string (R k))) (go_keep)
              (first
              | (go_at_call 81; refine (copyInts_any _ (arOf (I k)) (c5 - l) (fun j => ((opf (arI I) k j : Nat) : Int)) w3.drew HRD.out (by omega)).mono ?_; rintro e w4 ⟨a6, c6, rfl, ho4, hb4, hc6, hcm6⟩; obtain ⟨u0, u1, u2⟩ := HC.out w4 hb4)
              | (refine step_append_pl (by rfl) (.tmp 34) (.tmp 41) (by rfl) (w.heap.size + 1) k (.slice p4 k c4) (plRow (plF I X R AA CC (fun _ => false) (fun _ => { data := #[] }) (fun _ => 0)) k) ⟨I k, X k, R k, false, { data := #[] }, a6, arOf (I k), c6, 0⟩ (by rfl) (plS_below S3.out.2.1.row (HT.out w4 hb4)) (by rfl) hk2 (Nat.le_trans hz3 (HT.out w4 hb4).size) ?_; intro v5 w5 hr5 hg5; obtain ⟨u0, u1, u2⟩ := HD.out w4 w5 _ hb4 hg5))
            obtain ⟨p7, c7, rfl⟩ := owns_shapeN hr5
            have S5 : Hid (PlSt w5 (w.heap.size + 1) I X R (k + 1) k (.slice p7 (k + 1) c7) (.slice p5 d c5) d (fun i => if i = k then a6 else AA i) (fun i => if i = k then c6 else CC i) S ∧ Below (w.heap.size + 1) (w.alloc (.cells #[.slice (some ⟨b, o, none⟩) n c] 29)) w5 ∧ w.heap.size + 1 ≤ w5.heap.size) := by
              have q1 := HT.out w4 hb4
              have q2 := q1.size
              have q3 := hg5.size
              simp at q3
              refine ⟨S3.out.2.1.push hz3 (q1.trans ((below_alloc _ _).mono q2)) (ho4.below (below_alloc _ _)) hc6 hcm6 hr5 hg5, ?_, by omega⟩
              exact ((S3.out.2.2.trans (q1.mono hz3)).alloc (by omega) _).grown hg5 (by simp; omega) (fun g e => (S3.out.2.1.row.lt g e).1)
            clear hr5 hg5 ho4 hb4 u0 u1 u2 y0 y1 y2 S3 HD HC HRD HT hsa HNB
            have hz5 := S5.out.2.2
            have ilc : (l : Int) ≤ (c5 : Int) := by
              have : d ≤ c5 := by
                rcases S5.out.1.stk.2 with ⟨e, _⟩ | ⟨g, cap, cur, e, _, _, h1, _⟩
                · injection e with _ e2 e3; omega
                · injection e with _ e2 e3; omega
              omega
            have hs0 : (if c5 = 0 then p5 else Option.map (fun x => x.add 0) p5) = p5 := by
              split
              · rfl
              · cases p5 with
                | none => rfl
                | some x => simp [Addr.add]
            have HN1 : Hid (∀ j u, [Value.int .i64 (k : Int)][j]? = some u → (w5.alloc (.cells #[.int .i64 (k : Int)] 3)).cell? ((⟨w5.heap.size, 0, none⟩ : Addr).add j) = some u) := cell_one_new w5 (.int .i64 (k : Int)) 3
            have HCU : Hid ((w5.alloc (.cells #[.int .i64 (k : Int)] 3)).ownsRow (w.heap.size + 1) 3 1 (.slice p5 l c5) l (intRow (fun j => ((S j : Nat) : Int)) l)) := plS_below (owns_cut S5.out.1.stk (by omega)) (below_alloc _ _)
            obtain ⟨i0, hi, hz0, hz1, hz2⟩ := info_parts Try.info3
            go_wp2_with (at_builtin; refine wpList_append_own_at _ rfl _ _ 71 rfl (w.heap.size + 1) 3 i0 (.int .i64 0) 1 8 Try.underlying71 hi hz0 hz1 hz2 rfl (by decide) (.slice p5 l c5) l _ rfl HCU.out ⟨w5.heap.size, 0, none⟩ 1 1 [.int .i64 (k : Int)] rfl rfl HN1.out (by intro u hu; simp at hu; subst hu; rfl) (by unfold maxLen; omega) (by omega) (by simp; omega) ?_)
            intro v8 w8 hr8 hg8 _ hat8
            obtain ⟨p8, c8, rfl⟩ := owns_shapeN hr8
            have S8 : Hid (PlSt w8 (w.heap.size + 1) I X R (k + 1) (k + 1) (.slice p7 (k + 1) c7) (.slice p8 (l + 1) c8) (l + 1) (fun i => if i = k then a6 else AA i) (fun i => if i = k then c6 else CC i) (fun j => if j = l then k else S j) ∧ Below (w.heap.size + 1) (w.alloc (.cells #[.slice (some ⟨b, o, none⟩) n c] 29)) w8) := by
              have el : d - arOf (I k) = l := by omega
              have hob : (Value.slice p5 l c5).ownBlock = (Value.slice p5 d c5).ownBlock := by cases p5 <;> rfl
              rw [hob] at hg8 hat8
              have hat9 : (Value.slice p8 (l + 1) c8).ownBlock = (Value.slice p5 d c5).ownBlock ∨ (Value.slice p8 (l + 1) c8).ownBlock = some (w5.alloc (.cells #[.int .i64 (k : Int)] 3)).heap.size := by
                rcases hat8 with h | h
                · exact Or.inl h
                · exact Or.inr (by rw [h]; simp)
              have h1 := S5.out.1.put (k := k) (W1 := w5.alloc (.cells #[.int .i64 (k : Int)] 3)) (W2 := w8) (v' := .slice p8 (l + 1) c8) (below_alloc _ _) (by omega) (by rw [el]; exact hr8) hg8 hat9
              rw [el] at h1
              exact ⟨h1, (S5.out.2.1.alloc hz5 _).grown hg8 (by simp; omega) (fun g e => (S5.out.1.stk.lt g e).1)⟩
            clear hr8 hg8 hat8 HCU HN1 S5 hs0 ilc
            go_wp2
            go_roundw
            case rel => exact ⟨k + 1, l + 1, _, _, _, by omega, by go_num, HG2.out, S8.out.1, by omega, S8.out.2⟩
            case measure => simp [intOf]; omega
      · have e : k = n := by omega
        subst e
        have hdd := HST.out.dd
        by_cases h1 : d = 1
        · subst h1
          have hpos : 0 < k := by omega
          obtain ⟨g, c7, e4, hg7, hpl, hc7, hcm7⟩ := plAt_ofRow HST.out.row hpos
          injection e4 with e5 e6 e7
          subst e5 e7
          have HOK : Hid (StackOk (arI I) k ∧ dep (arI I) k = 1) := ⟨HST.out.ok, hdd⟩
          have HCP : Hid (∀ i, i < k → arOf (I i) ≤ CC i ∧ CC i ≤ 9223372036854775807) := HST.out.caps
          have HPL : Hid (PlAt wr g k (plF I X R AA CC (fun _ => false) (fun _ => { data := #[] }) (fun _ => 0))) := hpl
          clear hpl hdd
          go_wp2_with fail
          refine (HME.out g k c4 (w.heap.size + 1) I X R AA CC _ _ wr HPL.out HST.out.ops HCP.out HOK.out.1 (by omega) hpos).mono ?_
          rintro e w2 ⟨rfl, hp2, hg2⟩
          have T2 : Hid (PlAt w2 g k (plF I X R AA CC (fun _ => false) (fun _ => { data := #[] }) (fun i => (hM (arI I) 100 i : Int))) ∧ (∀ i, i < k → OwnI w2 (w.heap.size + 1) (AA i) (arOf (I i)) (fun j => (opf (arI I) i j : Int))) ∧ Below w.heap.size w w2 ∧ w.heap.size + 1 ≤ w2.heap.size) := by
            have q := hg2.size
            refine ⟨hp2, fun i hi => (HST.out.ops i hi).grownP HPL.out hg2, HBW.out.grown hg2 (by omega) (fun b e => by injection e with e; omega), by omega⟩
          clear hp2 hg2 HST HB HBW HPL x0
          go_wp2_with fail
          refine (HBI.out g k c4 (w.heap.size + 1) I X R AA CC _ w2 T2.out.1 T2.out.2.1 HCP.out HOK.out.1 (by omega) hpos T2.out.2.2.2).mono ?_
          rintro e w3 ⟨rfl, Bd, Lb, hC, hp3, hg3⟩
          have T3 : Hid (PlAt w3 g k (plF I X R AA CC Bd Lb (fun i => (hM (arI I) 100 i : Int))) ∧ (∀ i, i < k → OwnI w3 (w.heap.size + 1) (AA i) (arOf (I i)) (fun j => (opf (arI I) i j : Int))) ∧ Below w.heap.size w w3) := by
            have q := hg3.size
            have q2 := T2.out.2.2.2
            refine ⟨hp3, fun i hi => (T2.out.2.1 i hi).grownP T2.out.1 hg3, T2.out.2.2.1.grown hg3 (by omega) (fun b e => by injection e with e; omega)⟩
          have HCC : Hid (C k I X Bd Lb) := hC
          clear hp3 hg3 T2 hC
          go_wp2_with fail
          refine (HLA.out g k c4 _ w3 T3.out.1 hpos (by omega)).mono ?_
          rintro e w4 ⟨rfl, hb4⟩
          have T4 : Hid (PlAt w4 g k (plF I X R AA CC Bd Lb (fun i => (hM (arI I) 100 i : Int))) ∧ (∀ i, i < k → OwnI w4 (w.heap.size + 1) (AA i) (arOf (I i)) (fun j => (opf (arI I) i j : Int))) ∧ Below w.heap.size w w4) := by
            have q := T3.out.2.2.size
            exact ⟨T3.out.1.below hb4, fun i hi => (T3.out.2.1 i hi).below hb4, T3.out.2.2.trans (hb4.mono q)⟩
          clear hb4 T3
          generalize (plF I X R AA CC Bd Lb (fun i => (hM (arI I) 100 i : Int)) (k - 1)).kind = z0
          generalize (plF I X R AA CC Bd Lb (fun i => (hM (arI I) 100 i : Int)) (k - 1)).s = z1
          generalize (plF I X R AA CC Bd Lb (fun i => (hM (arI I) 100 i : Int)) (k - 1)).t = z2
          generalize (plF I X R AA CC Bd Lb (fun i => (hM (arI I) 100 i : Int)) (k - 1)).bound = z3
          generalize (plF I X R AA CC Bd Lb (fun i => (hM (arI I) 100 i : Int)) (k - 1)).label = z4
          generalize (plF I X R AA CC Bd Lb (fun i => (hM (arI I) 100 i : Int)) (k - 1)).ad = z5
          generalize (plF I X R AA CC Bd Lb (fun i => (hM (arI I) 100 i : Int)) (k - 1)).cnt = z6
          generalize (plF I X R AA CC Bd Lb (fun i => (hM (arI I) 100 i : Int)) (k - 1)).cap = z7
          rw [show (plF I X R AA CC Bd Lb (fun i => (hM (arI I) 100 i : Int)) (k - 1)).height = ((hM (arI I) 100 (k - 1) : Nat) : Int) from rfl]
          obtain ⟨hbg, hht⟩ := vp_height hpos HOK.out.1 HOK.out.2
          have HVP : Hid (VPth k I X R ↔ hM (arI I) 100 (k - 1) ≤ 64) := by
            constructor
            · intro hv
              rw [← hht]
              exact hv.2.2.2
            · intro h6
              exact ⟨⟨by omega, by omega⟩, HG.out, hbg, by rw [hht]; exact h6⟩
          clear hbg hht
          generalize hM (arI I) 100 (k - 1) = Ht at HVP ⊢
          have fl := field_pl (.int .i64 z0) (.string z1) (.bool z3) (.slice z5 z6 z7) (.string z4) (.string z2) (.int .i64 Ht)
          by_cases h64 : Ht ≤ 64
          · have i64 : ((Ht : Nat) : Int) ≤ 64 := by omega
            have i64' : decide (((Ht : Nat) : Int) ≤ 64) = true := decide_eq_true i64
            go_wp2
            refine bodyPost_ret (v := .tuple #[.slice (some ⟨g, 0, none⟩) k c4, .bool true]) (by simp [results, Try.results44, go_sem]) rfl ⟨T4.out.2.2, .inr ⟨HVP.out.2 h64, g, c4, AA, CC, Bd, Lb, rfl, by omega, hc7, hcm7, HCC.out, T4.out.1, fun i hi => (T4.out.2.1 i hi).mono (by omega), HCP.out⟩⟩
          · have i64 : ¬ ((Ht : Nat) : Int) ≤ 64 := by omega
            have i64' : decide (((Ht : Nat) : Int) ≤ 64) = false := decide_eq_false i64
            go_wp2
            refine bodyPost_ret (v := .tuple #[.slice (some ⟨g, 0, none⟩) k c4, .bool false]) (by simp [results, Try.results44, go_sem]) rfl ⟨T4.out.2.2, .inl ⟨fun hv => h64 (HVP.out.1 hv), _, rfl⟩⟩
        · have i1 : ¬ ((d : Int) = 1) := by omega
          have i1' : ((d : Int) == 1) = false := by simpa using i1
          have HN : Hid (¬ VPth k I X R) := fun hv => by
            have h3 := (whole_iff (fun i => arOf (I i)) k (by have := hv.1; omega)).1 hv.2.2.1
            have h4 : dep (arI I) k = 1 := h3.2
            omega
          have HZ : Hid (Below w.heap.size w wr) := HBW.out
          clear hdd
          go_wp2
          refine bodyPost_ret (v := .tuple #[.slice none 0 0, .bool false]) (by simp [results, Try.results44, go_sem]) rfl ⟨HZ.out, .inl ⟨HN.out, _, rfl⟩⟩
end Go.Proofs.Ytocmbnocdjnfpaa
