import Derived.Test.YtocmbnocdjnfpaaMq1
import Derived.Test.YtocmbnocdjnfpaaPpN0
import Derived.Test.YtocmbnocdjnfpaaPlV
import Derived.Test.YtocmbnocdjnfpaaPpU
import Derived.Test.YtocmbnocdjnfpaaMq3
import Derived.Test.YtocmbnocdjnfpaaPpN
namespace Go.Proofs.Ytocmbnocdjnfpaa
open Go.RowKit Go.Deep
set_option linter.unusedVariables false
set_option maxRecDepth 100000

theorem T_len2 {n : Nat} {I : Nat → Int} {X R : Nat → ByteArray} (hv : VPth n I X R) {i : Nat} (hi : i < n) : (T I X R i).length ≤ 30000 := by
  have hs : StackOk (fun i => arOf (I i)) n := ((whole_iff _ n (by omega)).1 hv.2.2.1).1
  obtain ⟨s, hb⟩ := hs.begins (i + 1) (by omega) (by omega)
  have h1 := hb.1
  have h2 := hb.shift
  rw [show i + 1 - s = (i - s) + 1 by omega] at h2
  have := T_len hv.gd (i + 1) s (i - s) (by omega) (by omega) h2
  rw [show s + (i - s) = i by omega] at this
  have := hv.1
  omega
theorem VPth.opf_lt {n : Nat} {I : Nat → Int} {X R : Nat → ByteArray} (hv : VPth n I X R) {i j : Nat} (hi : i < n) (hj : j < arOf (I i)) : opf (arI I) i j < i := by
  have hs : StackOk (arI I) n := ((whole_iff _ n (by omega)).1 hv.2.2.1).1
  exact Go.Proofs.Ytocmbnocdjnfpaa.opf_lt hs hi (arI_le _ _) hj
theorem T_node {n : Nat} {I : Nat → Int} {X R : Nat → ByteArray} (hv : VPth n I X R) {k : Nat} (hk : k < n) {a0 a1 : List Int} (h0 : 0 < arOf (I k) → a0 = T I X R (opf (arI I) k 0)) (h1 : 1 < arOf (I k) → a1 = T I X R (opf (arI I) k 1)) :
    nodeT (I k) (X k) (R k) a0 (I (opf (arI I) k 0)) a1 (I (opf (arI I) k 1)) = T I X R k := by
  rw [T_eq]
  unfold nodeT
  rw [nodeT_arity (X k) (R k) (hv.gd k hk).1 (a0 := a0) (a1 := a1) (a0' := if h : opf (arI I) k 0 < k then T I X R (opf (arI I) k 0) else []) (a1' := if h : opf (arI I) k 1 < k then T I X R (opf (arI I) k 1) else []) (fun h => ⟨?_, rfl⟩) (fun h => ⟨?_, rfl⟩)]
  · rw [dif_pos (hv.opf_lt hk (by omega))]
    exact h0 (by omega)
  · rw [dif_pos (hv.opf_lt hk (by omega))]
    exact h1 (by omega)

/-- The operands' places, picked: their kinds can be read. -/
def PkA (w : World) (ap : Option Addr) (np q : Nat) (K : Nat → Int) : Prop := q = 0 ∨ ∃ gp, ap = some ⟨gp, 0, none⟩ ∧ np = q ∧ ∀ i, i < q → w.cell? ⟨gp, i * 7, none⟩ = some (.int .i64 (K i))
/-- The operands' texts, picked. -/
def PkB (w : World) (ap : Option Addr) (np q : Nat) (Y : Nat → ByteArray) : Prop := q = 0 ∨ ∃ gp, ap = some ⟨gp, 0, none⟩ ∧ np = q ∧ ∀ i, i < q → w.cell? ⟨gp, i, none⟩ = some (.string (Y i))
theorem PkA.below {w w' : World} {ap : Option Addr} {np q : Nat} {K : Nat → Int} (h : PkA w ap np q K) (hb : Below w.heap.size w w') : PkA w' ap np q K := by
  rcases h with h | ⟨gp, h1, h2, h3⟩
  · exact .inl h
  · exact .inr ⟨gp, h1, h2, fun i hi => (hb.cell (World.block_lt_of_cell? _ _ (h3 i hi))).trans (h3 i hi)⟩
theorem pkA_of {w : World} {B q : Nat} {v : Value} {f : Nat → Plc} (h : w.ownsRow B 73 7 v q (plRow f q)) : ∃ ap np cp, v = .slice ap np cp ∧ PkA w ap np q (fun j => (f j).kind) := by
  obtain ⟨_, ⟨rfl, h0⟩ | ⟨g, cap, cur, rfl, hg, hb, h1, h2, h3, h4⟩⟩ := h
  · exact ⟨_, _, _, rfl, .inl h0⟩
  · refine ⟨_, _, _, rfl, .inr ⟨g, rfl, rfl, fun i hi => ?_⟩⟩
    have e := plRow_get f q i 0 hi (by omega)
    rw [← h4, List.getElem?_take_of_lt (by omega), Nat.add_zero, Array.getElem?_toList] at e
    simp only [World.cell?, hb]
    exact e
theorem pkB_of {w : World} {B q : Nat} {v : Value} {Y : Nat → ByteArray} {F : Nat → Nat} (h : w.ownsRow B 9 1 v q (picks Y F q)) : ∃ ap np cp, v = .slice ap np cp ∧ PkB w ap np q (fun j => Y (F j)) := by
  obtain ⟨_, ⟨rfl, h0⟩ | ⟨g, cap, cur, rfl, hg, hb, h1, h2, h3, h4⟩⟩ := h
  · exact ⟨_, _, _, rfl, .inl h0⟩
  · refine ⟨_, _, _, rfl, .inr ⟨g, rfl, rfl, fun i hi => ?_⟩⟩
    have e : (picks Y F q)[i]? = some (.string (Y (F i))) := by
      unfold picks
      rw [List.getElem?_map, List.getElem?_range hi]
      rfl
    rw [← h4, List.getElem?_take_of_lt (by omega), Array.getElem?_toList] at e
    simp only [World.cell?, hb]
    exact e
theorem ops_of {w : World} {ap at' : Option Addr} {np cp nt ct q : Nat} {K : Nat → Int} {Y : Nat → ByteArray} (h1 : PkA w ap np q K) (h2 : PkB w at' nt q Y) : OpsIn w (.slice ap np cp) (.slice at' nt ct) q K Y := by
  rcases h1 with h | ⟨gp, rfl, rfl, h3⟩
  · exact .inl h
  rcases h2 with h | ⟨gt, rfl, rfl, h4⟩
  · exact .inl h
  exact .inr ⟨gp, cp, gt, ct, rfl, rfl, fun i hi => ⟨h3 i hi, h4 i hi⟩⟩
end Go.Proofs.Ytocmbnocdjnfpaa

namespace Go.Proofs.Ytocmbnocdjnfpaa
open Go.RowKit Go.Deep
set_option linter.unusedVariables false
set_option maxRecDepth 100000

/-- What impl.PrintPath hands back. -/
def RetPP (w : World) (n : Nat) (I : Nat → Int) (X R : Nat → ByteArray) (pt : List Int) (e : Ending) (w' : World) : Prop :=
  Below w.heap.size w w' ∧ ((VPth n I X R ∧ ∃ g cc, e = .returned (.slice (some ⟨g, 0, none⟩) pt.length cc) ∧ w.heap.size ≤ g ∧ rowM w' g pt.length (fun i => .int .u8 (lf pt i))) ∨ (e = .returned (.slice none 0 0) ∧ pt = []))
/-- The texts of the first k nodes. -/
def TxR (W : World) (gt n k : Nat) (I : Nat → Int) (X R : Nat → ByteArray) : Prop := ∃ z : Nat → ByteArray, rowIn W gt 9 n (fun i => .string (z i)) ∧ ∀ i, i < k → bl (z i) = T I X R i

set_option maxHeartbeats 4000000 in
theorem implPP (pt : List Int) (a : Option Addr) (n c : Nat) (I : Nat → Int) (X R : Nat → ByteArray) (w : World) (h : RdN w a n I X R) (hn : n ≤ 1048576) (hc : n ≤ c) (hcm : c ≤ 9223372036854775807) (ht : IsTx n I X R pt) :
    Calls Try.prog 15 #[.agg #[.slice a n c]] w (RetPP w n I X R pt) := by
  have HT : Hid (IsTx n I X R pt) := ht
  have HB0 : Hid (Below w.heap.size w (w.alloc (.cells #[.slice a n c] 29))) := below_alloc _ _
  have HRd : Hid (∀ W, Below w.heap.size w W → Calls Try.prog 44 #[.agg #[.slice a n c]] W (PathRet (AnyC n I X) W n I X R)) := fun W hW => readPath_w a n c I X R W (h.below hW) hn hc hcm
  clear h ht
  go_enter Try.func15, Try.ntmps15
  go_wp2_with fail
  refine (HRd.out _ HB0.out).mono ?_
  rintro e w1 ⟨hb1, hr⟩
  have HB1 : Hid (Below w.heap.size w w1) := HB0.out.trans (hb1.mono HB0.out.size)
  rcases hr with ⟨hno, v, rfl⟩ | ⟨hv, g, cg, AA, CC, Bd, Lb, rfl, hg0, hcg, hcg2, _, hpl, hop, hcc⟩
  · have HE : Hid (pt = []) := by
      rcases HT.out with ⟨q, _⟩ | ⟨_, q⟩
      · exact absurd q hno
      · exact q
    clear hno hb1
    go_wp2
    go_ret
    exact ⟨HB1.out, .inr ⟨rfl, HE.out⟩⟩
  · have hn1 : 1 ≤ n ∧ n ≤ 100 := hv.1
    have HPl : Hid (VPth n I X R ∧ PlAt w1 g n (plF I X R AA CC Bd Lb (fun i => (hM (arI I) 100 i : Int))) ∧ ∀ i, i < n → OwnI w1 (w.alloc (.cells #[.slice a n c] 29)).heap.size (AA i) (arOf (I i)) (fun j => (opf (arI I) i j : Int))) := ⟨hv, hpl, hop⟩
    clear hv hpl hop hcc hb1
    have hmk : ∀ W : World, (Instr.makeSlice 49 (.int .i64 (n : Int)) (.int .i64 (n : Int))).run Try.prog W = .ok (.slice (some ⟨W.heap.size, 0, none⟩) n n) (W.alloc (.cells (madeCells #[.string { data := #[] }] (n * 1)) 9)) := fun W => by
      obtain ⟨i0, hi, hz0, hz1, hz2⟩ := info_parts infoS
      have := run_make (P := Try.prog) W 49 9 i0 _ (by kernel_rfl) hi hz0 .i64 .i64 n n (by omega) (by omega) (by rw [hz2]; omega) (by omega)
      rw [hz1, show (Value.string { data := #[] }).cells = #[.string { data := #[] }] from rfl] at this
      simpa using this
    have H0 : Hid (TxR (w1.alloc (.cells (madeCells #[.string { data := #[] }] n) 9)) w1.heap.size n 0 I X R) := by
      refine ⟨fun _ => { data := #[] }, ⟨_, Array.getElem?_push_size, by rw [size_madeCells]; omega, fun i hi => ?_⟩, fun i hi => absurd hi (Nat.not_lt_zero _)⟩
      simp [madeCells, hi, Nat.mod_one]
    obtain ⟨gt, hgt⟩ : ∃ gt, gt = w1.heap.size := ⟨_, rfl⟩
    go_wp2
    rw [← hgt] at H0 ⊢
    have hgt1 : w1.heap.size ≤ gt := by omega
    clear hgt hmk
    go_loopw [6, 7, 20] (fun _ _ i wr => ∃ k : Nat, k ≤ n ∧ i = .int .i64 k ∧ TxR wr gt n k I X R ∧ Below w1.heap.size w1 wr) (fun _ _ i _ => n - (intOf i).toNat)
    case atStart => exact ⟨0, Nat.zero_le _, rfl, H0.out, below_alloc _ _⟩
    case round =>
      obtain ⟨k, hk, rfl, htx, hbr⟩ := hrel
      have HX : Hid (TxR wr gt n k I X R ∧ Below w1.heap.size w1 wr) := ⟨htx, hbr⟩
      clear htx hbr
      by_cases hlt : k < n
      · have hp := (HPl.out.2.1).below HX.out.2
        have cc : ∀ r, r < 7 → wr.cell? ⟨g, k * 7 + r, none⟩ = (plF I X R AA CC Bd Lb (fun i => (hM (arI I) 100 i : Int)) k).cells[r]? := fun r hr => hp.cell hlt hr
        have d0 := cc 0 (by omega)
        have d1 := cc 1 (by omega)
        have d2 := cc 2 (by omega)
        have d3 := cc 3 (by omega)
        have d4 := cc 4 (by omega)
        have d5 := cc 5 (by omega)
        have d6 := cc 6 (by omega)
        simp [Plc.cells, plF] at d0 d1 d2 d3 d4 d5 d6
        obtain ⟨q, hq⟩ : ∃ q, q = arOf (I k) := ⟨_, rfl⟩
        rw [← hq] at d5
        have hq2 : q ≤ 2 := by rw [hq]; exact arOf_le _
        have hop : Hid (∀ W, Below w1.heap.size w1 W → Rd .i64 W (AA k) q (fun j => (opf (arI I) k j : Int))) := fun W hW => by rw [hq]; exact ((HPl.out.2.2 k hlt).rd).below hW
        have k0 : (0 : Int) ≤ (k : Int) := by omega
        have k1 : (k : Int) < (n : Int) := by omega
        clear hp cc
        have HV : Hid (VPth n I X R) := HPl.out.1
        obtain ⟨z, hz, htz⟩ := HX.out.1
        have hg9 := (HV.out.gd k hlt)
        have hX30 : (X k).size ≤ 30 := hg9.2.1
        have hR30 : (R k).size ≤ 30 := hg9.2.2
        have HK9 : Hid (1 ≤ I k ∧ I k ≤ 9) := hg9.1
        clear hg9
        have HQ : Hid (q = arOf (I k)) := hq
        have hgtw : gt < wr.heap.size := hz.lt
        obtain ⟨ik, hik⟩ : ∃ ik, ik = I k := ⟨_, rfl⟩
        obtain ⟨xk, hxk⟩ : ∃ xk, xk = X k := ⟨_, rfl⟩
        obtain ⟨rk, hrk⟩ : ∃ rk, rk = R k := ⟨_, rfl⟩
        obtain ⟨bk, hbk⟩ : ∃ bk, bk = Bd k := ⟨_, rfl⟩
        obtain ⟨lk, hlk⟩ : ∃ lk, lk = Lb k := ⟨_, rfl⟩
        obtain ⟨ak, hak⟩ : ∃ ak, ak = AA k := ⟨_, rfl⟩
        obtain ⟨ck, hck⟩ : ∃ ck, ck = CC k := ⟨_, rfl⟩
        obtain ⟨mk, hmk⟩ : ∃ mk, mk = hM (arI I) 100 k := ⟨_, rfl⟩
        rw [← hik] at d0 HK9 HQ
        rw [← hxk] at d1 hX30
        rw [← hrk] at d2 hR30
        rw [← hbk] at d3
        rw [← hlk] at d4
        rw [← hak, ← hck] at d5
        rw [← hak] at hop
        rw [← hmk] at d6
        have HE : Hid (ik = I k ∧ xk = X k ∧ rk = R k) := ⟨hik, hxk, hrk⟩
        obtain ⟨W1, hW1⟩ : ∃ W1, W1 = wr.alloc (.cells #[.int .i64 ik, .string xk, .string rk, .bool bk, .string lk, .slice ak q ck, .int .i64 (mk : Int)] 73) := ⟨_, rfl⟩
        obtain ⟨bx, hbx⟩ : ∃ bx, bx = wr.heap.size := ⟨_, rfl⟩
        have hgx : gt < bx := by omega
        have HW : Hid (Below wr.heap.size wr W1 ∧ W1.heap[bx]? = some (.cells #[.int .i64 ik, .string xk, .string rk, .bool bk, .string lk, .slice ak q ck, .int .i64 (mk : Int)] 73) ∧ W1.heap.size = bx + 1) := by
          rw [hW1, hbx]
          exact ⟨below_alloc _ _, Array.getElem?_push_size, by simp⟩
        have HWB : Hid (∀ W, Below W1.heap.size W1 W → Below w1.heap.size w1 W) := fun W hW => HX.out.2.trans ((HW.out.1.trans (hW.mono HW.out.1.size)).mono HX.out.2.size)
        have HBX : Hid (∀ W, Below W1.heap.size W1 W → W.cell? ⟨bx, 0, none⟩ = some (.int .i64 ik) ∧ W.cell? ⟨bx, 1, none⟩ = some (.string xk) ∧ W.cell? ⟨bx, 2, none⟩ = some (.string rk) ∧ W.cell? ⟨bx, 3, none⟩ = some (.bool bk) ∧ W.cell? ⟨bx, 4, none⟩ = some (.string lk) ∧ W.cell? ⟨bx, 5, none⟩ = some (.slice ak q ck) ∧ W.cell? ⟨bx, 6, none⟩ = some (.int .i64 (mk : Int))) := fun W hW => by
          have hh := (hW.block bx (by rw [HW.out.2.2]; omega)).trans HW.out.2.1
          refine ⟨?_, ?_, ?_, ?_, ?_, ?_, ?_⟩ <;> simp [World.cell?, hh]
        have HBY : Hid (∀ (W : World) (v : Value), Below W1.heap.size W1 W → (W.setCell ⟨gt, k, none⟩ v).cell? ⟨bx, 0, none⟩ = some (.int .i64 ik) ∧ (W.setCell ⟨gt, k, none⟩ v).cell? ⟨bx, 1, none⟩ = some (.string xk) ∧ (W.setCell ⟨gt, k, none⟩ v).cell? ⟨bx, 2, none⟩ = some (.string rk) ∧ (W.setCell ⟨gt, k, none⟩ v).cell? ⟨bx, 3, none⟩ = some (.bool bk) ∧ (W.setCell ⟨gt, k, none⟩ v).cell? ⟨bx, 4, none⟩ = some (.string lk) ∧ (W.setCell ⟨gt, k, none⟩ v).cell? ⟨bx, 5, none⟩ = some (.slice ak q ck) ∧ (W.setCell ⟨gt, k, none⟩ v).cell? ⟨bx, 6, none⟩ = some (.int .i64 (mk : Int))) := fun W v hW => by
          have hh := (Below.heap_setCell W ⟨gt, k, none⟩ v bx (by show bx ≠ gt; omega)).trans ((hW.block bx (by rw [HW.out.2.2]; omega)).trans HW.out.2.1)
          refine ⟨?_, ?_, ?_, ?_, ?_, ?_, ?_⟩ <;> simp only [World.cell?, hh] <;> rfl
        have HZ : Hid (∀ W, Below W1.heap.size W1 W → rowIn W gt 9 n (fun i => .string (z i))) := fun W hW => by
          have hh : W.heap[gt]? = wr.heap[gt]? := (hW.block gt (by rw [HW.out.2.2]; omega)).trans (HW.out.1.block gt hgtw)
          exact hz.of_block hh
        have HP : Hid (∀ W, Below W1.heap.size W1 W → Calls Try.prog 48 #[.slice (some ⟨g, 0, none⟩) n cg, .slice ak q ck] W fun e w' => ∃ ap np cp, e = .returned (.slice ap np cp) ∧ PkA w' ap np q (fun j => I (opf (arI I) k j)) ∧ Below W.heap.size W w') := fun W hW => by
          refine (pickP_any g n cg _ ak q ck (fun j => opf (arI I) k j) W ((HPl.out.2.1).below (HWB.out W hW)) (hop.out W (HWB.out W hW)) (fun j hj => Nat.lt_trans (HV.out.opf_lt hlt (by rw [← HE.out.1, ← HQ.out]; exact hj)) hlt) (by omega) (by omega)).mono ?_
          rintro e w' ⟨v, rfl, hv, hb⟩
          obtain ⟨ap, np, cp, rfl, hp⟩ := pkA_of hv
          exact ⟨ap, np, cp, rfl, hp, hb⟩
        have HS : Hid (∀ W, Below W1.heap.size W1 W → Calls Try.prog 49 #[.slice (some ⟨gt, 0, none⟩) n n, .slice ak q ck] W fun e w' => ∃ ap np cp, e = .returned (.slice ap np cp) ∧ PkB w' ap np q (fun j => z (opf (arI I) k j)) ∧ Below W.heap.size W w') := fun W hW => by
          refine (pickS_any gt n n z ak q ck (fun j => opf (arI I) k j) W (fun i hi => (HZ.out W hW).cell hi) (hop.out W (HWB.out W hW)) (fun j hj => Nat.lt_trans (HV.out.opf_lt hlt (by rw [← HE.out.1, ← HQ.out]; exact hj)) hlt) (by omega) (by omega)).mono ?_
          rintro e w' ⟨v, rfl, hv, hb⟩
          obtain ⟨ap, np, cp, rfl, hp⟩ := pkB_of hv
          exact ⟨ap, np, cp, rfl, hp, hb⟩
        have HTx : Hid (∀ (W : World) (ap : Option Addr) (np cp : Nat) (at' : Option Addr) (nt ct : Nat), PkA W ap np q (fun j => I (opf (arI I) k j)) → PkB W at' nt q (fun j => z (opf (arI I) k j)) → Calls Try.prog 47 #[.agg #[.int .i64 ik, .string xk, .string rk, .bool bk, .string lk, .slice ak q ck, .int .i64 (mk : Int)], .slice ap np cp, .slice at' nt ct] W fun e w' => ∃ y, e = .returned (.string y) ∧ bl y = T I X R k ∧ Below W.heap.size W w') := fun W ap np cp at' nt ct h1 h2 => by
          have hjz : ∀ j, j < q → bl (z (opf (arI I) k j)) = T I X R (opf (arI I) k j) := fun j hj => htz _ (HV.out.opf_lt hlt (by rw [← HE.out.1, ← HQ.out]; exact hj))
          refine (textP_any ik xk rk lk bk ak q ck (mk : Int) ap at' np cp nt ct q _ _ W HQ.out HK9.out (ops_of h1 h2) (fun j hj => ?_) hX30 hR30).mono ?_
          · have hl := HV.out.opf_lt hlt (j := j) (by rw [← HE.out.1, ← HQ.out]; exact hj)
            have := T_len2 HV.out (i := opf (arI I) k j) (by omega)
            rw [← hjz j hj, bl_length] at this
            omega
          · rintro e w' ⟨y, rfl, hy, hb⟩
            refine ⟨y, rfl, ?_, hb⟩
            rw [hy, HE.out.1, HE.out.2.1, HE.out.2.2]
            exact T_node HV.out hlt (fun h => hjz 0 (by rw [HQ.out, HE.out.1]; exact h)) (fun h => hjz 1 (by rw [HQ.out, HE.out.1]; exact h))
        have HTZ : Hid (∀ i, i < k → bl (z i) = T I X R i) := htz
        have HXB : Hid (Below w1.heap.size w1 wr) := HX.out.2
        clear hz htz hop hq hik hxk hrk hbk hlk hak hck hmk hX30 hR30 HK9 HE HQ HX
        go_wp2
        rw [← hW1, ← hbx]
        clear hW1 hbx d0 d1 d2 d3 d4 d5 d6 hgtw
        have K0 : Hid (Below W1.heap.size W1 W1.drew) := (Below.refl _ _).drew
        go_region_held3 (fun w' => w'.cell? ⟨bx, 0, none⟩ = some (.int .i64 ik) ∧ w'.cell? ⟨bx, 1, none⟩ = some (.string xk) ∧ w'.cell? ⟨bx, 2, none⟩ = some (.string rk) ∧ w'.cell? ⟨bx, 3, none⟩ = some (.bool bk) ∧ w'.cell? ⟨bx, 4, none⟩ = some (.string lk) ∧ w'.cell? ⟨bx, 5, none⟩ = some (.slice ak q ck) ∧ w'.cell? ⟨bx, 6, none⟩ = some (.int .i64 (mk : Int))) (first | exact HBY.out _ _ K4.out.1 | exact HBX.out _ K4.out.1 | exact HBX.out _ K3.out.1 | exact HBX.out _ K2.out.1 | exact HBX.out _ K0.out | go_keep)
          (first
          | (go_at_call 48; (with_reducible refine (HP.out _ K0.out).mono ?_); rintro e w2 ⟨ap, np, cp, rfl, hp2, hb2⟩; have K2 : Hid (Below W1.heap.size W1 w2 ∧ PkA w2 ap np q (fun j => I (opf (arI I) k j))) := ⟨K0.out.trans (hb2.mono K0.out.size), hp2⟩; clear hb2 hp2)
          | (go_at_call 49; (with_reducible refine (HS.out _ K2.out.1).mono ?_); rintro e w3 ⟨az, ns, cs, rfl, hp3, hb3⟩; have K3 : Hid (Below W1.heap.size W1 w3 ∧ PkA w3 ap np q (fun j => I (opf (arI I) k j)) ∧ PkB w3 az ns q (fun j => z (opf (arI I) k j))) := ⟨K2.out.1.trans (hb3.mono K2.out.1.size), K2.out.2.below hb3, hp3⟩; clear hb3 hp3)
          | (go_at_call 47; (with_reducible refine (HTx.out _ ap np cp az ns cs K3.out.2.1 K3.out.2.2).mono ?_); rintro e w4 ⟨y, rfl, hy, hb4⟩; have K4 : Hid (Below W1.heap.size W1 w4 ∧ bl y = T I X R k) := ⟨K3.out.1.trans (hb4.mono K3.out.1.size), hy⟩; clear hb4 hy; have hz4 := HZ.out w4 K4.out.1; have y0 := hz4.cell hlt; have y1 := hz4.frozen; have y2 := hz4.lt; clear hz4)
          | fail)
        have HF : Hid (TxR (w4.setCell ⟨gt, k, none⟩ (.string y)) gt n (k + 1) I X R ∧ Below w1.heap.size w1 (w4.setCell ⟨gt, k, none⟩ (.string y))) := by
          refine ⟨⟨fun i => if i = k then y else z i, ((HZ.out w4 K4.out.1).set k (.string y)).congr (fun i hi => ?_), fun i hi => ?_⟩, (HWB.out w4 K4.out.1).setCell hgt1 _⟩
          · by_cases e : i = k
            · dsimp only; rw [if_pos e, if_pos e]
            · dsimp only; rw [if_neg e, if_neg e]
          · by_cases e : i = k
            · dsimp only; rw [if_pos e, e]
              exact K4.out.2
            · dsimp only; rw [if_neg e]
              exact HTZ.out i (by omega)
        go_wp2
        go_roundw
        case rel => exact ⟨k + 1, by omega, by go_num, HF.out⟩
        case measure => simp [intOf]; omega
      · have e : k = n := by omega
        subst e
        have l1 : ¬ (k : Int) < (k : Int) := by omega
        obtain ⟨m, hm⟩ : ∃ m, k = m + 1 := ⟨k - 1, by omega⟩
        subst hm
        obtain ⟨z, hz, htz⟩ := HX.out.1
        have hcz := hz.cell (show m < m + 1 by omega)
        have HLs : Hid (Calls Try.prog 50 #[.slice (some ⟨gt, 0, none⟩) (m + 1) (m + 1)] wr fun e w' => e = .returned (.string (z m)) ∧ w' = wr) := lastS_any gt m (m + 1) (z m) wr hcz (by omega)
        obtain ⟨cc, W', hcv, hbW, hrW⟩ := conv_sm (z m) wr
        have HF : Hid (RetPP w (m + 1) I X R pt (.returned (.slice (some ⟨wr.heap.size, 0, none⟩) (z m).size cc)) W') := by
          have hb2 : Below w.heap.size w wr := HB1.out.trans (HX.out.2.mono HB1.out.size)
          have ept : pt = bl (z m) := by
            rcases HT.out with ⟨_, q⟩ | ⟨q, _⟩
            · rw [q, htz m (by omega)]; rfl
            · exact absurd HPl.out.1 q
          refine ⟨hb2.trans (hbW.mono hb2.size), .inl ⟨HPl.out.1, wr.heap.size, cc, by rw [ept, bl_length], hb2.size, ?_⟩⟩
          rw [ept, bl_length]
          exact hrW
        clear hz htz hcz hbW hrW
        go_wp2_with fail
        refine HLs.out.mono ?_
        rintro e w2 ⟨rfl, hw2⟩
        subst hw2
        go_wp2
        go_ret
        exact HF.out
end Go.Proofs.Ytocmbnocdjnfpaa

namespace Go.Proofs.Ytocmbnocdjnfpaa
open Go.RowKit Go.Deep
set_option linter.unusedVariables false
set_option maxRecDepth 100000

theorem implPP2 (pt : List Int) (a : Option Addr) (n c : Nat) (I : Nat → Int) (X R : Nat → ByteArray) (w : World) (h : RdN w a n I X R) (hn : n ≤ 1048576) (hc : n ≤ c) (hcm : c ≤ 9223372036854775807) (ht : IsTx n I X R pt) :
    Calls Try.prog 15 #[.agg #[.slice a n c]] w fun e w' => ∃ ad cc, e = .returned (.slice ad pt.length cc) ∧ OwM w' w.heap.size ad pt ∧ Below w.heap.size w w' := by
  refine (implPP pt a n c I X R w h hn hc hcm ht).mono ?_
  rintro e w' ⟨hb, ⟨_, g, cc, rfl, hg, hr⟩ | ⟨rfl, rfl⟩⟩
  · exact ⟨_, _, rfl, .inr ⟨g, rfl, hg, hr⟩, hb⟩
  · exact ⟨none, 0, rfl, .inl rfl, hb⟩

/-- '/openPath'. -/
theorem ppLaw (v : Value) (w : World) (hv : IsPath w v) : Calls Try.prog 4 #[v] w fun e w' => e = .returned (.bool true) ∧ Below w.heap.size w w' := by
  obtain ⟨a, n, c, I, X, R, rfl, ha, hX, hn⟩ := hv
  obtain ⟨pt, ht⟩ := isTx_ex n I X R
  exact ppLaw0 pt ht.len a n c I X R w ha hX hn
    (fun hn W a h => specPP pt a n n I X R W h hn (Nat.le_refl _) (by omega) ht) (fun hn W a h => implPP2 pt a n n I X R W h hn (Nat.le_refl _) (by omega) ht)
end Go.Proofs.Ytocmbnocdjnfpaa
