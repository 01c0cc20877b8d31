import Derived.Test.YtocmbnocdjnfpaaNk10
import Derived.Test.YtocmbnocdjnfpaaNk6
import Derived.Test.YtocmbnocdjnfpaaPlV
import Derived.Test.YtocmbnocdjnfpaaPpF
import Derived.Test.YtocmbnocdjnfpaaPaV
import Derived.Test.YtocmbnocdjnfpaaNk4
import Derived.Test.YtocmbnocdjnfpaaConL
import Derived.Test.YtocmbnocdjnfpaaNk7
import Derived.Test.YtocmbnocdjnfpaaPiN
import Derived.Test.YtocmbnocdjnfpaaNk5
namespace Go.Proofs.Ytocmbnocdjnfpaa
open Go.RowKit Go.Deep
set_option linter.unusedVariables false
set_option maxRecDepth 100000

theorem textP_any (k : Int) (s t lb : ByteArray) (bd : Bool) (ad : Option Addr) (cn ca : Nat) (ht : Int) (ap at' : Option Addr) (np cp nt ct q : Nat) (K : Nat → Int) (Y : Nat → ByteArray) (w : World) (hq : q = arOf k) (hk : 1 ≤ k ∧ k ≤ 9) (ho : OpsIn w (.slice ap np cp) (.slice at' nt ct) q K Y) (hY : ∀ i, i < q → (Y i).size ≤ 300000) (hs : s.size ≤ 30) (htz : t.size ≤ 30) :
    Calls Try.prog 47 #[.agg #[.int .i64 k, .string s, .string t, .bool bd, .string lb, .slice ad cn ca, .int .i64 ht], .slice ap np cp, .slice at' nt ct] w fun e w' => ∃ z, e = .returned (.string z) ∧ bl z = nodeT k s t (bl (Y 0)) (K 0) (bl (Y 1)) (K 1) ∧ Below w.heap.size w w' := by
  have h9 : k = 1 ∨ k = 2 ∨ k = 3 ∨ k = 4 ∨ k = 5 ∨ k = 6 ∨ k = 7 ∨ k = 8 ∨ k = 9 := by omega
  rcases h9 with rfl | rfl | rfl | rfl | rfl | rfl | rfl | rfl | rfl
  · exact textP_1 s t lb bd ad cn ca ht ap at' np cp nt ct q K Y w hq ho hY hs htz
  · exact textP_2 s t lb bd ad cn ca ht ap at' np cp nt ct q K Y w hq ho hY hs htz
  · exact textP_3 s t lb bd ad cn ca ht ap at' np cp nt ct q K Y w hq ho hY hs htz
  · exact textP_4 s t lb bd ad cn ca ht ap at' np cp nt ct q K Y w hq ho hY hs htz
  · exact textP_5 s t lb bd ad cn ca ht ap at' np cp nt ct q K Y w hq ho hY hs htz
  · exact textP_6 s t lb bd ad cn ca ht ap at' np cp nt ct q K Y w hq ho hY hs htz
  · exact textP_7 s t lb bd ad cn ca ht ap at' np cp nt ct q K Y w hq ho hY hs htz
  · exact textP_8 s t lb bd ad cn ca ht ap at' np cp nt ct q K Y w hq ho hY hs htz
  · exact textP_9 s t lb bd ad cn ca ht ap at' np cp nt ct q K Y w hq ho hY hs htz
end Go.Proofs.Ytocmbnocdjnfpaa

namespace Go.Proofs.Ytocmbnocdjnfpaa
open Go.RowKit Go.Deep
set_option linter.unusedVariables false
set_option maxRecDepth 100000

theorem T_len2 {n : Nat} {I : Nat → Int} {X R : Nat → ByteArray} (hv : VPth n I X R) {i : Nat} (hi : i < n) : (T I X R i).length ≤ 30000 := by
  have hs : StackOk (fun i => arOf (I i)) n := ((whole_iff _ n (by omega)).1 hv.2.2.1).1
  obtain ⟨s, hb⟩ := hs.begins (i + 1) (by omega) (by omega)
  have h1 := hb.1
  have h2 := hb.shift
  rw [show i + 1 - s = (i - s) + 1 by omega] at h2
  have := T_len hv.gd (i + 1) s (i - s) (by omega) (by omega) h2
  rw [show s + (i - s) = i by omega] at this
  have := hv.1
  omega
theorem VPth.opf_lt {n : Nat} {I : Nat → Int} {X R : Nat → ByteArray} (hv : VPth n I X R) {i j : Nat} (hi : i < n) (hj : j < arOf (I i)) : opf (arI I) i j < i := by
  have hs : StackOk (arI I) n := ((whole_iff _ n (by omega)).1 hv.2.2.1).1
  exact Go.Proofs.Ytocmbnocdjnfpaa.opf_lt hs hi (arI_le _ _) hj
theorem T_node {n : Nat} {I : Nat → Int} {X R : Nat → ByteArray} (hv : VPth n I X R) {k : Nat} (hk : k < n) {a0 a1 : List Int} (h0 : 0 < arOf (I k) → a0 = T I X R (opf (arI I) k 0)) (h1 : 1 < arOf (I k) → a1 = T I X R (opf (arI I) k 1)) :
    nodeT (I k) (X k) (R k) a0 (I (opf (arI I) k 0)) a1 (I (opf (arI I) k 1)) = T I X R k := by
  rw [T_eq]
  unfold nodeT
  rw [nodeT_arity (X k) (R k) (hv.gd k hk).1 (a0 := a0) (a1 := a1) (a0' := if h : opf (arI I) k 0 < k then T I X R (opf (arI I) k 0) else []) (a1' := if h : opf (arI I) k 1 < k then T I X R (opf (arI I) k 1) else []) (fun h => ⟨?_, rfl⟩) (fun h => ⟨?_, rfl⟩)]
  · rw [dif_pos (hv.opf_lt hk (by omega))]
    exact h0 (by omega)
  · rw [dif_pos (hv.opf_lt hk (by omega))]
    exact h1 (by omega)

/-- The operands' places, picked: their kinds can be read. -/
def PkA (w : World) (ap : Option Addr) (np q : Nat) (K : Nat → Int) : Prop := q = 0 ∨ ∃ gp, ap = some ⟨gp, 0, none⟩ ∧ np = q ∧ ∀ i, i < q → w.cell? ⟨gp, i * 7, none⟩ = some (.int .i64 (K i))
/-- The operands' texts, picked. -/
def PkB (w : World) (ap : Option Addr) (np q : Nat) (Y : Nat → ByteArray) : Prop := q = 0 ∨ ∃ gp, ap = some ⟨gp, 0, none⟩ ∧ np = q ∧ ∀ i, i < q → w.cell? ⟨gp, i, none⟩ = some (.string (Y i))
theorem PkA.below {w w' : World} {ap : Option Addr} {np q : Nat} {K : Nat → Int} (h : PkA w ap np q K) (hb : Below w.heap.size w w') : PkA w' ap np q K := by
  rcases h with h | ⟨gp, h1, h2, h3⟩
  · exact .inl h
  · exact .inr ⟨gp, h1, h2, fun i hi => (hb.cell (World.block_lt_of_cell? _ _ (h3 i hi))).trans (h3 i hi)⟩
theorem pkA_of {w : World} {B q : Nat} {v : Value} {f : Nat → Plc} (h : w.ownsRow B 73 7 v q (plRow f q)) : ∃ ap np cp, v = .slice ap np cp ∧ PkA w ap np q (fun j => (f j).kind) := by
  obtain ⟨_, ⟨rfl, h0⟩ | ⟨g, cap, cur, rfl, hg, hb, h1, h2, h3, h4⟩⟩ := h
  · exact ⟨_, _, _, rfl, .inl h0⟩
  · refine ⟨_, _, _, rfl, .inr ⟨g, rfl, rfl, fun i hi => ?_⟩⟩
    have e := plRow_get f q i 0 hi (by omega)
    rw [← h4, List.getElem?_take_of_lt (by omega), Nat.add_zero, Array.getElem?_toList] at e
    simp only [World.cell?, hb]
    exact e
theorem pkB_of {w : World} {B q : Nat} {v : Value} {Y : Nat → ByteArray} {F : Nat → Nat} (h : w.ownsRow B 9 1 v q (picks Y F q)) : ∃ ap np cp, v = .slice ap np cp ∧ PkB w ap np q (fun j => Y (F j)) := by
  obtain ⟨_, ⟨rfl, h0⟩ | ⟨g, cap, cur, rfl, hg, hb, h1, h2, h3, h4⟩⟩ := h
  · exact ⟨_, _, _, rfl, .inl h0⟩
  · refine ⟨_, _, _, rfl, .inr ⟨g, rfl, rfl, fun i hi => ?_⟩⟩
    have e : (picks Y F q)[i]? = some (.string (Y (F i))) := by
      unfold picks
      rw [List.getElem?_map, List.getElem?_range hi]
      rfl
    rw [← h4, List.getElem?_take_of_lt (by omega), Array.getElem?_toList] at e
    simp only [World.cell?, hb]
    exact e
theorem ops_of {w : World} {ap at' : Option Addr} {np cp nt ct q : Nat} {K : Nat → Int} {Y : Nat → ByteArray} (h1 : PkA w ap np q K) (h2 : PkB w at' nt q Y) : OpsIn w (.slice ap np cp) (.slice at' nt ct) q K Y := by
  rcases h1 with h | ⟨gp, rfl, rfl, h3⟩
  · exact .inl h
  rcases h2 with h | ⟨gt, rfl, rfl, h4⟩
  · exact .inl h
  exact .inr ⟨gp, cp, gt, ct, rfl, rfl, fun i hi => ⟨h3 i hi, h4 i hi⟩⟩
end Go.Proofs.Ytocmbnocdjnfpaa

namespace Go.Proofs.Ytocmbnocdjnfpaa
open Go.RowKit Go.Deep
set_option linter.unusedVariables false
set_option maxRecDepth 100000

/-- What impl.PrintPath hands back. -/
def RetPP (w : World) (n : Nat) (I : Nat → Int) (X R : Nat → ByteArray) (pt : List Int) (e : Ending) (w' : World) : Prop :=
  Below w.heap.size w w' ∧ ((VPth n I X R ∧ ∃ g cc, e = .returned (.slice (some ⟨g, 0, none⟩) pt.length cc) ∧ w.heap.size ≤ g ∧ rowM w' g pt.length (fun i => .int .u8 (lf pt i)) ∧ pt.length ≤ cc ∧ (pt.length ≤ maxLen → cc ≤ maxLen)) ∨ (e = .returned (.slice none 0 0) ∧ pt = []))
/-- The texts of the first k nodes. -/
def TxR (W : World) (gt n k : Nat) (I : Nat → Int) (X R : Nat → ByteArray) : Prop := ∃ z : Nat → ByteArray, rowIn W gt 9 n (fun i => .string (z i)) ∧ ∀ i, i < k → bl (z i) = T I X R i

set_option maxHeartbeats 4000000 in
theorem implPP (pt : List Int) (a : Option Addr) (n c : Nat) (I : Nat → Int) (X R : Nat → ByteArray) (w : World) (h : RdN w a n I X R) (hn : n ≤ 1048576) (hc : n ≤ c) (hcm : c ≤ 9223372036854775807) (ht : IsTx n I X R pt) :
    Calls Try.prog 15 #[.agg #[.slice a n c]] w (RetPP w n I X R pt) := by
  have HT : Hid (IsTx n I X R pt) := ht
  have HB0 : Hid (Below w.heap.size w (w.alloc (.cells #[.slice a n c] 29))) := below_alloc _ _
  have HRd : Hid (∀ W, Below w.heap.size w W → Calls Try.prog 44 #[.agg #[.slice a n c]] W (PathRet (AnyC n I X) W n I X R)) := fun W hW => readPath_w a n c I X R W (h.below hW) hn hc hcm
  clear h ht
  go_enter Try.func15, Try.ntmps15
  go_wp2_with fail
  refine (HRd.out _ HB0.out).mono ?_
  rintro e w1 ⟨hb1, hr⟩
  have HB1 : Hid (Below w.heap.size w w1) := HB0.out.trans (hb1.mono HB0.out.size)
  rcases hr with ⟨hno, v, rfl⟩ | ⟨hv, g, cg, AA, CC, Bd, Lb, rfl, hg0, hcg, hcg2, _, hpl, hop, hcc⟩
  · have HE : Hid (pt = []) := by
      rcases HT.out with ⟨q, _⟩ | ⟨_, q⟩
      · exact absurd q hno
      · exact q
    clear hno hb1
    go_wp2
    go_ret
    exact ⟨HB1.out, .inr ⟨rfl, HE.out⟩⟩
  · have hn1 : 1 ≤ n ∧ n ≤ 100 := hv.1
    have HPl : Hid (VPth n I X R ∧ PlAt w1 g n (plF I X R AA CC Bd Lb (fun i => (hM (arI I) 100 i : Int))) ∧ ∀ i, i < n → OwnI w1 (w.alloc (.cells #[.slice a n c] 29)).heap.size (AA i) (arOf (I i)) (fun j => (opf (arI I) i j : Int))) := ⟨hv, hpl, hop⟩
    clear hv hpl hop hcc hb1
    have hmk : ∀ W : World, (Instr.makeSlice 49 (.int .i64 (n : Int)) (.int .i64 (n : Int))).run Try.prog W = .ok (.slice (some ⟨W.heap.size, 0, none⟩) n n) (W.alloc (.cells (madeCells #[.string { data := #[] }] (n * 1)) 9)) := fun W => by
      obtain ⟨i0, hi, hz0, hz1, hz2⟩ := info_parts infoS
      have := run_make (P := Try.prog) W 49 9 i0 _ (by kernel_rfl) hi hz0 .i64 .i64 n n (by omega) (by omega) (by rw [hz2]; omega) (by omega)
      rw [hz1, show (Value.string { data := #[] }).cells = #[.string { data := #[] }] from rfl] at this
      simpa using this
    have H0 : Hid (TxR (w1.alloc (.cells (madeCells #[.string { data := #[] }] n) 9)) w1.heap.size n 0 I X R) := by
      refine ⟨fun _ => { data := #[] }, ⟨_, Array.getElem?_push_size, by rw [size_madeCells]; omega, fun i hi => ?_⟩, fun i hi => absurd hi (Nat.not_lt_zero _)⟩
      simp [madeCells, hi, Nat.mod_one]
    obtain ⟨gt, hgt⟩ : ∃ gt, gt = w1.heap.size := ⟨_, rfl⟩
    go_wp2
    rw [← hgt] at H0 ⊢
    have hgt1 : w1.heap.size ≤ gt := by omega
    clear hgt hmk
    go_loopw [6, 7, 20] (fun _ _ i wr => ∃ k : Nat, k ≤ n ∧ i = .int .i64 k ∧ TxR wr gt n k I X R ∧ Below w1.heap.size w1 wr) (fun _ _ i _ => n - (intOf i).toNat)
    case atStart => exact ⟨0, Nat.zero_le _, rfl, H0.out, below_alloc _ _⟩
    case round =>
      obtain ⟨k, hk, rfl, htx, hbr⟩ := hrel
      have HX : Hid (TxR wr gt n k I X R ∧ Below w1.heap.size w1 wr) := ⟨htx, hbr⟩
      clear htx hbr
      by_cases hlt : k < n
      · have hp := (HPl.out.2.1).below HX.out.2
        have cc : ∀ r, r < 7 → wr.cell? ⟨g, k * 7 + r, none⟩ = (plF I X R AA CC Bd Lb (fun i => (hM (arI I) 100 i : Int)) k).cells[r]? := fun r hr => hp.cell hlt hr
        have d0 := cc 0 (by omega)
        have d1 := cc 1 (by omega)
        have d2 := cc 2 (by omega)
        have d3 := cc 3 (by omega)
        have d4 := cc 4 (by omega)
        have d5 := cc 5 (by omega)
        have d6 := cc 6 (by omega)
        simp [Plc.cells, plF] at d0 d1 d2 d3 d4 d5 d6
        obtain ⟨q, hq⟩ : ∃ q, q = arOf (I k) := ⟨_, rfl⟩
        rw [← hq] at d5
        have hq2 : q ≤ 2 := by rw [hq]; exact arOf_le _
        have hop : Hid (∀ W, Below w1.heap.size w1 W → Rd .i64 W (AA k) q (fun j => (opf (arI I) k j : Int))) := fun W hW => by rw [hq]; exact ((HPl.out.2.2 k hlt).rd).below hW
        have k0 : (0 : Int) ≤ (k : Int) := by omega
        have k1 : (k : Int) < (n : Int) := by omega
        clear hp cc
        have HV : Hid (VPth n I X R) := HPl.out.1
        obtain ⟨z, hz, htz⟩ := HX.out.1
        have hg9 := (HV.out.gd30 k hlt)
        have hX30 : (X k).size ≤ 30 := hg9.2.1
        have hR30 : (R k).size ≤ 30 := hg9.2.2
        have HK9 : Hid (1 ≤ I k ∧ I k ≤ 9) := hg9.1
        clear hg9
        have HQ : Hid (q = arOf (I k)) := hq
        have hgtw : gt < wr.heap.size := hz.lt
        obtain ⟨ik, hik⟩ : ∃ ik, ik = I k := ⟨_, rfl⟩
        obtain ⟨xk, hxk⟩ : ∃ xk, xk = X k := ⟨_, rfl⟩
        obtain ⟨rk, hrk⟩ : ∃ rk, rk = R k := ⟨_, rfl⟩
        obtain ⟨bk, hbk⟩ : ∃ bk, bk = Bd k := ⟨_, rfl⟩
        obtain ⟨lk, hlk⟩ : ∃ lk, lk = Lb k := ⟨_, rfl⟩
        obtain ⟨ak, hak⟩ : ∃ ak, ak = AA k := ⟨_, rfl⟩
        obtain ⟨ck, hck⟩ : ∃ ck, ck = CC k := ⟨_, rfl⟩
        obtain ⟨mk, hmk⟩ : ∃ mk, mk = hM (arI I) 100 k := ⟨_, rfl⟩
        rw [← hik] at d0 HK9 HQ
        rw [← hxk] at d1 hX30
        rw [← hrk] at d2 hR30
        rw [← hbk] at d3
        rw [← hlk] at d4
        rw [← hak, ← hck] at d5
        rw [← hak] at hop
        rw [← hmk] at d6
        have HE : Hid (ik = I k ∧ xk = X k ∧ rk = R k) := ⟨hik, hxk, hrk⟩
        obtain ⟨W1, hW1⟩ : ∃ W1, W1 = wr.alloc (.cells #[.int .i64 ik, .string xk, .string rk, .bool bk, .string lk, .slice ak q ck, .int .i64 (mk : Int)] 73) := ⟨_, rfl⟩
        obtain ⟨bx, hbx⟩ : ∃ bx, bx = wr.heap.size := ⟨_, rfl⟩
        have hgx : gt < bx := by omega
        have HW : Hid (Below wr.heap.size wr W1 ∧ W1.heap[bx]? = some (.cells #[.int .i64 ik, .string xk, .string rk, .bool bk, .string lk, .slice ak q ck, .int .i64 (mk : Int)] 73) ∧ W1.heap.size = bx + 1) := by
          rw [hW1, hbx]
          exact ⟨below_alloc _ _, Array.getElem?_push_size, by simp⟩
        have HWB : Hid (∀ W, Below W1.heap.size W1 W → Below w1.heap.size w1 W) := fun W hW => HX.out.2.trans ((HW.out.1.trans (hW.mono HW.out.1.size)).mono HX.out.2.size)
        have HBX : Hid (∀ W, Below W1.heap.size W1 W → W.cell? ⟨bx, 0, none⟩ = some (.int .i64 ik) ∧ W.cell? ⟨bx, 1, none⟩ = some (.string xk) ∧ W.cell? ⟨bx, 2, none⟩ = some (.string rk) ∧ W.cell? ⟨bx, 3, none⟩ = some (.bool bk) ∧ W.cell? ⟨bx, 4, none⟩ = some (.string lk) ∧ W.cell? ⟨bx, 5, none⟩ = some (.slice ak q ck) ∧ W.cell? ⟨bx, 6, none⟩ = some (.int .i64 (mk : Int))) := fun W hW => by
          have hh := (hW.block bx (by rw [HW.out.2.2]; omega)).trans HW.out.2.1
          refine ⟨?_, ?_, ?_, ?_, ?_, ?_, ?_⟩ <;> simp [World.cell?, hh]
        have HBY : Hid (∀ (W : World) (v : Value), Below W1.heap.size W1 W → (W.setCell ⟨gt, k, none⟩ v).cell? ⟨bx, 0, none⟩ = some (.int .i64 ik) ∧ (W.setCell ⟨gt, k, none⟩ v).cell? ⟨bx, 1, none⟩ = some (.string xk) ∧ (W.setCell ⟨gt, k, none⟩ v).cell? ⟨bx, 2, none⟩ = some (.string rk) ∧ (W.setCell ⟨gt, k, none⟩ v).cell? ⟨bx, 3, none⟩ = some (.bool bk) ∧ (W.setCell ⟨gt, k, none⟩ v).cell? ⟨bx, 4, none⟩ = some (.string lk) ∧ (W.setCell ⟨gt, k, none⟩ v).cell? ⟨bx, 5, none⟩ = some (.slice ak q ck) ∧ (W.setCell ⟨gt, k, none⟩ v).cell? ⟨bx, 6, none⟩ = some (.int .i64 (mk : Int))) := fun W v hW => by
          have hh := (Below.heap_setCell W ⟨gt, k, none⟩ v bx (by show bx ≠ gt; omega)).trans ((hW.block bx (by rw [HW.out.2.2]; omega)).trans HW.out.2.1)
          refine ⟨?_, ?_, ?_, ?_, ?_, ?_, ?_⟩ <;> simp only [World.cell?, hh] <;> rfl
        have HZ : Hid (∀ W, Below W1.heap.size W1 W → rowIn W gt 9 n (fun i => .string (z i))) := fun W hW => by
          have hh : W.heap[gt]? = wr.heap[gt]? := (hW.block gt (by rw [HW.out.2.2]; omega)).trans (HW.out.1.block gt hgtw)
          exact hz.of_block hh
        have HP : Hid (∀ W, Below W1.heap.size W1 W → Calls Try.prog 48 #[.slice (some ⟨g, 0, none⟩) n cg, .slice ak q ck] W fun e w' => ∃ ap np cp, e = .returned (.slice ap np cp) ∧ PkA w' ap np q (fun j => I (opf (arI I) k j)) ∧ Below W.heap.size W w') := fun W hW => by
          refine (pickP_any g n cg _ ak q ck (fun j => opf (arI I) k j) W ((HPl.out.2.1).below (HWB.out W hW)) (hop.out W (HWB.out W hW)) (fun j hj => Nat.lt_trans (HV.out.opf_lt hlt (by rw [← HE.out.1, ← HQ.out]; exact hj)) hlt) (by omega) (by omega)).mono ?_
          rintro e w' ⟨v, rfl, hv, hb⟩
          obtain ⟨ap, np, cp, rfl, hp⟩ := pkA_of hv
          exact ⟨ap, np, cp, rfl, hp, hb⟩
        have HS : Hid (∀ W, Below W1.heap.size W1 W → Calls Try.prog 49 #[.slice (some ⟨gt, 0, none⟩) n n, .slice ak q ck] W fun e w' => ∃ ap np cp, e = .returned (.slice ap np cp) ∧ PkB w' ap np q (fun j => z (opf (arI I) k j)) ∧ Below W.heap.size W w') := fun W hW => by
          refine (pickS_any gt n n z ak q ck (fun j => opf (arI I) k j) W (fun i hi => (HZ.out W hW).cell hi) (hop.out W (HWB.out W hW)) (fun j hj => Nat.lt_trans (HV.out.opf_lt hlt (by rw [← HE.out.1, ← HQ.out]; exact hj)) hlt) (by omega) (by omega)).mono ?_
          rintro e w' ⟨v, rfl, hv, hb⟩
          obtain ⟨ap, np, cp, rfl, hp⟩ := pkB_of hv
          exact ⟨ap, np, cp, rfl, hp, hb⟩
        have HTx : Hid (∀ (W : World) (ap : Option Addr) (np cp : Nat) (at' : Option Addr) (nt ct : Nat), PkA W ap np q (fun j => I (opf (arI I) k j)) → PkB W at' nt q (fun j => z (opf (arI I) k j)) → Calls Try.prog 47 #[.agg #[.int .i64 ik, .string xk, .string rk, .bool bk, .string lk, .slice ak q ck, .int .i64 (mk : Int)], .slice ap np cp, .slice at' nt ct] W fun e w' => ∃ y, e = .returned (.string y) ∧ bl y = T I X R k ∧ Below W.heap.size W w') := fun W ap np cp at' nt ct h1 h2 => by
          have hjz : ∀ j, j < q → bl (z (opf (arI I) k j)) = T I X R (opf (arI I) k j) := fun j hj => htz _ (HV.out.opf_lt hlt (by rw [← HE.out.1, ← HQ.out]; exact hj))
          refine (textP_any ik xk rk lk bk ak q ck (mk : Int) ap at' np cp nt ct q _ _ W HQ.out HK9.out (ops_of h1 h2) (fun j hj => ?_) hX30 hR30).mono ?_
          · have hl := HV.out.opf_lt hlt (j := j) (by rw [← HE.out.1, ← HQ.out]; exact hj)
            have := T_len2 HV.out (i := opf (arI I) k j) (by omega)
            rw [← hjz j hj, bl_length] at this
            omega
          · rintro e w' ⟨y, rfl, hy, hb⟩
            refine ⟨y, rfl, ?_, hb⟩
            rw [hy, HE.out.1, HE.out.2.1, HE.out.2.2]
            exact T_node HV.out hlt (fun h => hjz 0 (by rw [HQ.out, HE.out.1]; exact h)) (fun h => hjz 1 (by rw [HQ.out, HE.out.1]; exact h))
        have HTZ : Hid (∀ i, i < k → bl (z i) = T I X R i) := htz
        have HXB : Hid (Below w1.heap.size w1 wr) := HX.out.2
        clear hz htz hop hq hik hxk hrk hbk hlk hak hck hmk hX30 hR30 HK9 HE HQ HX
        go_wp2
        rw [← hW1, ← hbx]
        clear hW1 hbx d0 d1 d2 d3 d4 d5 d6 hgtw
        have K0 : Hid (Below W1.heap.size W1 W1.drew) := (Below.refl _ _).drew
        go_region_held3 (fun w' => w'.cell? ⟨bx, 0, none⟩ = some (.int .i64 ik) ∧ w'.cell? ⟨bx, 1, none⟩ = some (.string xk) ∧ w'.cell? ⟨bx, 2, none⟩ = some (.string rk) ∧ w'.cell? ⟨bx, 3, none⟩ = some (.bool bk) ∧ w'.cell? ⟨bx, 4, none⟩ = some (.string lk) ∧ w'.cell? ⟨bx, 5, none⟩ = some (.slice ak q ck) ∧ w'.cell? ⟨bx, 6, none⟩ = some (.int .i64 (mk : Int))) (first | exact HBY.out _ _ K4.out.1 | exact HBX.out _ K4.out.1 | exact HBX.out _ K3.out.1 | exact HBX.out _ K2.out.1 | exact HBX.out _ K0.out | go_keep)
          (first
          | (go_at_call 48; (with_reducible refine (HP.out _ K0.out).mono ?_); rintro e w2 ⟨ap, np, cp, rfl, hp2, hb2⟩; have K2 : Hid (Below W1.heap.size W1 w2 ∧ PkA w2 ap np q (fun j => I (opf (arI I) k j))) := ⟨K0.out.trans (hb2.mono K0.out.size), hp2⟩; clear hb2 hp2)
          | (go_at_call 49; (with_reducible refine (HS.out _ K2.out.1).mono ?_); rintro e w3 ⟨az, ns, cs, rfl, hp3, hb3⟩; have K3 : Hid (Below W1.heap.size W1 w3 ∧ PkA w3 ap np q (fun j => I (opf (arI I) k j)) ∧ PkB w3 az ns q (fun j => z (opf (arI I) k j))) := ⟨K2.out.1.trans (hb3.mono K2.out.1.size), K2.out.2.below hb3, hp3⟩; clear hb3 hp3)
          | (go_at_call 47; (with_reducible refine (HTx.out _ ap np cp az ns cs K3.out.2.1 K3.out.2.2).mono ?_); rintro e w4 ⟨y, rfl, hy, hb4⟩; have K4 : Hid (Below W1.heap.size W1 w4 ∧ bl y = T I X R k) := ⟨K3.out.1.trans (hb4.mono K3.out.1.size), hy⟩; clear hb4 hy; have hz4 := HZ.out w4 K4.out.1; have y0 := hz4.cell hlt; have y1 := hz4.frozen; have y2 := hz4.lt; clear hz4)
          | fail)
        have HF : Hid (TxR (w4.setCell ⟨gt, k, none⟩ (.string y)) gt n (k + 1) I X R ∧ Below w1.heap.size w1 (w4.setCell ⟨gt, k, none⟩ (.string y))) := by
          refine ⟨⟨fun i => if i = k then y else z i, ((HZ.out w4 K4.out.1).set k (.string y)).congr (fun i hi => ?_), fun i hi => ?_⟩, (HWB.out w4 K4.out.1).setCell hgt1 _⟩
          · by_cases e : i = k
            · dsimp only; rw [if_pos e, if_pos e]
            · dsimp only; rw [if_neg e, if_neg e]
          · by_cases e : i = k
            · dsimp only; rw [if_pos e, e]
              exact K4.out.2
            · dsimp only; rw [if_neg e]
              exact HTZ.out i (by omega)
        go_wp2
        go_roundw
        case rel => exact ⟨k + 1, by omega, by go_num, HF.out⟩
        case measure => simp [intOf]; omega
      · have e : k = n := by omega
        subst e
        have l1 : ¬ (k : Int) < (k : Int) := by omega
        obtain ⟨m, hm⟩ : ∃ m, k = m + 1 := ⟨k - 1, by omega⟩
        subst hm
        obtain ⟨z, hz, htz⟩ := HX.out.1
        have hcz := hz.cell (show m < m + 1 by omega)
        have HLs : Hid (Calls Try.prog 50 #[.slice (some ⟨gt, 0, none⟩) (m + 1) (m + 1)] wr fun e w' => e = .returned (.string (z m)) ∧ w' = wr) := lastS_any gt m (m + 1) (z m) wr hcz (by omega)
        obtain ⟨cc, W', hcv, hbW, hrW, hc1, hc2⟩ := conv_sm (z m) wr
        have HF : Hid (RetPP w (m + 1) I X R pt (.returned (.slice (some ⟨wr.heap.size, 0, none⟩) (z m).size cc)) W') := by
          have hb2 : Below w.heap.size w wr := HB1.out.trans (HX.out.2.mono HB1.out.size)
          have ept : pt = bl (z m) := by
            rcases HT.out with ⟨_, q⟩ | ⟨q, _⟩
            · rw [q, htz m (by omega)]; rfl
            · exact absurd HPl.out.1 q
          refine ⟨hb2.trans (hbW.mono hb2.size), .inl ⟨HPl.out.1, wr.heap.size, cc, by rw [ept, bl_length], hb2.size, ?_⟩⟩
          rw [ept, bl_length]
          exact ⟨hrW, hc1, hc2⟩
        clear hz htz hcz hbW hrW hc1 hc2
        go_wp2_with fail
        refine HLs.out.mono ?_
        rintro e w2 ⟨rfl, hw2⟩
        subst hw2
        go_wp2
        go_ret
        exact HF.out
end Go.Proofs.Ytocmbnocdjnfpaa

namespace Go.Proofs.Ytocmbnocdjnfpaa
open Go.RowKit Go.Deep
set_option linter.unusedVariables false
set_option linter.unusedSimpArgs false
set_option maxRecDepth 100000

theorem implPP3 (pt : List Int) (a : Option Addr) (n c : Nat) (I : Nat → Int) (X R : Nat → ByteArray) (w : World) (h : RdN w a n I X R) (hn : n ≤ 1048576) (hc : n ≤ c) (hcm : c ≤ 9223372036854775807) (ht : IsTx n I X R pt) :
    Calls Try.prog 15 #[.agg #[.slice a n c]] w fun e w' => ∃ ad cc, e = .returned (.slice ad pt.length cc) ∧ RdL w' ad pt ∧ Below w.heap.size w w' ∧ pt.length ≤ cc ∧ cc ≤ 9223372036854775807 := by
  have hl := ht.len
  refine (implPP pt a n c I X R w h hn hc hcm ht).mono ?_
  rintro e w' ⟨hb, ⟨_, g, cc, rfl, hg, hr, h1, h2⟩ | ⟨rfl, rfl⟩⟩
  · refine ⟨_, _, rfl, OwM.rd (B := w.heap.size) (.inr ⟨g, rfl, hg, hr⟩), hb, h1, ?_⟩
    have := h2 (by unfold maxLen; omega)
    unfold maxLen at this
    omega
  · exact ⟨none, 0, rfl, .inl rfl, hb, Nat.le_refl _, by omega⟩

end Go.Proofs.Ytocmbnocdjnfpaa

namespace Go.Proofs.Ytocmbnocdjnfpaa
open Go.RowKit Go.Deep
set_option linter.unusedVariables false
set_option maxRecDepth 100000

set_option maxHeartbeats 1000000 in
theorem specPP (pt : List Int) (a : Option Addr) (n c : Nat) (I : Nat → Int) (X R : Nat → ByteArray) (w : World) (h : RdN w a n I X R) (hn : n ≤ 1048576) (hc : n ≤ c) (hcm : c ≤ 9223372036854775807) (ht : IsTx n I X R pt) :
    Calls Try.prog 14 #[.agg #[.slice a n c]] w (RetL w pt) := by
  have HT : Hid (IsTx n I X R pt) := ht
  clear ht
  have HV : Hid (∀ W, Below w.heap.size w W → Calls Try.prog 10 #[.agg #[.slice a n c]] W (AnsN W (VPth n I X R))) := fun W hW => specVP a n c I X R W (h.below hW) hn hc hcm
  have HR : Hid (RdN w a n I X R) := h
  have HB0 : Hid (Below w.heap.size w (w.alloc (.cells #[.slice a n c] 29))) := below_alloc _ _
  clear h
  go_enter Try.func14, Try.ntmps14
  go_wp2_with fail
  refine (HV.out _ HB0.out).mono ?_
  rintro e w1 ⟨bv1, rfl, hbv, hb1⟩
  have HB1 : Hid (Below w.heap.size w w1) := HB0.out.trans (hb1.mono HB0.out.size)
  have hbx : w1.cell? ⟨w.heap.size, 0, none⟩ = some (.slice a n c) := by
    rw [hb1.cell (by simp)]
    simp
  have hlt : w.heap.size < w1.heap.size := by have := hb1.size; simp at this; omega
  clear hb1 HV HB0
  cases bv1 with
  | false =>
    have hno : ¬ VPth n I X R := fun hv => by have := hbv.2 hv; cases this
    have HE : Hid (pt = []) := by
      rcases HT.out with ⟨q, _⟩ | ⟨_, q⟩
      · exact absurd q hno
      · exact q
    clear hbv hno
    have HF : Hid (RetL w pt (.returned (.slice (some ⟨w1.heap.size, 0, none⟩) 0 0)) (w1.alloc (.cells #[] 5))) := by
      rw [HE.out]
      exact retL_of rfl (.inl rfl) (HB1.out.alloc HB1.out.size _) (fun h0 => absurd h0 (by decide)) ⟨Nat.le_refl _, by omega⟩
    go_wp2
    go_ret
    exact HF.out
  | true =>
    have hv : VPth n I X R := hbv.1 rfl
    have HE : Hid (pt = T I X R (n - 1)) := by
      rcases HT.out with ⟨_, q⟩ | ⟨q, _⟩
      · exact q
      · exact absurd hv q
    obtain ⟨m, hm⟩ : ∃ m, n = m + 1 := ⟨n - 1, by have := hv.1; omega⟩
    subst hm
    obtain ⟨b, o, ea⟩ : ∃ b o, a = some ⟨b, o, none⟩ := by
      rcases HR.out with h0 | ⟨b, o, e, _⟩
      · omega
      · exact ⟨b, o, e⟩
    subst ea
    have HS : Hid (Calls Try.prog 46 #[.slice (some ⟨b, o, none⟩) (m + 1) c] w1 (RetL w1 (T I X R m))) := by
      have q := l6Show_any hv.gd (m + 1) b o 0 m c w1 (by simpa only [Nat.zero_add] using HR.out.below HB1.out) (Nat.le_refl _) (by have := hv.1; omega) hc hcm (by omega) (by simpa only [Nat.zero_add] using hv.2.2.1)
      rw [Nat.zero_add] at q
      exact q
    clear hbv hv
    go_wp2_with fail
    refine HS.out.mono ?_
    rintro e w2 ⟨a2, c2, rfl, hr2, hb2, hf2, hc2⟩
    have HF : Hid (RetL w pt (.returned (.slice a2 (T I X R m).length c2)) w2) := by
      rw [HE.out, Nat.add_sub_cancel]
      exact retL_of rfl hr2 (HB1.out.trans (hb2.mono HB1.out.size)) (fun h0 p hp => Nat.le_trans HB1.out.size (hf2 h0 p hp)) hc2
    clear hr2 hb2 hf2 hc2
    go_wp2
    go_ret
    exact HF.out
end Go.Proofs.Ytocmbnocdjnfpaa

namespace Go.Proofs.Ytocmbnocdjnfpaa
open Go.RowKit Go.Deep
set_option linter.unusedVariables false
set_option linter.unusedSimpArgs false
set_option maxRecDepth 100000

theorem hx_nat : ∀ k, k < 256 → Lib.indexByte [48, 49, 50, 51, 52, 53, 54, 55, 56, 57, 97, 98, 99, 100, 101, 102] (k : Nat).toUInt8 = hxV (k : Int) := by decide
theorem hex_any (b : Int) (h0 : 0 ≤ b) (h1 : b < 256) (w : World) : Calls Try.prog 165 #[.string { data := #[48, 49, 50, 51, 52, 53, 54, 55, 56, 57, 97, 98, 99, 100, 101, 102] }, .int .u8 b] w fun e w' => e = .returned (.int .i64 (hxV b)) ∧ w' = w := by
  refine (Any.strings_IndexByte lays137 _ b w).mono ?_
  rintro e w' ⟨rfl, rfl⟩
  refine ⟨?_, rfl⟩
  congr 2
  have := hx_nat b.toNat (by omega)
  rw [show ((b.toNat : Nat) : Int) = b by omega] at this
  exact this

theorem or_nat : ∀ a, a < 16 → ∀ b, b < 16 → bits BinOp.or IntKind.i64 ((a : Nat) * 16 : Int) (b : Nat) % 256 = 16 * (a : Nat) + (b : Nat) := by decide
theorem or_hex {x y : Int} (h0 : 0 ≤ x) (h1 : x < 16) (h2 : 0 ≤ y) (h3 : y < 16) : bits BinOp.or IntKind.i64 (x * 16) y % 256 = 16 * x + y := by
  have := or_nat x.toNat (by omega) y.toNat (by omega)
  rw [show ((x.toNat : Nat) : Int) = x by omega, show ((y.toNat : Nat) : Int) = y by omega] at this
  exact this
/-- What readQuoted answers. -/
def pcO (f : Nat → Int) (n j : Nat) : Int × Nat := (pcB f n j).getD (0, 0)

set_option maxHeartbeats 2000000 in
theorem readQuoted_any (b off c n j : Nat) (f : Nat → Int) (w : World) (hj : j < n) (hn : n ≤ 2000) (hc : ∀ k, j + k < n → w.cell? ⟨b, off + k, none⟩ = some (.int .u8 (f (j + k)))) (hf : ∀ i, i < n → 0 ≤ f i ∧ f i < 256) :
    Calls Try.prog 148 #[.slice (some ⟨b, off, none⟩) (n - j) c] w fun e w' => e = .returned (.tuple #[.int .u8 (pcO f n j).1, .int .i64 ((pcO f n j).2 : Int)]) ∧ w' = w := by
  have HC : Hid (∀ k, j + k < n → w.cell? ⟨b, off + k, none⟩ = some (.int .u8 (f (j + k)))) := hc
  have HFB : Hid (∀ i, i < n → 0 ≤ f i ∧ f i < 256) := hf
  have c0 := hc 0 (by omega)
  rw [Nat.add_zero, Nat.add_zero] at c0
  obtain ⟨ln, hln⟩ : ∃ ln, ln = n - j := ⟨_, rfl⟩
  rw [← hln]
  have HLN : Hid (ln = n - j) := hln
  have l0 : (0 : Int) < (ln : Int) := by omega
  have l0' : 0 < ln := by omega
  clear hc hf
  obtain ⟨x, hx⟩ : ∃ x, x = f j := ⟨_, rfl⟩
  have HX : Hid (x = f j) := hx
  have hx0 : 0 ≤ x ∧ x < 256 := by rw [hx]; exact HFB.out j hj
  obtain ⟨hx0, hx1⟩ := hx0
  rw [← hx] at c0
  clear hx
  by_cases h92 : x = 92
  · subst h92
    have HX92 : Hid (f j = 92) := HX.out.symm
    by_cases hl2 : 2 ≤ ln
    · have i2 : (2 : Int) ≤ (ln : Int) := by omega
      have i1 : (1 : Int) < (ln : Int) := by omega
      have i1' : 1 < ln := by omega
      have d2 : decide ((2 : Int) ≤ (ln : Int)) = true := decide_eq_true i2
      have c1 := HC.out 1 (by omega)
      obtain ⟨y, hy⟩ : ∃ y, y = f (j + 1) := ⟨_, rfl⟩
      have HY : Hid (y = f (j + 1)) := hy
      rw [← hy] at c1
      clear hy
      by_cases hy34 : y = 34
      · subst hy34
        have HP : Hid (pcO f n j = (34, 2)) := by show _ = _; unfold pcO pcB; rw [HX92.out, if_pos rfl, ← HY.out, if_pos ⟨by omega, Or.inl rfl⟩]; rfl
        clear hln
        go_enter Try.func148, Try.ntmps148
        go_wp2
        refine bodyPost_ret (v := .tuple #[.int .u8 (34), .int .i64 2]) (by simp [results, Try.results148, go_sem]) rfl ⟨by rw [HP.out]; rfl, rfl⟩
      by_cases hy92 : y = 92
      · subst hy92
        have HP : Hid (pcO f n j = (92, 2)) := by show _ = _; unfold pcO pcB; rw [HX92.out, if_pos rfl, ← HY.out, if_pos ⟨by omega, Or.inr rfl⟩]; rfl
        clear hln
        go_enter Try.func148, Try.ntmps148
        go_wp2
        refine bodyPost_ret (v := .tuple #[.int .u8 (92), .int .i64 2]) (by simp [results, Try.results148, go_sem]) rfl ⟨by rw [HP.out]; rfl, rfl⟩
      have n34 : (y == 34) = false := by simp [hy34]
      have n92 : (y == 92) = false := by simp [hy92]
      by_cases hl4 : ln < 4
      · have i4 : (ln : Int) < 4 := by omega
        have HP : Hid (pcO f n j = (0, 0)) := by show _ = _; unfold pcO pcB; rw [HX92.out, if_pos rfl, ← HY.out, if_neg (by omega), if_neg (by omega)]; rfl
        clear hln
        go_enter Try.func148, Try.ntmps148
        go_wp2
        refine bodyPost_ret (v := .tuple #[.int .u8 (0), .int .i64 0]) (by simp [results, Try.results148, go_sem]) rfl ⟨by rw [HP.out]; rfl, rfl⟩
      have i4 : ¬ (ln : Int) < 4 := by omega
      by_cases h120 : y = 120
      · subst h120
        have c2 := HC.out 2 (by omega)
        have c3 := HC.out 3 (by omega)
        have j2 : (2 : Int) < (ln : Int) := by omega
        have j3 : (3 : Int) < (ln : Int) := by omega
        obtain ⟨y2, hy2⟩ : ∃ y, y = f (j + 2) := ⟨_, rfl⟩
        obtain ⟨y3, hy3⟩ : ∃ y, y = f (j + 3) := ⟨_, rfl⟩
        have HY2 : Hid (y2 = f (j + 2) ∧ y3 = f (j + 3)) := ⟨hy2, hy3⟩
        have HF2 : Hid (∀ W, Calls Try.prog 165 #[.string { data := #[48, 49, 50, 51, 52, 53, 54, 55, 56, 57, 97, 98, 99, 100, 101, 102] }, .int .u8 y2] W fun e w' => e = .returned (.int .i64 (hxV y2)) ∧ w' = W) := fun W => hex_any y2 (by rw [hy2]; exact (HFB.out _ (by omega)).1) (by rw [hy2]; exact (HFB.out _ (by omega)).2) W
        have HF3 : Hid (∀ W, Calls Try.prog 165 #[.string { data := #[48, 49, 50, 51, 52, 53, 54, 55, 56, 57, 97, 98, 99, 100, 101, 102] }, .int .u8 y3] W fun e w' => e = .returned (.int .i64 (hxV y3)) ∧ w' = W) := fun W => hex_any y3 (by rw [hy3]; exact (HFB.out _ (by omega)).1) (by rw [hy3]; exact (HFB.out _ (by omega)).2) W
        rw [← hy2] at c2
        rw [← hy3] at c3
        have g2 := hxV_lt y2
        have g3 := hxV_lt y3
        have HP : Hid (pcO f n j = if 0 ≤ hxV y2 ∧ 0 ≤ hxV y3 then (16 * hxV y2 + hxV y3, 4) else (0, 0)) := by
          show _ = _
          unfold pcO pcB
          rw [HX92.out, if_pos rfl, ← HY.out, if_neg (by omega), ← HY2.out.1, ← HY2.out.2]
          by_cases q : 0 ≤ hxV y2 ∧ 0 ≤ hxV y3
          · rw [if_pos ⟨by omega, rfl, q⟩, if_pos q]; rfl
          · rw [if_neg (fun e => q e.2.2), if_neg q]; rfl
        clear hln hy2 hy3
        generalize hxV y2 = z2 at *
        generalize hxV y3 = z3 at *
        go_enter Try.func148, Try.ntmps148
        go_wp2_with fail
        refine (HF2.out _).mono ?_
        rintro e w8 ⟨rfl, hw8⟩
        rw [hw8]
        clear hw8 w8
        go_wp2_with fail
        refine (HF3.out _).mono ?_
        rintro e w8 ⟨rfl, hw8⟩
        rw [hw8]
        clear hw8 w8
        by_cases q2 : z2 < 0
        · have HP2 : Hid (pcO f n j = (0, 0)) := by show _ = _; rw [HP.out, if_neg (by omega)]
          have dq : decide (z2 < 0) = true := decide_eq_true q2
          go_wp2
          refine bodyPost_ret (v := .tuple #[.int .u8 (0), .int .i64 0]) (by simp [results, Try.results148, go_sem]) rfl ⟨by rw [HP2.out]; rfl, rfl⟩
        have dq2 : decide (z2 < 0) = false := decide_eq_false q2
        by_cases q3 : z3 < 0
        · have HP2 : Hid (pcO f n j = (0, 0)) := by show _ = _; rw [HP.out, if_neg (by omega)]
          have dq : decide (z3 < 0) = true := decide_eq_true q3
          go_wp2
          refine bodyPost_ret (v := .tuple #[.int .u8 (0), .int .i64 0]) (by simp [results, Try.results148, go_sem]) rfl ⟨by rw [HP2.out]; rfl, rfl⟩
        have dq3 : decide (z3 < 0) = false := decide_eq_false q3
        have HP2 : Hid (pcO f n j = (16 * z2 + z3, 4)) := by show _ = _; rw [HP.out, if_pos (by omega)]
        go_wp2
        refine bodyPost_ret (v := .tuple #[.int .u8 (16 * z2 + z3), .int .i64 4]) (by simp [results, Try.results148, go_sem]; exact or_hex q2 g2 q3 g3) rfl ⟨by rw [HP2.out]; rfl, rfl⟩
      have n120 : (y == 120) = false := by simp [h120]
      have HP : Hid (pcO f n j = (0, 0)) := by show _ = _; unfold pcO pcB; rw [HX92.out, if_pos rfl, ← HY.out, if_neg (by omega), if_neg (by omega)]; rfl
      clear hln
      go_enter Try.func148, Try.ntmps148
      go_wp2
      refine bodyPost_ret (v := .tuple #[.int .u8 (0), .int .i64 0]) (by simp [results, Try.results148, go_sem]) rfl ⟨by rw [HP.out]; rfl, rfl⟩
    have i2 : ¬ (2 : Int) ≤ (ln : Int) := by omega
    have i4 : (ln : Int) < 4 := by omega
    have d2 : decide ((2 : Int) ≤ (ln : Int)) = false := decide_eq_false i2
    have HP : Hid (pcO f n j = (0, 0)) := by show _ = _; unfold pcO pcB; rw [HX92.out, if_pos rfl, if_neg (by omega), if_neg (by omega)]; rfl
    clear hln
    go_enter Try.func148, Try.ntmps148
    go_wp2
    refine bodyPost_ret (v := .tuple #[.int .u8 (0), .int .i64 0]) (by simp [results, Try.results148, go_sem]) rfl ⟨by rw [HP.out]; rfl, rfl⟩
  have n92 : (x == 92) = false := by simp [h92]
  obtain ⟨xn, hxn⟩ : ∃ xn : Nat, x = (xn : Int) := ⟨x.toNat, by omega⟩
  have HPl : Hid (∀ W, Calls Try.prog 128 #[.int .u8 x] W fun e w' => e = .returned (.bool (decide (32 ≤ x ∧ x ≤ 126))) ∧ w' = W) := fun W => by
    rw [hxn]
    refine (plain_any xn W).mono ?_
    rintro e w' ⟨rfl, rfl⟩
    refine ⟨?_, rfl⟩
    congr 2
    rw [decide_eq_decide]
    omega
  clear hxn
  clear hln
  go_enter Try.func148, Try.ntmps148
  go_wp2_with fail
  refine (HPl.out _).mono ?_
  rintro e w8 ⟨rfl, hw8⟩
  rw [hw8]
  clear hw8 w8
  by_cases h : 32 ≤ x ∧ x ≤ 126
  · have HP : Hid (pcO f n j = (x, 1)) := by show _ = _; unfold pcO pcB; rw [← HX.out, if_neg h92, if_pos h]; rfl
    rw [decide_eq_true h]
    go_wp2
    refine bodyPost_ret (v := .tuple #[.int .u8 (x), .int .i64 1]) (by simp [results, Try.results148, go_sem]) rfl ⟨by rw [HP.out]; rfl, rfl⟩
  · have HP : Hid (pcO f n j = (0, 0)) := by show _ = _; unfold pcO pcB; rw [← HX.out, if_neg h92, if_neg h]; rfl
    rw [decide_eq_false h]
    go_wp2
    refine bodyPost_ret (v := .tuple #[.int .u8 (0), .int .i64 0]) (by simp [results, Try.results148, go_sem]) rfl ⟨by rw [HP.out]; rfl, rfl⟩
end Go.Proofs.Ytocmbnocdjnfpaa

namespace Go.Proofs.Ytocmbnocdjnfpaa
open Go.RowKit Go.Deep
set_option linter.unusedVariables false
set_option linter.unusedSimpArgs false
set_option maxRecDepth 100000

/-- A token's kind, as the program has it. -/
def kdW (c : Nat) : ByteArray := if c = 0 then { data := #[110, 111, 110, 101] } else if c = 14 then { data := #[83, 84, 82] } else if c = 15 then { data := #[101, 110, 100, 32, 111, 102, 32, 116, 104, 101, 32, 116, 101, 120, 116] } else wdS c
/-- What nodeKind answers. -/
def nkF (q : List Int) : Nat := if q = [97, 108, 108] then 1 else if q = [118] then 2 else if q = [111, 117, 116] then 3 else if q = [105, 110] then 4 else if q = [104, 97, 115] then 5 else if q = [38] then 6 else if q = [124] then 7 else if q = [45] then 8 else if q = [103, 114, 97, 112, 104] then 9 else 0
theorem nodeKind_any (q : List Int) (hq : Byt q) (w : World) : Calls Try.prog 99 #[.string (strT q)] w fun e w' => e = .returned (.int .i64 (nkF q : Int)) ∧ w' = w := by
  by_cases h1 : q = [97, 108, 108]
  · subst h1
    show Calls Try.prog 99 #[.string { data := #[97, 108, 108] }] w _
    go_enter Try.func99, Try.ntmps99
    go_wp2
    go_ret
    exact ⟨rfl, rfl⟩
  by_cases h2 : q = [118]
  · subst h2
    show Calls Try.prog 99 #[.string { data := #[118] }] w _
    go_enter Try.func99, Try.ntmps99
    go_wp2
    go_ret
    exact ⟨rfl, rfl⟩
  by_cases h3 : q = [111, 117, 116]
  · subst h3
    show Calls Try.prog 99 #[.string { data := #[111, 117, 116] }] w _
    go_enter Try.func99, Try.ntmps99
    go_wp2
    go_ret
    exact ⟨rfl, rfl⟩
  by_cases h4 : q = [105, 110]
  · subst h4
    show Calls Try.prog 99 #[.string { data := #[105, 110] }] w _
    go_enter Try.func99, Try.ntmps99
    go_wp2
    go_ret
    exact ⟨rfl, rfl⟩
  by_cases h5 : q = [104, 97, 115]
  · subst h5
    show Calls Try.prog 99 #[.string { data := #[104, 97, 115] }] w _
    go_enter Try.func99, Try.ntmps99
    go_wp2
    go_ret
    exact ⟨rfl, rfl⟩
  by_cases h6 : q = [38]
  · subst h6
    show Calls Try.prog 99 #[.string { data := #[38] }] w _
    go_enter Try.func99, Try.ntmps99
    go_wp2
    go_ret
    exact ⟨rfl, rfl⟩
  by_cases h7 : q = [124]
  · subst h7
    show Calls Try.prog 99 #[.string { data := #[124] }] w _
    go_enter Try.func99, Try.ntmps99
    go_wp2
    go_ret
    exact ⟨rfl, rfl⟩
  by_cases h8 : q = [45]
  · subst h8
    show Calls Try.prog 99 #[.string { data := #[45] }] w _
    go_enter Try.func99, Try.ntmps99
    go_wp2
    go_ret
    exact ⟨rfl, rfl⟩
  by_cases h9 : q = [103, 114, 97, 112, 104]
  · subst h9
    show Calls Try.prog 99 #[.string { data := #[103, 114, 97, 112, 104] }] w _
    go_enter Try.func99, Try.ntmps99
    go_wp2
    go_ret
    exact ⟨rfl, rfl⟩
  have n1 : ¬ (strT q).toList = [97, 108, 108] := strT_nl hq (q := [97, 108, 108]) (byt_lit rfl) h1
  have n2 : ¬ (strT q).toList = [118] := strT_nl hq (q := [118]) (byt_lit rfl) h2
  have n3 : ¬ (strT q).toList = [111, 117, 116] := strT_nl hq (q := [111, 117, 116]) (byt_lit rfl) h3
  have n4 : ¬ (strT q).toList = [105, 110] := strT_nl hq (q := [105, 110]) (byt_lit rfl) h4
  have n5 : ¬ (strT q).toList = [104, 97, 115] := strT_nl hq (q := [104, 97, 115]) (byt_lit rfl) h5
  have n6 : ¬ (strT q).toList = [38] := strT_nl hq (q := [38]) (byt_lit rfl) h6
  have n7 : ¬ (strT q).toList = [124] := strT_nl hq (q := [124]) (byt_lit rfl) h7
  have n8 : ¬ (strT q).toList = [45] := strT_nl hq (q := [45]) (byt_lit rfl) h8
  have n9 : ¬ (strT q).toList = [103, 114, 97, 112, 104] := strT_nl hq (q := [103, 114, 97, 112, 104]) (byt_lit rfl) h9
  have HC : Hid (nkF q = 0) := by
    show _ = _
    unfold nkF
    rw [if_neg h1, if_neg h2, if_neg h3, if_neg h4, if_neg h5, if_neg h6, if_neg h7, if_neg h8, if_neg h9]
  generalize strT q = X at *
  clear h1 h2 h3 h4 h5 h6 h7 h8 h9 hq
  have m1 : (X.toList == [97, 108, 108]) = false := by simp [n1]
  have m2 : (X.toList == [118]) = false := by simp [n2]
  have m3 : (X.toList == [111, 117, 116]) = false := by simp [n3]
  have m4 : (X.toList == [105, 110]) = false := by simp [n4]
  have m5 : (X.toList == [104, 97, 115]) = false := by simp [n5]
  have m6 : (X.toList == [38]) = false := by simp [n6]
  have m7 : (X.toList == [124]) = false := by simp [n7]
  have m8 : (X.toList == [45]) = false := by simp [n8]
  have m9 : (X.toList == [103, 114, 97, 112, 104]) = false := by simp [n9]
  go_enter Try.func99, Try.ntmps99
  go_wp2
  go_ret
  exact ⟨by rw [HC.out]; rfl, rfl⟩
theorem con_no (x : UInt8) (t : List UInt8) (h1 : ¬ x = 46) (h2 : ¬ x = 40) (h3 : ¬ x = 41) (h4 : ¬ x = 44) : Lib.contains [46, 40, 41, 44] (x :: t) = false := by
  simp [Lib.contains, Lib.index, List.isPrefixOf, h1, h2, h3, h4]
theorem con_nat : ∀ k, k < 256 → decide (0 ≤ Lib.indexByte [46, 40, 41, 44] (UInt8.ofNat k)) = decide (k = 46 ∨ k = 40 ∨ k = 41 ∨ k = 44) := by decide
theorem u8_ne {x : Int} (h0 : 97 ≤ x) (h1 : x ≤ 122) : ∀ k : Nat, k < 97 → ¬ UInt8.ofNat x.toNat = UInt8.ofNat k := fun k hk e => by
  have := congrArg UInt8.toNat e
  rw [UInt8.toNat_ofNat', UInt8.toNat_ofNat'] at this
  omega
/-- Whether a word or a sign stands in a short text. -/
theorem con_any (q : List Int) (h : (∃ x, q = [x] ∧ 0 ≤ x ∧ x < 256) ∨ (∃ x t, q = x :: t ∧ 97 ≤ x ∧ x ≤ 122)) (w : World) (hm : ∃ m, w.cell? ⟨0, 0, none⟩ = some (.int .i64 m)) : Calls Try.prog 132 #[.string { data := #[46, 40, 41, 44] }, .string (strT q)] w fun e w' => e = .returned (.bool (decide (q = [46] ∨ q = [40] ∨ q = [41] ∨ q = [44]))) ∧ w' = w := by
  rcases h with ⟨x, rfl, h0, h1⟩ | ⟨x, t, rfl, h0, h1⟩
  · refine (Any.strings_Contains_one lays144 { data := #[46, 40, 41, 44] } (UInt8.ofNat x.toNat) w).mono ?_
    rintro e w' ⟨rfl, rfl⟩
    refine ⟨?_, rfl⟩
    have := con_nat x.toNat (by omega)
    show Ending.returned (.bool (decide (0 ≤ Lib.indexByte [46, 40, 41, 44] (UInt8.ofNat x.toNat)))) = _
    rw [this]
    congr 2
    rw [decide_eq_decide]
    constructor
    · rintro (e | e | e | e)
      · exact .inl (by rw [show x = 46 by omega])
      · exact .inr (.inl (by rw [show x = 40 by omega]))
      · exact .inr (.inr (.inl (by rw [show x = 41 by omega])))
      · exact .inr (.inr (.inr (by rw [show x = 44 by omega])))
    · rintro (e | e | e | e) <;> (injection e with e _; omega)
  · obtain ⟨m, hm⟩ := hm
    refine (Any.strings_Contains lays144 { data := #[46, 40, 41, 44] } (strT (x :: t)) m w (by decide) hm).mono ?_
    rintro e w' ⟨rfl, rfl⟩
    refine ⟨?_, rfl⟩
    have e1 : (strT (x :: t)).data.toList = UInt8.ofNat x.toNat :: t.map (fun x => UInt8.ofNat x.toNat) := by simp [strT]
    rw [e1]
    have := con_no (UInt8.ofNat x.toNat) (t.map (fun x => UInt8.ofNat x.toNat)) (u8_ne h0 h1 46 (by omega)) (u8_ne h0 h1 40 (by omega)) (u8_ne h0 h1 41 (by omega)) (u8_ne h0 h1 44 (by omega))
    show Ending.returned (.bool (Lib.contains [46, 40, 41, 44] _)) = _
    rw [this]
    congr 2
    symm
    rw [decide_eq_false_iff_not]
    rintro (e | e | e | e) <;> (injection e with e _; omega)

/-- A token, as readToken hands it back. -/
def tokV (t : Tok) (p : Nat) : Value := .tuple #[.string (kdW t.c), .string (strT t.q), .int .i64 ((t.e - p : Nat) : Int)]
def TRet (f : Nat → Int) (n p : Nat) (w : World) (e : Ending) (w' : World) : Prop := e = .returned (tokV (tkA f n p) p) ∧ Below w.heap.size w w'
theorem TRet.none {f : Nat → Int} {n p : Nat} {w w' : World} (h : tkA f n p = ⟨0, [], p⟩) (hb : Below w.heap.size w w') : TRet f n p w (.returned (.tuple #[.string { data := #[110, 111, 110, 101] }, .string { data := #[] }, .int .i64 0])) w' := by
  refine ⟨?_, hb⟩
  rw [h]
  unfold tokV
  rw [Nat.sub_self]
  rfl

theorem run_fr (b off n c t : Nat) (h1 : t < n) (h2 : n ≤ c) (hc : c ≤ 9223372036854775807) (w : World) : (Instr.sliceAt 33 (.slice (some ⟨b, off, none⟩) n c) (some (.int .i64 (t : Int))) none none).run Try.prog w = .ok (.slice (some ⟨b, off + t, none⟩) (n - t) (c - t)) w := by
  simp [Instr.sliceAt, Instr.slice, go_sem]
  have e1 : n ≤ c := h2
  have e2 : ¬ c = t := by omega
  have e3 : t ≤ n := by omega
  simp [e1, e2, e3, Addr.add]
set_option maxHeartbeats 4000000 in
theorem readString_any (b off c n p : Nat) (f : Nat → Int) (w : World) (hp : p < n) (hn : n ≤ 2000) (hnc : n - p ≤ c) (hcm : c ≤ 9223372036854775807) (hc : ∀ k, p + k < n → w.cell? ⟨b, off + k, none⟩ = some (.int .u8 (f (p + k)))) (hf : ∀ i, i < n → 0 ≤ f i ∧ f i < 256) (h34 : f p = 34) :
    Calls Try.prog 131 #[.slice (some ⟨b, off, none⟩) (n - p) c] w (TRet f n p w) := by
  have HC : Hid (∀ k, p + k < n → w.cell? ⟨b, off + k, none⟩ = some (.int .u8 (f (p + k)))) := hc
  have HFB : Hid (∀ i, i < n → 0 ≤ f i ∧ f i < 256) := hf
  have H34 : Hid (f p = 34) := h34
  obtain ⟨ln, hln⟩ : ∃ ln, ln = n - p := ⟨_, rfl⟩
  rw [← hln] at hnc ⊢
  have HLN : Hid (ln = n - p) := hln
  have hl1 : 1 ≤ ln := by omega
  have hl2 : ln ≤ 2000 := by omega
  clear hc hf h34 hln
  go_enter Try.func131, Try.ntmps131
  go_wp2
  go_loopw [5, 6] (fun u v wr => ∃ (t : Nat) (q : List Int), v = .int .i64 (t : Int) ∧ 1 ≤ t ∧ t ≤ ln ∧ quoF f n (p + 1) [] = quoF f n (p + t) q ∧ q.length ≤ t ∧ TxA wr w.heap.size u q.length q ∧ Below w.heap.size w wr) (fun _ v _ => ln - (intOf v).toNat)
  case atStart => exact ⟨1, [], rfl, Nat.le_refl _, hl1, rfl, Nat.zero_le _, ⟨rfl, .inl ⟨rfl, .inl ⟨rfl, rfl⟩⟩⟩, Below.refl _ _⟩
  case round =>
    obtain ⟨t, q, rfl, ht1, htl, hq, hql, hown, hbel⟩ := hrel
    have hsz := hbel.size
    have HB : Hid (Below w.heap.size w wr) := hbel
    have HO : Hid (TxA wr w.heap.size u5 q.length q ∧ quoF f n (p + 1) [] = quoF f n (p + t) q) := ⟨hown, hq⟩
    clear hown hbel hq
    have HCW : Hid (∀ W, Below w.heap.size w W → ∀ k, p + k < n → W.cell? ⟨b, off + k, none⟩ = some (.int .u8 (f (p + k)))) := fun W hW k hk => by
      rw [hW.cell (p := ⟨b, off + k, none⟩) (World.block_lt_of_cell? _ _ (HC.out k hk))]; exact HC.out k hk
    have END : Hid (∀ q', quoF f n (p + 1) [] = q' → tkA f n p = match q' with | none => ⟨0, [], p⟩ | some qk => ⟨14, qk.1, qk.2⟩) := fun q' e => by
      subst e
      cases e : quoF f n (p + 1) [] with
      | none => exact tkA_quo0 hp H34.out e
      | some qk => exact tkA_quo hp H34.out e
    by_cases hlt : t < ln
    · have it : (t : Int) < (ln : Int) := by omega
      have it0 : ¬ (t : Int) < 0 := by omega
      have it1 : (0 : Int) ≤ (t : Int) := by omega
      have htn : p + t < n := by have := HLN.out; omega
      have ct := HCW.out wr HB.out t htn
      obtain ⟨x, hx⟩ : ∃ x, x = f (p + t) := ⟨_, rfl⟩
      have HX : Hid (x = f (p + t)) := hx
      rw [← hx] at ct
      clear hx
      by_cases h34 : x = 34
      · subst h34
        obtain ⟨aq, cq, hu, hrd, _⟩ := HO.out.1.rd
        have HE : Hid (tkA f n p = if 1 ≤ q.length ∧ q.length ≤ 30 then ⟨14, q, p + t + 1⟩ else ⟨0, [], p⟩) := by
          show _ = _
          rw [END.out _ rfl, HO.out.2, quoF_end (by omega) (by rw [← HX.out]; exact fun e => e.2 rfl)]
          by_cases h : 1 ≤ q.length ∧ q.length ≤ 30
          · rw [if_pos ⟨htn, h⟩, if_pos h]
          · rw [if_neg (fun e => h e.2), if_neg h]
        have cv1 := conv_T (w := wr) q.length cq rfl hrd
        have cv2 : ∀ k, (convert 33 9 (.slice aq q.length cq)).run Try.prog (wr.drewN k) = .ok (.string (strT q)) (wr.drewN k) := fun k => conv_T (w := wr.drewN k) q.length cq rfl hrd
        have HTX : Hid (∀ W, Calls Try.prog 124 #[.string (strT q)] W fun e w' => e = .returned (.bool (decide (1 ≤ q.length ∧ q.length ≤ 30))) ∧ w' = W) := fun W => by
          rw [← txS_T]
          exact isTxt_any _ W
        have HSS : Hid (∃ Y, Y = strT q) := ⟨_, rfl⟩
        obtain ⟨Y, hY⟩ := HSS.out
        have HYY : Hid (Y = strT q) := hY
        rw [← hY] at cv1 cv2 HTX
        clear hrd hY HSS
        obtain rfl : u5 = .slice aq q.length cq := hu
        obtain ⟨N, hN⟩ : ∃ N, N = q.length := ⟨_, rfl⟩
        have HN : Hid (N = q.length) := hN
        rw [← hN] at cv1 cv2 ⊢
        clear hN
        have itn : ((t : Int) == (ln : Int)) = false := by simp; omega
        have itn' : ¬ (t : Int) = (ln : Int) := by omega
        have itn'' : ¬ t = ln := by omega
        have e1 : IntKind.i64.wrap ((t : Int) + 1) = (t : Int) + 1 := by rw [IntKind.wrap_i64]; omega
        go_wp2_with fail
        refine (HTX.out _).mono ?_
        rintro e w8 ⟨rfl, hw8⟩
        rw [hw8]
        clear hw8 w8
        by_cases h : 1 ≤ q.length ∧ q.length ≤ 30
        · rw [decide_eq_true h]
          have HE2 : Hid (tkA f n p = ⟨14, q, p + t + 1⟩) := by show _ = _; rw [HE.out, if_pos h]
          clear h
          go_wp2_with fail
          go_quiet (fail)
          go_wp2
          refine bodyPost_ret (v := .tuple #[.string { data := #[83, 84, 82] }, .string Y, .int .i64 ((t : Int) + 1)]) (by simp [results, Try.results131, go_sem]) rfl ⟨?_, below_drewN HB.out _⟩
          rw [HE2.out, HYY.out]
          unfold tokV
          rw [show p + t + 1 - p = t + 1 by omega]
          rfl
        · rw [decide_eq_false h]
          have HE2 : Hid (tkA f n p = ⟨0, [], p⟩) := by show _ = _; rw [HE.out, if_neg h]
          clear h
          go_wp2
          refine bodyPost_ret (v := .tuple #[.string { data := #[110, 111, 110, 101] }, .string { data := #[] }, .int .i64 0]) (by simp [results, Try.results131, go_sem]) rfl (TRet.none HE2.out HB.out)
      have n34 : (x == 34) = false := by simp [h34]
      have HQ : Hid (∀ W, Below w.heap.size w W → Calls Try.prog 148 #[.slice (some ⟨b, off + t, none⟩) (ln - t) (c - t)] W fun e w' => e = .returned (.tuple #[.int .u8 (pcO f n (p + t)).1, .int .i64 ((pcO f n (p + t)).2 : Int)]) ∧ w' = W) := fun W hW => by
        have := readQuoted_any b (off + t) (c - t) n (p + t) f W htn hn (fun k hk => by rw [Nat.add_assoc, Nat.add_assoc]; exact HCW.out W hW (t + k) (by omega)) HFB.out
        rw [show n - (p + t) = ln - t by have := HLN.out; omega] at this
        exact this
      have sl := run_fr b off ln c t hlt hnc hcm
      obtain ⟨lt, hlt'⟩ : ∃ lt, lt = ln - t := ⟨_, rfl⟩
      obtain ⟨cp, hcp⟩ : ∃ cp, cp = c - t := ⟨_, rfl⟩
      rw [← hlt', ← hcp] at HQ sl
      clear hlt' hcp
      go_wp2_with fail
      refine (HQ.out _ HB.out).mono ?_
      rintro e w8 ⟨rfl, hw8⟩
      rw [hw8]
      clear hw8 w8 HQ
      cases hpc : pcB f n (p + t) with
      | none =>
        have HE2 : Hid (tkA f n p = ⟨0, [], p⟩) := by show _ = _; rw [END.out _ rfl, HO.out.2, quoF_bad htn (by rw [← HX.out]; exact h34) hpc]
        have e0 : (pcO f n (p + t)).1 = 0 ∧ (pcO f n (p + t)).2 = 0 := by unfold pcO; rw [hpc]; exact ⟨rfl, rfl⟩
        rw [e0.1, e0.2]
        clear hpc e0
        go_wp2
        refine bodyPost_ret (v := .tuple #[.string { data := #[110, 111, 110, 101] }, .string { data := #[] }, .int .i64 0]) (by simp [results, Try.results131, go_sem]) rfl (TRet.none HE2.out HB.out)
      | some cl =>
        obtain ⟨y, l⟩ := cl
        have hpos := pcB_pos hpc htn
        have HGO : Hid (quoF f n (p + 1) [] = quoF f n (p + t + l) (q ++ [y])) := by show _ = _; rw [HO.out.2]; exact quoF_go htn (by rw [← HX.out]; exact h34) hpc
        have e0 : (pcO f n (p + t)).1 = y ∧ (pcO f n (p + t)).2 = l := by unfold pcO; rw [hpc]; exact ⟨rfl, rfl⟩
        rw [e0.1, e0.2]
        obtain ⟨t2, ht2⟩ : ∃ t2, t2 = t + l := ⟨_, rfl⟩
        have HT2 : Hid (t2 = t + l) := ht2
        have e2 : IntKind.i64.wrap ((t : Int) + (l : Int)) = (t2 : Int) := by rw [IntKind.wrap_i64]; omega
        have HL0 : Hid (0 < l ∧ p + t + l ≤ n) := hpos
        have l0 : ((l : Int) == 0) = false := by simp; omega
        have l0' : ¬ (l : Int) = 0 := by omega
        have l0'' : ¬ l = 0 := by omega
        clear hpc e0 ht2 hpos
        go_wp2_with (at_builtin; refine app_b rfl _ _ rfl w.heap.size _ q.length q rfl (HO.out.1.below (below_alloc _ _)) ⟨wr.heap.size, 0, none⟩ 1 1 [y] rfl rfl (by omega) (new_cells _ [.int .u8 y] _) (by omega) (by simp; omega) ?_)
        intro v' wq hown' hgrow
        have HX2 : Hid (TxA wq w.heap.size v' (q.length + 1) (q ++ [y]) ∧ Below w.heap.size w wq) := ⟨hown', (HB.out.alloc hsz _).trans hgrow⟩
        clear hown' hgrow
        go_wp2
        go_roundw
        case rel =>
          have h1 := HL0.out
          have h2 := HT2.out
          have h3 := HLN.out
          refine ⟨t2, q ++ [y], rfl, by omega, by omega, ?_, by rw [List.length_append, List.length_singleton]; omega, ?_, HX2.out.2⟩
          · rw [HGO.out, h2, Nat.add_assoc]
          · rw [List.length_append]
            exact HX2.out.1
        case measure => have := HT2.out; have := HL0.out; simp [intOf]; omega
    have it : ¬ (t : Int) < (ln : Int) := by omega
    have HTE : Hid (t = ln) := by show _ = _; omega
    have HE2 : Hid (tkA f n p = ⟨0, [], p⟩) := by
      show _ = _
      have h1 := HTE.out
      have h2 := HLN.out
      rw [END.out _ rfl, HO.out.2, quoF_end (by omega) (fun e => by omega), if_neg (by omega)]
    have itn : ((t : Int) == (ln : Int)) = true := by simp; omega
    clear htl hlt
    have et : (ln : Int) = (t : Int) := by have := HTE.out; omega
    go_wp2
    refine bodyPost_ret (v := .tuple #[.string { data := #[110, 111, 110, 101] }, .string { data := #[] }, .int .i64 0]) (by simp [results, Try.results131, go_sem]) rfl (TRet.none HE2.out HB.out)
end Go.Proofs.Ytocmbnocdjnfpaa
