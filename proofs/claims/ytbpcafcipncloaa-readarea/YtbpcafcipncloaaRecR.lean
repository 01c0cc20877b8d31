import Derived.Test.YtbpcafcipncloaaRecP
import Derived.Test.YtbpcafcipncloaaSpP
import Derived.Test.YtbpcafcipncloaaDevG
namespace Go.Proofs.Ytbpcafcipncloaa
open Go.RowKit Go.Deep
set_option linter.unusedVariables false
set_option maxRecDepth 100000

def recLz (G : Nat → Nat → Int) (i : Nat) : Nat := (getN (G i) 8 2).toNat
def recFz (G : Nat → Nat → Int) (i j : Nat) : Int := G i (12 + j)
/-- Whether the sectors G 0, G 1 .. hold a record, r of them being there. -/
def recOk (G : Nat → Nat → Int) (r : Int) (seq : Int) : Prop := 1 ≤ getN (G 0) 6 2 ∧ getN (G 0) 6 2 ≤ 625 ∧ getN (G 0) 6 2 ≤ r ∧ ∀ i : Nat, (i : Int) < getN (G 0) 6 2 → pieceB (G i) seq i (getN (G 0) 6 2) = true
/-- What reading a record answers. -/
def RecRet (w : World) (e : Ending) (w' : World) (G : Nat → Nat → Int) (r : Int) (seq : Int) : Prop := Below w.heap.size w w' ∧
  ((recOk G r seq ∧ ∃ a c, e = .returned (.agg #[.bool true, .slice a (catL (recLz G) (getN (G 0) 6 2).toNat) c, .int .i64 (getN (G 0) 6 2)]) ∧ OwnB w' w.heap.size a (catL (recLz G) (getN (G 0) 6 2).toNat) (catF (recLz G) (recFz G) (getN (G 0) 6 2).toNat) ∧ catL (recLz G) (getN (G 0) 6 2).toNat ≤ c ∧ c ≤ 9223372036854775807) ∨
    (¬ recOk G r seq ∧ e = .returned (.agg #[.bool false, .slice none 0 0, .int .i64 0])))

theorem piece_len {G : Nat → Nat → Int} {seq : Int} {x : Nat} {K : Int} (h : pieceB (G x) seq x K = true) : recLz G x ≤ 48 := by
  unfold pieceB at h
  simp only [Bool.and_eq_true, decide_eq_true_eq] at h
  unfold recLz
  omega
theorem catL_le {G : Nat → Nat → Int} {seq : Int} {K : Nat} : ∀ (j : Nat), (∀ x : Nat, x < j → pieceB (G x) seq x (K : Int) = true) → catL (recLz G) j ≤ 48 * j
  | 0, _ => Nat.le_refl _
  | j + 1, h => by
    have h1 := catL_le j (fun x hx => h x (by omega))
    have h2 := piece_len (h j (by omega))
    show catL (recLz G) j + recLz G j ≤ _
    omega
theorem owns_belowR {w w' : World} {B : Nat} {e : TypeId} {z : Nat} {v : Value} {k : Nat} {xs : List Value} (h : w.ownsRow B e z v k xs) (hb : Below w.heap.size w w') : w'.ownsRow B e z v k xs := by
  refine ⟨h.1, ?_⟩
  rcases h.2 with h2 | ⟨g, cap, cur, hv, hg, hh, r⟩
  · exact Or.inl h2
  · exact Or.inr ⟨g, cap, cur, hv, hg, (hb.block g (Array.getElem?_eq_some_iff.1 hh).1).trans hh, r⟩

set_option maxHeartbeats 400000 in
theorem recMax_any (w : World) : Calls Try.prog 9 #[.int .i64 30000] w fun e w' => e = .returned (.int .i64 625) ∧ w' = w := by
  go_enter Try.func9, Try.ntmps9
  go_wp2
  go_ret
  exact ⟨rfl, rfl⟩

set_option maxHeartbeats 2000000 in
theorem readRec_any (a p : Option Addr) (n c m q : Nat) (d S : Nat → Int) (L : Nat → Nat) (F : Nat → Nat → Int) (fuel : Int) (dead : Bool) (s : Nat) (seq : Int) (w : World) (ha : Rd .u8 w a n d) (hp : RdP w p m S L F) (hv : VD n m S L fuel) (hs : s < n / 64) (hn : n ≤ 1048576) (hnc : n ≤ c) (hcm : c ≤ 9223372036854775807) (hm : m ≤ 1048576) (hr : ∀ s i, i < 64 → 0 ≤ secF d S F m s i ∧ secF d S F m s i < 256) :
    Calls Try.prog 44 #[.agg #[.slice a n c, .slice p m q, .int .i64 fuel, .bool dead], .int .i64 s, .int .i64 seq] w fun e w' => RecRet w e w' (fun i => secF d S F m (s + i)) ((n : Int) / 64 - s) seq := by
  obtain ⟨G, hG⟩ : ∃ G : Nat → Nat → Int, G = fun i => secF d S F m (s + i) := ⟨_, rfl⟩
  rw [← hG]
  have HG : Hid (∀ i, G i = secF d S F m (s + i)) := fun i => by rw [hG]
  clear hG
  have HA : Hid (Rd .u8 w a n d) := ha
  have HP : Hid (RdP w p m S L F) := hp
  have HV : Hid (VD n m S L fuel) := hv
  have HR : Hid (∀ s i, i < 64 → 0 ≤ secF d S F m s i ∧ secF d S F m s i < 256) := hr
  have HFIN : Hid (∀ W : World, Below (w.heap.size + 2) ((w.alloc (.cells #[.slice a n c, .slice p m q, .int .i64 fuel, .bool dead] 39)).alloc (.cells #[.bool false, .slice none 0 0, .int .i64 0] 35)) W → Below w.heap.size w W) := fun W h => ((below_alloc _ _).trans ((below_alloc _ _).mono (by simp))).trans (h.mono (by omega))
  have HE2 : Hid (∀ o1 o2, ((w.alloc o1).alloc o2).heap.size = w.heap.size + 2) := fun _ _ => by simp
  have HSEC : Hid ((0 : Int) ≤ (s : Int) ∧ (s : Int) < (n : Int) / 64) := ⟨by omega, by omega⟩
  have HVH : Hid (n / 64 ≤ 1024) := hv.1.2.2.1
  have hnn := HVH.out
  clear ha hp hv hr
  go_enter Try.func44, Try.ntmps44
  go_wp2_with fail
  refine (hasSector_any a p n c m q fuel dead s _ hn).mono ?_
  rintro e w1 ⟨h1, hb1⟩
  have := ans_true' h1 HSEC.out
  subst this
  rw [HE2.out] at hb1
  have K1 : Hid (Below (w.heap.size + 2) ((w.alloc (.cells #[.slice a n c, .slice p m q, .int .i64 fuel, .bool dead] 39)).alloc (.cells #[.bool false, .slice none 0 0, .int .i64 0] 35)) w1) := hb1
  have z1 : w.heap.size + 2 ≤ w1.heap.size := by have := hb1.size; rw [HE2.out] at this; exact this
  have hc1 : ∀ b o, b < w.heap.size + 2 → w1.cell? ⟨b, o, none⟩ = _ := fun b o hb => K1.out.cell (p := ⟨b, o, none⟩) hb
  clear hb1 h1
  go_wp2_with fail
  refine (loadSector_any a p n c m q d S L F fuel dead s w1 (HA.out.below (HFIN.out _ K1.out)) (HP.out.below (HFIN.out _ K1.out)) HV.out hs hn hnc hcm hm).mono ?_
  rintro e w2 ⟨rfl, hb2⟩
  have hG0 : secF d S F m s = G 0 := (HG.out 0).symm
  rw [hG0]
  clear hG0
  have HRG : Hid (∀ i j, j < 64 → 0 ≤ G i j ∧ G i j < 256) := fun i j hj => by rw [HG.out]; exact HR.out _ j hj
  have z2 := hb2.size
  have B2 : Hid (Below w1.heap.size w1 w2) := hb2
  clear hb2 hc1
  go_wp2_with (first | (with_reducible refine wpList_alloc_sec ?_) | ((with_reducible refine wpList_store_sec w2.heap.size (fun _ => 0) (G 0) ?_ ?_ (Sec.new w2 _) ?_); rfl; rfl))
  intro w3 hs3 ho3
  have B3 : Below w2.heap.size w2 w3 := (below_alloc _ _).trans (ho3.below (fun y e => by injection e with e; subst e; exact Nat.le_refl _))
  have z3 := B3.size
  have K3 : Hid (Below (w.heap.size + 2) ((w.alloc (.cells #[.slice a n c, .slice p m q, .int .i64 fuel, .bool dead] 39)).alloc (.cells #[.bool false, .slice none 0 0, .int .i64 0] 35)) w3) := (K1.out.trans (B2.out.mono z1)).trans (B3.mono (by omega))
  have S3 : Hid (Sec w3 w2.heap.size (G 0)) := hs3
  clear hs3 ho3 B3
  go_wp2_with fail
  refine (number_any w2.heap.size 6 2 (G 0) w3 S3.out (HRG.out 0) (by omega) (by omega) (by omega)).mono ?_
  rintro e w4 ⟨rfl, hw⟩
  subst hw
  have hkr := getN_range (G 0) 6 2 (fun i hi => HRG.out 0 (6 + i) (by omega))
  have hk0 := hkr.1
  have hk1 : getN (G 0) 6 2 < 65536 := by have := hkr.2; simpa using this
  obtain ⟨K, hK⟩ := Int.eq_ofNat_of_zero_le hk0
  have HOK : Hid (recOk G ((n : Int) / 64 - s) seq ↔ 1 ≤ (K : Int) ∧ (K : Int) ≤ 625 ∧ (K : Int) ≤ (n : Int) / 64 - s ∧ ∀ i : Nat, (i : Int) < (K : Int) → pieceB (G i) seq i (K : Int) = true) := by
    show _ ↔ _
    unfold recOk
    rw [hK]
  have HK : Hid (getN (G 0) 6 2 = (K : Int)) := hK
  have hk2 : K < 65536 := by omega
  rw [hK]
  clear hk0 hk1 hK
  clear hkr
  have hc4 : ∀ b o, b < w.heap.size + 2 → w4.cell? ⟨b, o, none⟩ = _ := fun b o hb => K3.out.cell (p := ⟨b, o, none⟩) hb
  by_cases c1 : (K : Int) < 1
  · have HNO : Hid (¬ recOk G ((n : Int) / 64 - s) seq) := fun h => by have := HOK.out.1 h; omega
    have KB : Hid (Below (w.heap.size + 2) ((w.alloc (.cells #[.slice a n c, .slice p m q, .int .i64 fuel, .bool dead] 39)).alloc (.cells #[.bool false, .slice none 0 0, .int .i64 0] 35)) w4) := K3.out
    clear hc4
    have hc9 : ∀ b o, b < w.heap.size + 2 → w4.cell? ⟨b, o, none⟩ = _ := fun b o hb => KB.out.cell (p := ⟨b, o, none⟩) hb
    have hf9 : ∀ b o, b < w.heap.size + 2 → w4.frozen? ⟨b, o, none⟩ = _ := fun b o hb => KB.out.frozen (p := ⟨b, o, none⟩) hb
    have hz9 : w.heap.size + 1 < w4.heap.size := by have := KB.out.size; rw [HE2.out] at this; omega
    have HBB : Hid (Below w.heap.size w w4) := HFIN.out _ KB.out
    go_wp2
    refine bodyPost_ret (v := .agg #[.bool false, .slice none 0 0, .int .i64 0]) (by simp [results, Try.results44, go_sem, hc9]) rfl ⟨?_, Or.inr ⟨HNO.out, rfl⟩⟩
    exact (((HBB.out.setCell (by simp; try omega) _).setCell (by simp; try omega) _).setCell (by simp; try omega) _)
  have c1' : decide ((K : Int) < 1) = false := decide_eq_false c1
  go_wp2_with fail
  refine (recMax_any w4).mono ?_
  rintro e w5 ⟨rfl, hw⟩
  subst hw
  by_cases c2 : (625 : Int) < (K : Int)
  · have HNO : Hid (¬ recOk G ((n : Int) / 64 - s) seq) := fun h => by have := HOK.out.1 h; omega
    have KB : Hid (Below (w.heap.size + 2) ((w.alloc (.cells #[.slice a n c, .slice p m q, .int .i64 fuel, .bool dead] 39)).alloc (.cells #[.bool false, .slice none 0 0, .int .i64 0] 35)) w5) := K3.out
    clear hc4
    have hc9 : ∀ b o, b < w.heap.size + 2 → w5.cell? ⟨b, o, none⟩ = _ := fun b o hb => KB.out.cell (p := ⟨b, o, none⟩) hb
    have hf9 : ∀ b o, b < w.heap.size + 2 → w5.frozen? ⟨b, o, none⟩ = _ := fun b o hb => KB.out.frozen (p := ⟨b, o, none⟩) hb
    have hz9 : w.heap.size + 1 < w5.heap.size := by have := KB.out.size; rw [HE2.out] at this; omega
    have HBB : Hid (Below w.heap.size w w5) := HFIN.out _ KB.out
    go_wp2
    refine bodyPost_ret (v := .agg #[.bool false, .slice none 0 0, .int .i64 0]) (by simp [results, Try.results44, go_sem, hc9]) rfl ⟨?_, Or.inr ⟨HNO.out, rfl⟩⟩
    exact (((HBB.out.setCell (by simp; try omega) _).setCell (by simp; try omega) _).setCell (by simp; try omega) _)
  have c2' : decide ((625 : Int) < (K : Int)) = false := decide_eq_false c2
  go_wp2_with fail
  refine (sectorCount_any a p n c m q fuel dead w5 hn).mono ?_
  rintro e w6 ⟨rfl, hb6⟩
  have z6 := hb6.size
  have K6 : Hid (Below (w.heap.size + 2) ((w.alloc (.cells #[.slice a n c, .slice p m q, .int .i64 fuel, .bool dead] 39)).alloc (.cells #[.bool false, .slice none 0 0, .int .i64 0] 35)) w6) := K3.out.trans (hb6.mono (by omega))
  clear hb6 hc4 S3 K3
  by_cases c3 : (n : Int) / 64 - s < (K : Int)
  · have HNO : Hid (¬ recOk G ((n : Int) / 64 - s) seq) := fun h => by have := HOK.out.1 h; omega
    have KB : Hid (Below (w.heap.size + 2) ((w.alloc (.cells #[.slice a n c, .slice p m q, .int .i64 fuel, .bool dead] 39)).alloc (.cells #[.bool false, .slice none 0 0, .int .i64 0] 35)) w6) := K6.out
    have hc9 : ∀ b o, b < w.heap.size + 2 → w6.cell? ⟨b, o, none⟩ = _ := fun b o hb => KB.out.cell (p := ⟨b, o, none⟩) hb
    have hf9 : ∀ b o, b < w.heap.size + 2 → w6.frozen? ⟨b, o, none⟩ = _ := fun b o hb => KB.out.frozen (p := ⟨b, o, none⟩) hb
    have hz9 : w.heap.size + 1 < w6.heap.size := by have := KB.out.size; rw [HE2.out] at this; omega
    have HBB : Hid (Below w.heap.size w w6) := HFIN.out _ KB.out
    go_wp2
    refine bodyPost_ret (v := .agg #[.bool false, .slice none 0 0, .int .i64 0]) (by simp [results, Try.results44, go_sem, hc9]) rfl ⟨?_, Or.inr ⟨HNO.out, rfl⟩⟩
    exact (((HBB.out.setCell (by simp; try omega) _).setCell (by simp; try omega) _).setCell (by simp; try omega) _)
  have hz6 : w.heap.size + 2 ≤ w6.heap.size := by omega
  have hKs : s + K ≤ n / 64 := by omega
  have hK6 : K ≤ 625 := by omega
  go_wp2
  go_loopw [9, 10, 11, 12, 39] (fun u _ _ _ i wr => ∃ j : Nat, j ≤ K ∧ i = .int .i64 j ∧ (∀ x : Nat, x < j → pieceB (G x) seq x (K : Int) = true) ∧ wr.ownsRow (w.heap.size + 2) 5 1 u (catL (recLz G) j) (byteRow (catF (recLz G) (recFz G) j) (catL (recLz G) j)) ∧ Below (w.heap.size + 2) ((w.alloc (.cells #[.slice a n c, .slice p m q, .int .i64 fuel, .bool dead] 39)).alloc (.cells #[.bool false, .slice none 0 0, .int .i64 0] 35)) wr) (fun _ _ _ _ i _ => K - (intOf i).toNat)
  case atStart => exact ⟨0, Nat.zero_le _, rfl, fun x hx => absurd hx (Nat.not_lt_zero _), World.ownsRow_nil _ _ _ _, K6.out⟩
  case round =>
    obtain ⟨j, hj, rfl, hpc, hown, hbel⟩ := hrel
    have HPC : Hid (∀ x : Nat, x < j → pieceB (G x) seq x (K : Int) = true) := hpc
    have HO : Hid (wr.ownsRow (w.heap.size + 2) 5 1 u9 (catL (recLz G) j) (byteRow (catF (recLz G) (recFz G) j) (catL (recLz G) j))) := hown
    have KW : Hid (Below (w.heap.size + 2) ((w.alloc (.cells #[.slice a n c, .slice p m q, .int .i64 fuel, .bool dead] 39)).alloc (.cells #[.bool false, .slice none 0 0, .int .i64 0] 35)) wr) := hbel
    have hcat := catL_le (G := G) (seq := seq) (K := K) j hpc
    have hsz : w.heap.size + 2 ≤ wr.heap.size := by have := hbel.size; rw [HE2.out] at this; exact this
    clear hpc hown hbel
    have hcw : ∀ b o, b < w.heap.size + 2 → wr.cell? ⟨b, o, none⟩ = _ := fun b o hb => KW.out.cell (p := ⟨b, o, none⟩) hb
    by_cases hlt : j < K
    · go_wp2_with fail
      rw [show ((s : Int) + (j : Int)) = ((s + j : Nat) : Int) from by simp]
      refine (loadSector_any a p n c m q d S L F fuel dead (s + j) wr (HA.out.below (HFIN.out _ KW.out)) (HP.out.below (HFIN.out _ KW.out)) HV.out (by omega) hn hnc hcm hm).mono ?_
      rintro e w7 ⟨rfl, hb7⟩
      rw [← HG.out j]
      have z7 := hb7.size
      have B7 : Hid (Below wr.heap.size wr w7) := hb7
      clear hb7 hcw
      go_wp2_with fail
      refine (readPiece_any (G j) seq j (K : Int) w7 (HRG.out j) (by omega) (by omega)).mono ?_
      rintro e w8 ⟨hb8, ⟨hpt, rfl, hs8⟩ | ⟨hpf, rfl⟩⟩
      · have z8 := hb8.size
        have O8 : Hid (w8.ownsRow (w.heap.size + 2) 5 1 u9 (catL (recLz G) j) (byteRow (catF (recLz G) (recFz G) j) (catL (recLz G) j))) := owns_belowR HO.out (B7.out.trans (hb8.mono z7))
        have K8 : Hid (Below (w.heap.size + 2) ((w.alloc (.cells #[.slice a n c, .slice p m q, .int .i64 fuel, .bool dead] 39)).alloc (.cells #[.bool false, .slice none 0 0, .int .i64 0] 35)) w8) := (KW.out.trans (B7.out.mono hsz)).trans (hb8.mono (by omega))
        have R8 : Hid (Rd .u8 w8 (some ⟨w7.heap.size, 12, none⟩) (recLz G j) (recFz G j)) := hs8.rd 12 (recLz G j) (by have := piece_len hpt; omega)
        have hlz := piece_len hpt
        have HPT : Hid (pieceB (G j) seq j (K : Int) = true) := hpt
        have hz8 : w.heap.size + 2 ≤ w8.heap.size := by omega
        have hlz' : (getN (G j) 8 2).toNat = recLz G j := rfl
        rw [hlz']
        clear hlz' hpt hs8 hb8 HO B7 KW
        go_wp2_with (at_builtin; refine wpList_append_rd rfl _ _ rfl (w.heap.size + 2) _ (catL (recLz G) j) (byteRow (catF (recLz G) (recFz G) j) (catL (recLz G) j)) rfl O8.out _ (recLz G j) _ (recFz G j) rfl R8.out (by omega) hz8 ?_)
        intro v' w9 hown' hgrow
        have HX : Hid (w9.ownsRow (w.heap.size + 2) 5 1 v' (catL (recLz G) (j + 1)) (byteRow (catF (recLz G) (recFz G) (j + 1)) (catL (recLz G) (j + 1))) ∧ Below (w.heap.size + 2) ((w.alloc (.cells #[.slice a n c, .slice p m q, .int .i64 fuel, .bool dead] 39)).alloc (.cells #[.bool false, .slice none 0 0, .int .i64 0] 35)) w9) :=
          ⟨by show w9.ownsRow (w.heap.size + 2) 5 1 v' (catL (recLz G) j + recLz G j) (byteRow (fun x => if x < catL (recLz G) j then catF (recLz G) (recFz G) j x else recFz G j (x - catL (recLz G) j)) (catL (recLz G) j + recLz G j)); rw [← byteRow_cat]; exact hown', K8.out.grown hgrow hz8 (fun b e => (O8.out.lt b e).1)⟩
        have HPN : Hid (∀ x : Nat, x < j + 1 → pieceB (G x) seq x (K : Int) = true) := fun x hx => by
          by_cases e : x = j
          · subst e; exact HPT.out
          · exact HPC.out x (by omega)
        clear hown' hgrow O8 K8 R8
        go_wp2
        go_roundw
        case rel => exact ⟨j + 1, by omega, by go_num, HPN.out, HX.out⟩
        case measure => simp [intOf]; omega
      · have HNO : Hid (¬ recOk G ((n : Int) / 64 - s) seq) := fun h => by
          have := (HOK.out.1 h).2.2.2 j (by omega)
          rw [hpf] at this
          cases this
        have KB : Hid (Below (w.heap.size + 2) ((w.alloc (.cells #[.slice a n c, .slice p m q, .int .i64 fuel, .bool dead] 39)).alloc (.cells #[.bool false, .slice none 0 0, .int .i64 0] 35)) w8) := (KW.out.trans (B7.out.mono hsz)).trans (hb8.mono (by omega))
        clear hb8 hpf
        have hc9 : ∀ b o, b < w.heap.size + 2 → w8.cell? ⟨b, o, none⟩ = _ := fun b o hb => KB.out.cell (p := ⟨b, o, none⟩) hb
        have hf9 : ∀ b o, b < w.heap.size + 2 → w8.frozen? ⟨b, o, none⟩ = _ := fun b o hb => KB.out.frozen (p := ⟨b, o, none⟩) hb
        have hz9 : w.heap.size + 1 < w8.heap.size := by have := KB.out.size; rw [HE2.out] at this; omega
        have HBB : Hid (Below w.heap.size w w8) := HFIN.out _ KB.out
        go_wp2
        refine bodyPost_ret (v := .agg #[.bool false, .slice none 0 0, .int .i64 0]) (by simp [results, Try.results44, go_sem, hc9]) rfl ⟨?_, Or.inr ⟨HNO.out, rfl⟩⟩
        exact (((HBB.out.setCell (by simp; try omega) _).setCell (by simp; try omega) _).setCell (by simp; try omega) _)
    · have e : j = K := by omega
      subst e
      obtain ⟨a9, c9, hvv, h1, h2, h3⟩ := ownB_ofRow HO.out
      subst hvv
      have HY : Hid (recOk G ((n : Int) / 64 - s) seq) := HOK.out.2 ⟨by omega, by omega, by omega, fun i hi => HPC.out i (by omega)⟩
      have HE : Hid (OwnB wr (w.heap.size + 2) a9 (catL (recLz G) j) (catF (recLz G) (recFz G) j)) := h1
      have hfw : ∀ b o, b < w.heap.size + 2 → wr.frozen? ⟨b, o, none⟩ = _ := fun b o hb => KW.out.frozen (p := ⟨b, o, none⟩) hb
      have HBB : Hid (Below w.heap.size w wr) := HFIN.out _ KW.out
      have hzw : w.heap.size + 1 < wr.heap.size := by omega
      clear h1 HO
      go_wp2
      refine bodyPost_ret (v := .agg #[.bool true, .slice a9 (catL (recLz G) j) c9, .int .i64 j]) (by simp [results, Try.results44, go_sem, hcw]) rfl ⟨?_, Or.inl ⟨HY.out, a9, c9, ?_, ?_, ?_, h3⟩⟩
      · exact (((HBB.out.setCell (by simp; try omega) _).setCell (by simp; try omega) _).setCell (by simp; try omega) _)
      · rw [HK.out]; simp
      · rw [HK.out]; simp only [Int.toNat_natCast]; exact (((HE.out.setOther (by simp) _).setOther (by simp) _).setOther (by simp) _).mono (by omega)
      · rw [HK.out]; simpa using h2
end Go.Proofs.Ytbpcafcipncloaa
