import Derived.Test.YtocmbnocdjnfpaaNk6
import Derived.Test.YtocmbnocdjnfpaaNk2
import Derived.Deep.CutRange
import Derived.Test.YtocmbnocdjnfpaaNk1
namespace Go.Proofs.Ytocmbnocdjnfpaa
open Go.RowKit Go.Deep
set_option linter.unusedVariables false
set_option maxRecDepth 100000

/-- A path's nodes, as a list. -/
def nd1 (I : Nat → Int) (X R : Nat → ByteArray) (i : Nat) : Nd := ⟨(I i).toNat, bl (X i), bl (R i)⟩
def ndS (I : Nat → Int) (X R : Nat → ByteArray) (base len : Nat) : List Nd := (List.range len).map (fun j => nd1 I X R (base + j))
theorem ndS_len (I : Nat → Int) (X R : Nat → ByteArray) (base len : Nat) : (ndS I X R base len).length = len := by simp [ndS]
theorem ndS_add (I : Nat → Int) (X R : Nat → ByteArray) (base a b : Nat) : ndS I X R base (a + b) = ndS I X R base a ++ ndS I X R (base + a) b := by
  unfold ndS
  rw [List.range_add, List.map_append, List.map_map]
  congr 1
  apply List.map_congr_left
  intro j _
  simp only [Function.comp]
  rw [Nat.add_assoc]
theorem ndS_one (I : Nat → Int) (X R : Nat → ByteArray) (base : Nat) : ndS I X R base 1 = [nd1 I X R base] := rfl
theorem ndS_succ (I : Nat → Int) (X R : Nat → ByteArray) (base m : Nat) : ndS I X R base (m + 1) = ndS I X R base m ++ [nd1 I X R (base + m)] := by rw [ndS_add, ndS_one]
theorem bl_nil {x : ByteArray} (h : emS x = true) : bl x = [] := by
  have := emS_yes h
  unfold bl
  rw [← ByteArray.toList_eq, this]
  rfl
theorem bl_txL {x : ByteArray} (h : txS x = true) : txL (bl x) := by
  unfold txS at h
  simp at h
  refine ⟨by rw [bl_length]; exact h.1, by rw [bl_length]; exact h.2, fun y hy => ?_⟩
  unfold bl at hy
  obtain ⟨b, _, rfl⟩ := List.mem_map.1 hy
  have := b.toNat_lt
  omega
/-- How strong a node's text is. -/
def lvI (k : Int) : Nat := if k = 6 then 2 else if k = 7 ∨ k = 8 then 1 else 3
theorem lvI_pos (k : Int) : 1 ≤ lvI k := by unfold lvI; split <;> (try split) <;> omega
theorem sB_cases (k : Int) : (sB k = 2 ∧ lvI k = 2) ∨ (sB k = 1 ∧ lvI k = 1) ∨ (sB k = 0 ∧ lvI k = 3) := by
  unfold sB lvI
  by_cases h6 : k = 6
  · rw [if_pos h6, if_pos h6]; exact .inl ⟨rfl, rfl⟩
  · rw [if_neg h6, if_neg h6]
    by_cases h7 : k = 7 ∨ k = 8
    · rw [if_pos h7, if_pos h7]; exact .inr (.inl ⟨rfl, rfl⟩)
    · rw [if_neg h7, if_neg h7]; exact .inr (.inr ⟨rfl, rfl⟩)
theorem lw_st (K : Int) (hK : K = 3 ∨ K = 4 ∨ K = 5) (kk : Int) : (if wrB K false (sB kk) = true then 3 else lvI kk) = 3 := by
  rcases sB_cases kk with ⟨e1, e2⟩ | ⟨e1, e2⟩ | ⟨e1, e2⟩ <;> rw [e1, e2] <;> rcases hK with rfl | rfl | rfl <;> rfl
theorem lw_and (kk : Int) : 2 ≤ (if wrB 6 false (sB kk) = true then 3 else lvI kk) := by
  rcases sB_cases kk with ⟨e1, e2⟩ | ⟨e1, e2⟩ | ⟨e1, e2⟩ <;> rw [e1, e2] <;> decide
theorem lw_and2 (kk : Int) : 3 ≤ (if wrB 6 true (sB kk) = true then 3 else lvI kk) := by
  rcases sB_cases kk with ⟨e1, e2⟩ | ⟨e1, e2⟩ | ⟨e1, e2⟩ <;> rw [e1, e2] <;> decide
theorem lw_or (K : Int) (hK : K = 7 ∨ K = 8) (kk : Int) : 1 ≤ (if wrB K false (sB kk) = true then 3 else lvI kk) := by
  rcases sB_cases kk with ⟨e1, e2⟩ | ⟨e1, e2⟩ | ⟨e1, e2⟩ <;> rw [e1, e2] <;> rcases hK with rfl | rfl <;> decide
theorem lw_or2 (K : Int) (hK : K = 7 ∨ K = 8) (kk : Int) : 2 ≤ (if wrB K true (sB kk) = true then 3 else lvI kk) := by
  rcases sB_cases kk with ⟨e1, e2⟩ | ⟨e1, e2⟩ | ⟨e1, e2⟩ <;> rw [e1, e2] <;> rcases hK with rfl | rfl <;> decide
theorem wr_graph (kk : Int) (x : List Int) : wrT 9 false kk x = x := by
  unfold wrT wrB
  rw [if_neg (by rw [if_pos (Or.inr rfl)]; decide)]

/-- A node, its operands' texts being told. -/
theorem gn_kind {f : Nat → Int} {n m : Nat} (hq : ∀ i, (tkF f n i).c = 14 → txL (tkF f n i).q) (hl : LastK (tkF f n) m) {k : Int} {s t : ByteArray} (hg : gnB k s t = true) {a0 a1 : List Int} {k0 k1 : Int} {d0 d1 : List Nd}
    (h0 : 1 ≤ arOf k → GNd f n m (lvI k0) a0 d0) (h1 : arOf k = 2 → GNd f n m (lvI k1) a1 d1) :
    GNd f n m (lvI k) (nodeT k s t a0 k0 a1 k1) ((if 1 ≤ arOf k then d0 else []) ++ (if arOf k = 2 then d1 else []) ++ [⟨k.toNat, bl s, bl t⟩]) := by
  have hk := (gn_good hg).1
  have h9 : k = 1 ∨ k = 2 ∨ k = 3 ∨ k = 4 ∨ k = 5 ∨ k = 6 ∨ k = 7 ∨ k = 8 ∨ k = 9 := by omega
  unfold gnB at hg
  rcases h9 with rfl | rfl | rfl | rfl | rfl | rfl | rfl | rfl | rfl
  · have hg' : (emS s && emS t) = true := hg
    simp only [Bool.and_eq_true] at hg'
    rw [bl_nil hg'.1, bl_nil hg'.2]
    exact gn_all hq hl
  · have hg' : (txS s && emS t) = true := hg
    simp only [Bool.and_eq_true] at hg'
    rw [bl_nil hg'.2]
    exact gn_v hq hl (bl_txL hg'.1)
  · have hg' : (txS s && emS t) = true := hg
    simp only [Bool.and_eq_true] at hg'
    rw [bl_nil hg'.2]
    have e : nodeT 3 s t a0 k0 a1 k1 = wrT 3 false k0 a0 ++ (46 :: ([111, 117, 116] ++ 40 :: (qL (bl s) ++ [41]))) := by simp [nodeT, nodeP]
    have hd : ((if 1 ≤ arOf 3 then d0 else []) ++ (if arOf 3 = 2 then d1 else []) ++ [⟨(3 : Int).toNat, bl s, []⟩]) = d0 ++ [⟨3, bl s, []⟩] := by
      rw [if_pos (by decide), if_neg (by decide)]; simp
    rw [e, hd]
    exact gn_st1 hq hl (lw_st 3 (.inl rfl) k0) (gn_opd hq hl (lvI_pos k0) 3 false k0 (h0 (by decide))) 3 _ (.inl ⟨rfl, rfl⟩) (bl_txL hg'.1)
  · have hg' : (txS s && emS t) = true := hg
    simp only [Bool.and_eq_true] at hg'
    rw [bl_nil hg'.2]
    have e : nodeT 4 s t a0 k0 a1 k1 = wrT 4 false k0 a0 ++ (46 :: ([105, 110] ++ 40 :: (qL (bl s) ++ [41]))) := by simp [nodeT, nodeP]
    have hd : ((if 1 ≤ arOf 4 then d0 else []) ++ (if arOf 4 = 2 then d1 else []) ++ [⟨(4 : Int).toNat, bl s, []⟩]) = d0 ++ [⟨4, bl s, []⟩] := by
      rw [if_pos (by decide), if_neg (by decide)]; simp
    rw [e, hd]
    exact gn_st1 hq hl (lw_st 4 (.inr (.inl rfl)) k0) (gn_opd hq hl (lvI_pos k0) 4 false k0 (h0 (by decide))) 4 _ (.inr ⟨rfl, rfl⟩) (bl_txL hg'.1)
  · have hg' : (txS s && txS t) = true := hg
    simp only [Bool.and_eq_true] at hg'
    have e : nodeT 5 s t a0 k0 a1 k1 = wrT 5 false k0 a0 ++ (46 :: ([104, 97, 115] ++ 40 :: (qL (bl s) ++ 44 :: 32 :: (qL (bl t) ++ [41])))) := by simp [nodeT, nodeP]
    have hd : ((if 1 ≤ arOf 5 then d0 else []) ++ (if arOf 5 = 2 then d1 else []) ++ [⟨(5 : Int).toNat, bl s, bl t⟩]) = d0 ++ [⟨5, bl s, bl t⟩] := by
      rw [if_pos (by decide), if_neg (by decide)]; simp
    rw [e, hd]
    exact gn_st2 hq hl (lw_st 5 (.inr (.inr rfl)) k0) (gn_opd hq hl (lvI_pos k0) 5 false k0 (h0 (by decide))) (bl_txL hg'.1) (bl_txL hg'.2)
  · have hg' : (emS s && emS t) = true := hg
    simp only [Bool.and_eq_true] at hg'
    rw [bl_nil hg'.1, bl_nil hg'.2]
    have e : nodeT 6 s t a0 k0 a1 k1 = wrT 6 false k0 a0 ++ (32 :: 38 :: 32 :: wrT 6 true k1 a1) := by simp [nodeT, nodeP]
    have hd : ((if 1 ≤ arOf 6 then d0 else []) ++ (if arOf 6 = 2 then d1 else []) ++ [⟨(6 : Int).toNat, [], []⟩]) = d0 ++ d1 ++ [⟨6, [], []⟩] := by
      rw [if_pos (by decide), if_pos (by decide)]; rfl
    rw [e, hd]
    exact gn_op hl 6 38 2 (.inl ⟨rfl, rfl, rfl⟩) (lw_and k0) (lw_and2 k1) (gn_opd hq hl (lvI_pos k0) 6 false k0 (h0 (by decide))) (gn_opd hq hl (lvI_pos k1) 6 true k1 (h1 (by decide)))
  · have hg' : (emS s && emS t) = true := hg
    simp only [Bool.and_eq_true] at hg'
    rw [bl_nil hg'.1, bl_nil hg'.2]
    have e : nodeT 7 s t a0 k0 a1 k1 = wrT 7 false k0 a0 ++ (32 :: 124 :: 32 :: wrT 7 true k1 a1) := by simp [nodeT, nodeP]
    have hd : ((if 1 ≤ arOf 7 then d0 else []) ++ (if arOf 7 = 2 then d1 else []) ++ [⟨(7 : Int).toNat, [], []⟩]) = d0 ++ d1 ++ [⟨7, [], []⟩] := by
      rw [if_pos (by decide), if_pos (by decide)]; rfl
    rw [e, hd]
    exact gn_op hl 7 124 1 (.inr (.inl ⟨rfl, rfl, rfl⟩)) (lw_or 7 (.inl rfl) k0) (lw_or2 7 (.inl rfl) k1) (gn_opd hq hl (lvI_pos k0) 7 false k0 (h0 (by decide))) (gn_opd hq hl (lvI_pos k1) 7 true k1 (h1 (by decide)))
  · have hg' : (emS s && emS t) = true := hg
    simp only [Bool.and_eq_true] at hg'
    rw [bl_nil hg'.1, bl_nil hg'.2]
    have e : nodeT 8 s t a0 k0 a1 k1 = wrT 8 false k0 a0 ++ (32 :: 45 :: 32 :: wrT 8 true k1 a1) := by simp [nodeT, nodeP]
    have hd : ((if 1 ≤ arOf 8 then d0 else []) ++ (if arOf 8 = 2 then d1 else []) ++ [⟨(8 : Int).toNat, [], []⟩]) = d0 ++ d1 ++ [⟨8, [], []⟩] := by
      rw [if_pos (by decide), if_pos (by decide)]; rfl
    rw [e, hd]
    exact gn_op hl 8 45 1 (.inr (.inr ⟨rfl, rfl, rfl⟩)) (lw_or 8 (.inr rfl) k0) (lw_or2 8 (.inr rfl) k1) (gn_opd hq hl (lvI_pos k0) 8 false k0 (h0 (by decide))) (gn_opd hq hl (lvI_pos k1) 8 true k1 (h1 (by decide)))
  · have hg' : (txS s && emS t) = true := hg
    simp only [Bool.and_eq_true] at hg'
    rw [bl_nil hg'.2]
    have e : nodeT 9 s t a0 k0 a1 k1 = [103, 114, 97, 112, 104] ++ 32 :: (qL (bl s) ++ 32 :: 40 :: (a0 ++ [41])) := by simp [nodeT, nodeP, wr_graph]
    have hd : ((if 1 ≤ arOf 9 then d0 else []) ++ (if arOf 9 = 2 then d1 else []) ++ [⟨(9 : Int).toNat, bl s, []⟩]) = d0 ++ [⟨9, bl s, []⟩] := by
      rw [if_pos (by decide), if_neg (by decide)]; simp
    rw [e, hd]
    exact gn_graph hq hl (lvI_pos k0) (h0 (by decide)) (bl_txL hg'.1)

/-- A node's text is read as its nodes. -/
theorem gn_node {f : Nat → Int} {n m : Nat} (hq : ∀ i, (tkF f n i).c = 14 → txL (tkF f n i).q) (hl : LastK (tkF f n) m) {NN : Nat} {I : Nat → Int} {X R : Nat → ByteArray} (hv : ∀ i, i < NN → gnB (I i) (X i) (R i) = true) :
    ∀ (fu base m' : Nat), m' + 1 ≤ fu → base + m' < NN → Begins (fun i => arOf (I (base + i))) (m' + 1) 0 → GNd f n m (lvI (I (base + m'))) (T I X R (base + m')) (ndS I X R base (m' + 1))
  | 0, base, m', hf, _, _ => absurd hf (by omega)
  | fu + 1, base, m', hf, hN, hb => by
    have hk := kids_math (n := m' + 1) (by omega) hb (by exact arOf_le _)
    rw [Nat.add_sub_cancel] at hk
    rw [T_eq]
    rcases hk with ⟨e, hm⟩ | ⟨e, h1⟩ | ⟨e, s, hs, h1, h2⟩
    · have hm0 : m' = 0 := by omega
      subst hm0
      have r := gn_kind hq hl (hv (base + 0) hN) (a0 := (if h : opf (arI I) (base + 0) 0 < base + 0 then T I X R (opf (arI I) (base + 0) 0) else [])) (k0 := I (opf (arI I) (base + 0) 0)) (a1 := (if h : opf (arI I) (base + 0) 1 < base + 0 then T I X R (opf (arI I) (base + 0) 1) else [])) (k1 := I (opf (arI I) (base + 0) 1)) (d0 := []) (d1 := []) (fun q => by rw [e] at q; omega) (fun q => by rw [e] at q; omega)
      rw [e, if_neg (by omega), if_neg (by omega)] at r
      exact r
    · have hm := h1.1
      have e0 : opf (arI I) (base + m') 0 = base + (m' - 1) := by
        unfold opf arI
        rw [if_neg (by omega)]
        omega
      have ih := gn_node hq hl hv fu base (m' - 1) (by omega) (by omega) (by rw [show m' - 1 + 1 = m' by omega]; exact h1)
      rw [show m' - 1 + 1 = m' by omega] at ih
      have r := gn_kind hq hl (hv (base + m') hN) (a0 := T I X R (base + (m' - 1))) (k0 := I (base + (m' - 1))) (a1 := (if h : opf (arI I) (base + m') 1 < base + m' then T I X R (opf (arI I) (base + m') 1) else [])) (k1 := I (opf (arI I) (base + m') 1)) (d0 := ndS I X R base m') (d1 := []) (fun _ => ih) (fun q => by rw [e] at q; omega)
      rw [e, if_pos (by omega), if_neg (by omega), List.append_nil] at r
      rw [e0, dif_pos (by omega), ndS_succ]
      exact r
    · have hm := h1.1
      have hs2 := h2.1
      have e0 : opf (arI I) (base + m') 0 = base + (s - 1) := by
        have q := bgF_of (Begins.lift (A := arI I) h1)
        unfold opf
        rw [if_pos ⟨e, rfl⟩, q]
        omega
      have e1 : opf (arI I) (base + m') 1 = (base + s) + (m' - s - 1) := by
        unfold opf
        rw [if_neg (by omega)]
        omega
      have ih0 := gn_node hq hl hv fu base (s - 1) (by omega) (by omega) (by rw [show s - 1 + 1 = s by omega]; exact h2)
      have ih1 := gn_node hq hl hv fu (base + s) (m' - s - 1) (by omega) (by omega) (by
        rw [show m' - s - 1 + 1 = m' - s by omega]
        have := h1.shift
        simpa only [Nat.add_assoc] using this)
      rw [show s - 1 + 1 = s by omega] at ih0
      rw [show m' - s - 1 + 1 = m' - s by omega] at ih1
      have r := gn_kind hq hl (hv (base + m') hN) (a0 := T I X R (base + (s - 1))) (k0 := I (base + (s - 1))) (a1 := T I X R (base + s + (m' - s - 1))) (k1 := I (base + s + (m' - s - 1))) (d0 := ndS I X R base s) (d1 := ndS I X R (base + s) (m' - s)) (fun _ => ih0) (fun _ => ih1)
      rw [e, if_pos (by omega), if_pos rfl, ← ndS_add, show s + (m' - s) = m' by omega] at r
      rw [e0, e1, dif_pos (by omega), dif_pos (by omega), ndS_succ]
      exact r
end Go.Proofs.Ytocmbnocdjnfpaa

namespace Go.Proofs.Ytocmbnocdjnfpaa
open Go.RowKit Go.Deep
set_option linter.unusedVariables false
set_option maxRecDepth 100000

theorem conv_sb (x : ByteArray) (W : World) : ∃ (c : Nat) (W' : World), (convert 9 33 (.string x)).run Try.prog W = .ok (.slice (some ⟨W.heap.size, 0, none⟩) x.size c) W' ∧ Below W.heap.size W W' ∧ RdL W' (some ⟨W.heap.size, 0, none⟩) (bl x) ∧ W'.heap.size = W.heap.size + 1 := by
  refine ⟨_, _, run_bytes_of_string W _ _ 5 x (by kernel_rfl) (by kernel_rfl) (by kernel_rfl), ((Below.refl _ _).drew).alloc (by exact Nat.le_refl _) _, .inr ⟨W.heap.size, 0, rfl, fun i hi => ?_⟩, by simp⟩
  rw [bl_length] at hi
  rw [Nat.zero_add]
  have := World.cell?_alloc_mark W.drew (bytesRow x (grownCap W x.size 0 5)) 5 ((bytesRow x (grownCap W x.size 0 5)).size, (bytesRow x (grownCap W x.size 0 5)).size + 1) i
  refine this.trans ?_
  unfold bytesRow lf bl
  rw [Array.getElem?_append_left (by simp; exact hi), Array.getElem?_map]
  have hx : x.data[i]? = some x.data[i] := Array.getElem?_eq_getElem hi
  rw [hx, List.getD_eq_getElem?_getD, List.getElem?_map, Array.getElem?_toList, hx]
  rfl
theorem plain_any (b : Nat) (w : World) : Calls Try.prog 128 #[.int .u8 (b : Int)] w fun e w' => e = .returned (.bool (decide (32 ≤ b ∧ b ≤ 126))) ∧ w' = w := by
  by_cases h1 : 32 ≤ b
  · by_cases h2 : b ≤ 126
    · have m1 : (32 : Int) ≤ (b : Int) := by omega
      have m2 : (b : Int) ≤ 126 := by omega
      have HE : Hid (decide (32 ≤ b ∧ b ≤ 126) = true) := decide_eq_true ⟨h1, h2⟩
      go_enter Try.func128, Try.ntmps128
      go_wp2
      go_ret
      (first | exact ⟨by rw [HE.out]; rfl, rfl⟩ | exact ⟨rfl, rfl⟩)
    · have m1 : (32 : Int) ≤ (b : Int) := by omega
      have m2 : ¬ (b : Int) ≤ 126 := by omega
      have m3 : decide ((b : Int) ≤ 126) = false := decide_eq_false m2
      have HE : Hid (decide (32 ≤ b ∧ b ≤ 126) = false) := decide_eq_false (fun h => h2 h.2)
      go_enter Try.func128, Try.ntmps128
      go_wp2
      go_ret
      (first | exact ⟨by rw [HE.out]; rfl, rfl⟩ | exact ⟨rfl, rfl⟩)
  · have m1 : ¬ (32 : Int) ≤ (b : Int) := by omega
    have m3 : decide ((32 : Int) ≤ (b : Int)) = false := decide_eq_false m1
    have HE : Hid (decide (32 ≤ b ∧ b ≤ 126) = false) := decide_eq_false (fun h => h1 h.1)
    go_enter Try.func128, Try.ntmps128
    go_wp2
    go_ret
    (first | exact ⟨by rw [HE.out]; rfl, rfl⟩ | exact ⟨rfl, rfl⟩)
theorem qB_byt (b : Int) (h : 0 ≤ b ∧ b < 256) : Byt (qB b) := by
  unfold qB
  intro x hx
  split at hx
  · simp at hx
    omega
  · split at hx
    · simp at hx
      omega
    · simp at hx
      unfold hexC at hx
      rcases hx with rfl | rfl | rfl | rfl <;> (try split) <;> omega
theorem bl_byt (x : ByteArray) : Byt (bl x) := by
  unfold bl
  intro y hy
  obtain ⟨b, _, rfl⟩ := List.mem_map.1 hy
  have := b.toNat_lt
  omega
theorem qL_byt (x : ByteArray) : Byt (qL (bl x)) := by
  unfold qL
  intro y hy
  simp only [List.mem_cons, List.mem_append, List.mem_flatMap, List.not_mem_nil, or_false] at hy
  rcases hy with rfl | ⟨z, hz, hy⟩ | rfl
  · omega
  · exact qB_byt z (bl_byt x z hz) y hy
  · omega
theorem BdA.below {w w' : World} {B b : Nat} {l : List Int} (h : BdA w B b l) (hb : Below w.heap.size w w') : BdA w' B b l := by
  rcases h with ⟨q1, v, q2, q3, q4⟩ | ⟨q1, v, q2, q3, q4⟩
  · exact .inl ⟨q1, v, (hb.block _ (Array.getElem?_eq_some_iff.1 q2).1).trans q2, q3.kept (w' := w') (row := none) ⟨hb.os, hb.tape, hb.output, hb.size, fun k hk _ => hb.block k hk⟩ (by cases hv : v.ownBlock <;> simp), q4⟩
  · exact .inr ⟨q1, v, (hb.block _ (Array.getElem?_eq_some_iff.1 q2).1).trans q2, q3.kept (w' := w') (row := none) ⟨hb.os, hb.tape, hb.output, hb.size, fun k hk _ => hb.block k hk⟩ (by cases hv : v.ownBlock <;> simp), q4⟩
theorem BdA.lt {w : World} {B b : Nat} {l : List Int} (h : BdA w B b l) : b < w.heap.size := by
  rcases h with ⟨q1, v, q2, q3, q4⟩ | ⟨q1, v, q2, q3, q4⟩ <;> exact (Array.getElem?_eq_some_iff.1 q2).1
/-- The builder of quoted, the text's bytes beside it. -/
def QS (w W : World) (g8 : Nat) (wr : World) (l : List Int) : Prop := BdA wr w.heap.size w.heap.size l ∧ Below w.heap.size w wr ∧ g8 < wr.heap.size ∧ wr.heap[g8]? = W.heap[g8]? ∧ ∀ v, wr.cell? ⟨w.heap.size, 1, none⟩ = some v → v.ownBlock ≠ some g8
theorem QS.below {w W wr W1 : World} {g8 : Nat} {l : List Int} (h : QS w W g8 wr l) (hb : Below wr.heap.size wr W1) : QS w W g8 W1 l := by
  obtain ⟨h1, h2, h3, h4, h5⟩ := h
  refine ⟨h1.below hb, h2.trans (hb.mono h2.size), Nat.lt_of_lt_of_le h3 hb.size, (hb.block _ h3).trans h4, fun v hv => h5 v ?_⟩
  rw [← hv]
  exact (hb.cell (p := ⟨w.heap.size, 1, none⟩) h1.lt).symm
theorem QS.step {w W W1 w2 : World} {g8 : Nat} {l l' : List Int} (h : QS w W g8 W1 l) (hne : g8 ≠ w.heap.size) (hB : BdA w2 w.heap.size w.heap.size l') (hb : Below w.heap.size W1 w2) (ho : ∀ g8, g8 < W1.heap.size → g8 ≠ w.heap.size → (∀ v, W1.cell? ⟨w.heap.size, 1, none⟩ = some v → v.ownBlock ≠ some g8) → w2.heap[g8]? = W1.heap[g8]? ∧ ∀ v, w2.cell? ⟨w.heap.size, 1, none⟩ = some v → v.ownBlock ≠ some g8) : QS w W g8 w2 l' := by
  obtain ⟨h1, h2, h3, h4, h5⟩ := h
  obtain ⟨q1, q2⟩ := ho g8 h3 hne h5
  exact ⟨hB, h2.trans hb, Nat.lt_of_lt_of_le h3 hb.size, q1.trans h4, q2⟩

set_option maxHeartbeats 2000000 in
theorem quoted_any (x : ByteArray) (w : World) (hx : x.size ≤ 1000) : Calls Try.prog 92 #[.string x] w fun e w' => e = .returned (.string (strT (qL (bl x)))) ∧ Below w.heap.size w w' := by
  have HWb : Hid (∀ (W : World) (l : List Int) (c : Int), BdA W w.heap.size w.heap.size l → l.length ≤ 1048576 → w.heap.size ≤ W.heap.size → Calls Try.prog 126 #[.pointer (some ⟨w.heap.size, 0, none⟩), .int .u8 c] W fun e w' => e = .returned .nilIface ∧ BdA w' w.heap.size w.heap.size (l ++ [c]) ∧ Below w.heap.size W w' ∧ (∀ g8, g8 < W.heap.size → g8 ≠ w.heap.size → (∀ v, W.cell? ⟨w.heap.size, 1, none⟩ = some v → v.ownBlock ≠ some g8) → w'.heap[g8]? = W.heap[g8]? ∧ ∀ v, w'.cell? ⟨w.heap.size, 1, none⟩ = some v → v.ownBlock ≠ some g8)) := fun W l c h1 h2 h3 => writeByte_any w.heap.size w.heap.size l c W h1 h2 h3
  have B0 : Hid (BdA (w.alloc (.cells #[.pointer none, .slice none 0 0] 173)) w.heap.size w.heap.size []) := .inl ⟨Nat.le_refl _, .slice none 0 0, Array.getElem?_push_size, ⟨rfl, .inl ⟨rfl, rfl⟩⟩, by simp [Value.ownBlock]⟩
  go_enter Try.func92, Try.ntmps92
  go_wp2_with fail
  refine (HWb.out _ [] 34 B0.out (by simp) (by simp)).mono ?_
  rintro e w1 ⟨rfl, hB1, hb1, _⟩
  have hbb : Below w.heap.size w w1 := (below_alloc _ _).trans hb1
  obtain ⟨c8, W, hcv, hbW, hrW, hzW⟩ := conv_sb x w1
  obtain ⟨g8, hg8⟩ : ∃ g8, g8 = w1.heap.size := ⟨_, rfl⟩
  have hlt1 : w.heap.size < w1.heap.size := by
    have := hb1.size
    simp at this
    omega
  have H0 : Hid (QS w W g8 W [34]) := by
    have hcell : W.cell? ⟨w.heap.size, 1, none⟩ = w1.cell? ⟨w.heap.size, 1, none⟩ := hbW.cell hlt1
    refine ⟨?_, hbb.trans (hbW.mono hbb.size), by omega, rfl, fun v hv e => ?_⟩
    · rcases hB1 with ⟨q1, v, q2, q3, q4⟩ | ⟨q1, v, q2, q3, q4⟩
      · exact .inl ⟨q1, v, (hbW.block _ hlt1).trans q2, q3.kept (w' := W) (row := none) ⟨hbW.os, hbW.tape, hbW.output, hbW.size, fun k hk _ => hbW.block k hk⟩ (by cases hv : v.ownBlock <;> simp), q4⟩
      · exact .inr ⟨q1, v, (hbW.block _ hlt1).trans q2, q3.kept (w' := W) (row := none) ⟨hbW.os, hbW.tape, hbW.output, hbW.size, fun k hk _ => hbW.block k hk⟩ (by cases hv : v.ownBlock <;> simp), q4⟩
    · rw [hcell] at hv
      have hown : w1.ownsRow w.heap.size 5 1 v ([] ++ [(34 : Int)]).length (bv ([] ++ [34])) := by
        rcases hB1 with ⟨q1, v', q2, q3, q4⟩ | ⟨q1, v', q2, q3, q4⟩
        all_goals
          rw [Go.Lib.cell_of_heap q2] at hv
          injection hv with hv
          subst hv
          exact q3
      have := (hown.lt _ e).2
      omega
  have HRd : Hid (RdL W (some ⟨g8, 0, none⟩) (bl x)) := by rw [hg8]; exact hrW
  rw [← hg8] at hcv
  have hgne : g8 ≠ w.heap.size := by omega
  clear hB1 hb1 hbb hbW hrW hzW B0 hlt1 hg8
  go_wp2
  go_loopw [5, 10] (fun _ i wr => ∃ (k : Nat) (l : List Int), k ≤ x.size ∧ i = .int .i64 k ∧ l = 34 :: ((bl x).take k).flatMap qB ∧ QS w W g8 wr l) (fun _ i _ => x.size - (intOf i).toNat)
  case atStart => exact ⟨0, [34], Nat.zero_le _, rfl, by simp, H0.out⟩
  case round =>
    obtain ⟨k, l, hk, rfl, hl, hq⟩ := hrel
    have HQ : Hid (QS w W g8 wr l ∧ l.length ≤ 4001 ∧ l = 34 :: ((bl x).take k).flatMap qB) := by
      refine ⟨hq, ?_, hl⟩
      have h1 := qM_length ((bl x).take k)
      have h2 : ((bl x).take k).length ≤ k := List.length_take_le _ _
      rw [hl, List.length_cons]
      omega
    have hc8 : ∀ j, wr.cell? ⟨g8, j, none⟩ = W.cell? ⟨g8, j, none⟩ := fun j => by unfold World.cell?; rw [hq.2.2.2.1]
    clear hq hl
    by_cases hlt : k < x.size
    · obtain ⟨b, hb1, hb2⟩ := bl_get hlt
      have hbb : b.toNat < 256 := b.toNat_lt
      obtain ⟨bn, hbn⟩ : ∃ bn, bn = b.toNat := ⟨_, rfl⟩
      rw [← hbn] at hb2 hbb
      have hck : wr.cell? ⟨g8, k, none⟩ = some (.int .u8 (bn : Int)) := by
        rw [hc8]
        rcases HRd.out with h0 | ⟨b', o', e, hc⟩
        · rw [bl_length] at h0; omega
        · injection e with e
          injection e with e1 e2
          subst e1 e2
          have := hc k (by rw [bl_length]; exact hlt)
          rw [Nat.zero_add] at this
          rw [this]
          unfold lf
          rw [List.getD_eq_getElem?_getD, hb2]
          rfl
      clear hb1 hbn hc8
      have k0 : (0 : Int) ≤ (k : Int) := by omega
      have k1 : (k : Int) < (x.size : Int) := by omega
      by_cases h1 : bn = 34
      · subst h1
        have HG : Hid ((bl x)[k]? = some 34 ∧ qB 34 = [92, 34]) := ⟨hb2, rfl⟩
        clear hb2
        have HWr : Hid (Calls Try.prog 127 #[.pointer (some ⟨w.heap.size, 0, none⟩), .slice (some ⟨wr.heap.size, 0, none⟩) 2 2] (wr.alloc (.cells #[.int .u8 92, .int .u8 34] 5)) fun e w' => e = .returned (.tuple #[.int .i64 2, .nilIface]) ∧ QS w W g8 w' (l ++ [92, 34])) := by
          have hb1 : Below wr.heap.size wr (wr.alloc (.cells #[.int .u8 92, .int .u8 34] 5)) := below_alloc _ _
          have hq := HQ.out.1.below hb1
          refine (write_any w.heap.size w.heap.size l ⟨wr.heap.size, 0, none⟩ 2 2 [92, 34] (wr.alloc (.cells #[.int .u8 92, .int .u8 34] 5)) hq.1 rfl (by omega) (by omega) (by have := HQ.out.1.1.lt; show wr.heap.size ≠ _; omega) (new_cells wr [.int .u8 92, .int .u8 34] _) (by have := HQ.out.2.1; omega) hq.2.1.size).mono ?_
          rintro e w' ⟨q1, q2, q3, q4⟩
          exact ⟨q1, hq.step hgne q2 q3 q4⟩
        go_wp2_with fail
        refine HWr.out.mono ?_
        rintro e w2 ⟨rfl, hq2⟩
        have H2 : Hid (QS w W g8 w2 (l ++ [92, 34])) := hq2
        clear hq2 HWr
        go_wp2
        go_roundw
        case rel => exact ⟨k + 1, l ++ [92, 34], by omega, by go_num, by rw [qM_take (bl x) k HG.out.1, HG.out.2, ← List.cons_append, ← HQ.out.2.2], H2.out⟩
        case measure => simp [intOf]; omega
      have n1 : ¬ (bn : Int) = 34 := by omega
      have d1 : ((bn : Int) == 34) = false := by simp [n1]
      by_cases h2 : bn = 92
      · subst h2
        have HG : Hid ((bl x)[k]? = some 92 ∧ qB 92 = [92, 92]) := ⟨hb2, rfl⟩
        clear hb2
        have HWr : Hid (Calls Try.prog 127 #[.pointer (some ⟨w.heap.size, 0, none⟩), .slice (some ⟨wr.heap.size, 0, none⟩) 2 2] (wr.alloc (.cells #[.int .u8 92, .int .u8 92] 5)) fun e w' => e = .returned (.tuple #[.int .i64 2, .nilIface]) ∧ QS w W g8 w' (l ++ [92, 92])) := by
          have hb1 : Below wr.heap.size wr (wr.alloc (.cells #[.int .u8 92, .int .u8 92] 5)) := below_alloc _ _
          have hq := HQ.out.1.below hb1
          refine (write_any w.heap.size w.heap.size l ⟨wr.heap.size, 0, none⟩ 2 2 [92, 92] (wr.alloc (.cells #[.int .u8 92, .int .u8 92] 5)) hq.1 rfl (by omega) (by omega) (by have := HQ.out.1.1.lt; show wr.heap.size ≠ _; omega) (new_cells wr [.int .u8 92, .int .u8 92] _) (by have := HQ.out.2.1; omega) hq.2.1.size).mono ?_
          rintro e w' ⟨q1, q2, q3, q4⟩
          exact ⟨q1, hq.step hgne q2 q3 q4⟩
        go_wp2_with fail
        refine HWr.out.mono ?_
        rintro e w2 ⟨rfl, hq2⟩
        have H2 : Hid (QS w W g8 w2 (l ++ [92, 92])) := hq2
        clear hq2 HWr
        go_wp2
        go_roundw
        case rel => exact ⟨k + 1, l ++ [92, 92], by omega, by go_num, by rw [qM_take (bl x) k HG.out.1, HG.out.2, ← List.cons_append, ← HQ.out.2.2], H2.out⟩
        case measure => simp [intOf]; omega
      have n2 : ¬ (bn : Int) = 92 := by omega
      have d2 : ((bn : Int) == 92) = false := by simp [n2]
      obtain ⟨pb, hpb⟩ : ∃ pb, pb = decide (32 ≤ bn ∧ bn ≤ 126) := ⟨_, rfl⟩
      have HPl : Hid (Calls Try.prog 128 #[.int .u8 (bn : Int)] wr fun e w' => e = .returned (.bool pb) ∧ w' = wr) := by rw [hpb]; exact plain_any bn wr
      by_cases h3 : 32 ≤ bn ∧ bn ≤ 126
      · have e3 : pb = true := by rw [hpb]; exact decide_eq_true h3
        subst e3
        have HG : Hid ((bl x)[k]? = some (bn : Int) ∧ qB bn = [(bn : Int)]) := ⟨hb2, by unfold qB; rw [if_neg (by omega), if_pos (by omega)]⟩
        have HWc := HWb.out wr l (bn : Int) HQ.out.1.1 (by have := HQ.out.2.1; omega) HQ.out.1.2.1.size
        have HWd : Hid (Calls Try.prog 126 #[.pointer (some ⟨w.heap.size, 0, none⟩), .int .u8 (bn : Int)] wr fun e w' => e = .returned .nilIface ∧ QS w W g8 w' (l ++ [(bn : Int)])) := HWc.mono fun e w' ⟨q1, q2, q3, q4⟩ => ⟨q1, HQ.out.1.step hgne q2 q3 q4⟩
        clear hb2 hpb HWc
        go_wp2_with fail
        refine HPl.out.mono ?_
        rintro e w2 ⟨rfl, hw2⟩
        subst hw2
        go_wp2_with fail
        refine HWd.out.mono ?_
        rintro e w2 ⟨rfl, hq2⟩
        have H2 : Hid (QS w W g8 w2 (l ++ [(bn : Int)])) := hq2
        clear hq2 HWd HPl
        go_wp2
        go_roundw
        case rel => exact ⟨k + 1, l ++ [(bn : Int)], by omega, by go_num, by rw [qM_take (bl x) k HG.out.1, HG.out.2, ← List.cons_append, ← HQ.out.2.2], H2.out⟩
        case measure => simp [intOf]; omega
      · have e3 : pb = false := by rw [hpb]; exact decide_eq_false h3
        subst e3
        have HG : Hid ((bl x)[k]? = some (bn : Int) ∧ qB bn = [92, 120, hexC (bn / 16), hexC (bn % 16)]) := ⟨hb2, by unfold qB; rw [if_neg (by omega), if_neg (by omega)]; rfl⟩
        clear hb2 hpb
        go_wp2_with fail
        refine HPl.out.mono ?_
        rintro e w2 ⟨rfl, hw2⟩
        subst hw2
        obtain ⟨p1, hp1⟩ : ∃ p1, p1 = bn / 16 := ⟨_, rfl⟩
        obtain ⟨p2, hp2⟩ : ∃ p2, p2 = bn % 16 := ⟨_, rfl⟩
        rw [← hp1, ← hp2] at HG
        obtain ⟨c1, g1, g2⟩ := hex_get p1 (by omega)
        obtain ⟨c2, g3, g4⟩ := hex_get p2 (by omega)
        have hi1 : ∀ W : World, (Instr.index 9 (.string { data := #[48, 49, 50, 51, 52, 53, 54, 55, 56, 57, 97, 98, 99, 100, 101, 102] }) (.int .u8 ((bn : Int) / 16))).run Try.prog W = .ok (.int .u8 (hexC p1)) W := fun W => by
          have e : (bn : Int) / 16 = (p1 : Int) := by omega
          rw [e]
          simp [Instr.index, go_sem, g1, g2]
        have hi2 : ∀ W : World, (Instr.index 9 (.string { data := #[48, 49, 50, 51, 52, 53, 54, 55, 56, 57, 97, 98, 99, 100, 101, 102] }) (.int .u8 ((bn : Int) % 16))).run Try.prog W = .ok (.int .u8 (hexC p2)) W := fun W => by
          have e : (bn : Int) % 16 = (p2 : Int) := by omega
          rw [e]
          simp [Instr.index, go_sem, g3, g4]
        have hand : bits .and .u8 (bn : Int) 15 = (bn : Int) % 16 := u8_and15 (x := (bn : Int)) (by omega) (by omega)
        clear hp1 hp2
        generalize hexC p1 = x1 at *
        generalize hexC p2 = x2 at *
        clear g1 g2 g3 g4
        have HWr : Hid (Calls Try.prog 127 #[.pointer (some ⟨w.heap.size, 0, none⟩), .slice (some ⟨w2.heap.size, 0, none⟩) 4 4] ((w2.alloc (.cells #[.int .u8 92, .int .u8 120, .int .u8 x1, .int .u8 x2] 5)).drew) fun e w' => e = .returned (.tuple #[.int .i64 4, .nilIface]) ∧ QS w W g8 w' (l ++ [92, 120, x1, x2])) := by
          have hb1 : Below w2.heap.size w2 ((w2.alloc (.cells #[.int .u8 92, .int .u8 120, .int .u8 x1, .int .u8 x2] 5)).drew) := (below_alloc _ _).drew
          have hq := HQ.out.1.below hb1
          refine (write_any w.heap.size w.heap.size l ⟨w2.heap.size, 0, none⟩ 4 4 [92, 120, x1, x2] ((w2.alloc (.cells #[.int .u8 92, .int .u8 120, .int .u8 x1, .int .u8 x2] 5)).drew) hq.1 rfl (by omega) (by omega) (by have := HQ.out.1.1.lt; show w2.heap.size ≠ _; omega) (new_cells w2.drew [.int .u8 92, .int .u8 120, .int .u8 x1, .int .u8 x2] _) (by have := HQ.out.2.1; omega) hq.2.1.size).mono ?_
          rintro e w' ⟨q1, q2, q3, q4⟩
          exact ⟨q1, hq.step hgne q2 q3 q4⟩
        go_wp2
        go_region_with (first | (go_at_call 127; (with_reducible refine HWr.out.mono ?_); rintro e w3 ⟨rfl, hq2⟩) | fail)
        all_goals
          have H2 : Hid (QS w W g8 w3 (l ++ [92, 120, x1, x2])) := hq2
          clear hq2 HWr
          go_wp2
          go_roundw
          case rel => exact ⟨k + 1, l ++ [92, 120, x1, x2], by omega, by go_num, by rw [qM_take (bl x) k HG.out.1, HG.out.2, ← List.cons_append, ← HQ.out.2.2], H2.out⟩
          case measure => simp [intOf]; omega
    · have e : k = x.size := by omega
      subst e
      have l1 : ¬ (x.size : Int) < (x.size : Int) := by omega
      have HWc := HWb.out wr l 34 HQ.out.1.1 (by have := HQ.out.2.1; omega) HQ.out.1.2.1.size
      have HWd : Hid (Calls Try.prog 126 #[.pointer (some ⟨w.heap.size, 0, none⟩), .int .u8 34] wr fun e w' => e = .returned .nilIface ∧ BdA w' w.heap.size w.heap.size (qL (bl x)) ∧ Below w.heap.size w w') := HWc.mono fun e w' ⟨q1, q2, q3, q4⟩ => by
        have e2 : l ++ [34] = qL (bl x) := by rw [HQ.out.2.2, ← bl_length, List.take_length]; rfl
        rw [e2] at q2
        exact ⟨q1, q2, HQ.out.1.2.1.trans q3⟩
      clear HWc
      go_wp2_with fail
      refine HWd.out.mono ?_
      rintro e w2 ⟨rfl, hB2, hb2⟩
      have HS : Hid (Calls Try.prog 129 #[.pointer (some ⟨w.heap.size, 0, none⟩)] w2 fun e w' => e = .returned (.string (strT (qL (bl x)))) ∧ Below w.heap.size w w') := (string_any w.heap.size w.heap.size _ w2 hB2 (qL_byt x) (by unfold qL; simp)).mono fun e w' ⟨q1, q2⟩ => ⟨q1, hb2.trans q2⟩
      clear hB2 hb2 HWd
      go_wp2_with fail
      refine HS.out.mono ?_
      rintro e w3 ⟨rfl, hb3⟩
      have HZ : Hid (Below w.heap.size w w3) := hb3
      clear hb3 HS
      go_wp2
      go_ret
      exact ⟨rfl, HZ.out⟩
end Go.Proofs.Ytocmbnocdjnfpaa

namespace Go.Proofs.Ytocmbnocdjnfpaa
open Go.RowKit Go.Deep
set_option linter.unusedVariables false
set_option maxRecDepth 100000

theorem byt_flat {L : List (List Int)} (h : ∀ l, l ∈ L → Byt l) : Byt L.flatten := fun x hx => by
  obtain ⟨l, h1, h2⟩ := List.mem_flatten.1 hx
  exact h l h1 x h2
theorem byt_wr {k : Int} {r : Bool} {kk : Int} {a : List Int} (h : Byt a) : Byt (wrT k r kk a) := by
  unfold wrT
  split
  · refine byt_flat (fun l hl => ?_)
    simp at hl
    rcases hl with rfl | rfl | rfl
    · exact byt_lit rfl
    · exact h
    · exact byt_lit rfl
  · exact h
theorem nodeT_byt (k : Int) (s t : ByteArray) {a0 : List Int} (k0 : Int) {a1 : List Int} (k1 : Int) (h0 : Byt a0) (h1 : Byt a1) : Byt (nodeT k s t a0 k0 a1 k1) := by
  unfold nodeT
  refine byt_flat (fun l hl => ?_)
  have hs := qL_byt s
  have ht := qL_byt t
  have w0 : Byt (wrT k false k0 a0) := byt_wr h0
  have w1 : Byt (wrT k true k1 a1) := byt_wr h1
  unfold nodeP at hl
  repeat
    first
    | (split at hl)
    | (simp at hl; rcases hl with rfl | rfl | rfl | rfl | rfl | rfl <;> first | assumption | exact byt_lit rfl)
    | (simp at hl; rcases hl with rfl | rfl | rfl | rfl | rfl <;> first | assumption | exact byt_lit rfl)
    | (simp at hl; rcases hl with rfl | rfl | rfl | rfl <;> first | assumption | exact byt_lit rfl)
    | (simp at hl; rcases hl with rfl | rfl | rfl <;> first | assumption | exact byt_lit rfl)
    | (simp at hl; subst hl; exact byt_lit rfl)
theorem TF_byt (I : Nat → Int) (X R : Nat → ByteArray) : ∀ f i, Byt (TF I X R f i)
  | 0, i => fun x hx => absurd hx List.not_mem_nil
  | f + 1, i => by
    refine nodeT_byt _ _ _ _ _ ?_ ?_
    · split
      · exact TF_byt I X R f _
      · exact fun x hx => absurd hx List.not_mem_nil
    · split
      · exact TF_byt I X R f _
      · exact fun x hx => absurd hx List.not_mem_nil
theorem T_byt (I : Nat → Int) (X R : Nat → ByteArray) (i : Nat) : Byt (T I X R i) := TF_byt I X R _ _
theorem lf_byt {pt : List Int} (h : Byt pt) : ∀ i, i < pt.length → 0 ≤ lf pt i ∧ lf pt i < 256 := fun i hi => by
  unfold lf
  rw [List.getD_eq_getElem?_getD, List.getElem?_eq_getElem hi]
  exact h _ (List.getElem_mem hi)

/-! What a path's validity depends on. -/
theorem dep_congr {A B : Nat → Nat} : ∀ n, (∀ i, i < n → A i = B i) → dep A n = dep B n
  | 0, _ => rfl
  | n + 1, h => by rw [dep_succ, dep_succ, dep_congr n (fun i hi => h i (by omega)), h n (by omega)]
theorem need_congr {A B : Nat → Nat} {e j : Nat} (h : ∀ i, i < e → A i = B i) (hj : j ≤ e) : need A e j = need B e j := by
  unfold need
  rw [dep_congr e h, dep_congr j (fun i hi => h i (by omega))]
theorem begins_congr {A B : Nat → Nat} {e s : Nat} (h : ∀ i, i < e → A i = B i) (hb : Begins A e s) : Begins B e s := by
  obtain ⟨h1, h2, h3⟩ := hb
  exact ⟨h1, by rw [← need_congr h (by omega)]; exact h2, fun j q1 q2 => by rw [← need_congr h q2]; exact h3 j q1 q2⟩
theorem bgGo_congr {A B : Nat → Nat} {e : Nat} (h : ∀ i, i < e → A i = B i) : ∀ j, j ≤ e → bgGo A e j = bgGo B e j
  | 0, _ => rfl
  | j + 1, hj => by
    unfold bgGo
    rw [need_congr h (by omega), bgGo_congr h j (by omega)]
theorem bgF_le (A : Nat → Nat) (e : Nat) : bgF A e ≤ e := by
  have : ∀ j, bgGo A e j ≤ j := fun j => by
    induction j with
    | zero => exact Nat.le_refl _
    | succ j ih =>
      unfold bgGo
      split
      · omega
      · omega
  exact this e
theorem htF_zero : ∀ (f : Nat) (A B : Nat → Nat), A 0 = B 0 → htF f A 0 = htF f B 0
  | 0, _, _, _ => rfl
  | f + 1, A, B, h => by
    have e1 := htF_zero f A B h
    have e2 := htF_zero f (fun i => A (0 + i)) (fun i => B (0 + i)) h
    show (if A 0 = 0 then 1 else if A 0 = 1 then 1 + htF f A 0 else 1 + max (htF f A 0) (htF f (fun i => A (0 + i)) 0)) = (if B 0 = 0 then 1 else if B 0 = 1 then 1 + htF f B 0 else 1 + max (htF f B 0) (htF f (fun i => B (0 + i)) 0))
    rw [h, e1, e2]
theorem htF_congr : ∀ (f : Nat) (A B : Nat → Nat) (n : Nat), 0 < n → (∀ i, i < n → A i = B i) → htF f A n = htF f B n
  | 0, _, _, _, _, _ => rfl
  | f + 1, A, B, n, hn, h => by
    have e : bgF A (n - 1) = bgF B (n - 1) := bgGo_congr (fun i hi => h i (by omega)) _ (Nat.le_refl _)
    have hA : ∀ n', n' < n → htF f A n' = htF f B n' := fun n' h' => by
      by_cases h0 : n' = 0
      · subst h0
        cases f with
        | zero => rfl
        | succ f =>
          exact htF_zero (f + 1) A B (h 0 (by omega))
      · exact htF_congr f A B n' (by omega) (fun i hi => h i (by omega))
    have hS : htF f (fun i => A (bgF A (n - 1) + i)) (n - 1 - bgF A (n - 1)) = htF f (fun i => B (bgF B (n - 1) + i)) (n - 1 - bgF B (n - 1)) := by
      have := bgF_le B (n - 1)
      rw [e]
      by_cases h0 : n - 1 - bgF B (n - 1) = 0
      · rw [h0]
        cases f with
        | zero => rfl
        | succ f => exact htF_zero (f + 1) _ _ (h _ (by omega))
      · exact htF_congr f _ _ _ (by omega) (fun i hi => h _ (by omega))
    unfold htF
    rw [h (n - 1) (by omega), hA (n - 1) (by omega), e, hA (bgF B (n - 1)) (by have := bgF_le B (n - 1); omega)]
    rw [← e, hS, e]
theorem VPth.congr {n : Nat} {I I' : Nat → Int} {X X' R R' : Nat → ByteArray} (h : VPth n I X R) (e : ∀ i, i < n → I i = I' i ∧ X i = X' i ∧ R i = R' i) : VPth n I' X' R' := by
  obtain ⟨h1, h2, h3, h4⟩ := h
  refine ⟨h1, fun i hi => ?_, begins_congr (fun i hi => by rw [(e i hi).1]) h3, ?_⟩
  · obtain ⟨e1, e2, e3⟩ := e i hi
    rw [← e1, ← e2, ← e3]
    exact h2 i hi
  · rw [← htF_congr 100 (fun i => arOf (I i)) _ n (by omega) (fun i hi => by rw [(e i hi).1])]
    exact h4
theorem strT_bl (x : ByteArray) : strT (bl x) = x := by
  unfold strT bl
  rw [List.map_map]
  have : ((fun x : Int => UInt8.ofNat x.toNat) ∘ fun b : UInt8 => ((b.toNat : Nat) : Int)) = id := by
    funext b
    simp
  rw [this]
  simp
theorem ndS_get (I : Nat → Int) (X R : Nat → ByteArray) {n i : Nat} (hi : i < n) : (ndS I X R 0 n).getD i ⟨0, [], []⟩ = nd1 I X R i := by
  unfold ndS
  rw [List.getD_eq_getElem?_getD, List.getElem?_map, List.getElem?_range hi]
  simp
theorem ndS_cells {n : Nat} {I : Nat → Int} {X R : Nat → ByteArray} (h : ∀ i, i < n → 0 ≤ I i) {i : Nat} (hi : i < n) : nI (ndS I X R 0 n) i = I i ∧ nX (ndS I X R 0 n) i = X i ∧ nR (ndS I X R 0 n) i = R i := by
  unfold nI nX nR
  rw [ndS_get I X R hi]
  refine ⟨?_, strT_bl _, strT_bl _⟩
  have := h i hi
  show (((I i).toNat : Nat) : Int) = I i
  omega
/-- What is printed is parsed to what was printed. -/
theorem reparse {NN : Nat} {I : Nat → Int} {X R : Nat → ByteArray} (hv : VPth NN I X R) {pt : List Int} (hpt : pt = T I X R (NN - 1)) (hlen : pt.length ≤ 2000) {m : Nat} (hl : LastK (tkF (lf pt) pt.length) m) : PAns (lf pt) pt.length m 0 0 (ndS I X R 0 NN) := by
  obtain ⟨⟨h1, h2⟩, hg, hb, hh⟩ := hv
  have hby : Byt pt := by rw [hpt]; exact T_byt _ _ _ _
  have hf := lf_byt hby
  have hq := tk14 hf
  have gn := gn_node hq hl hg NN 0 (NN - 1) (by omega) (by omega) (by simpa only [Nat.zero_add, show NN - 1 + 1 = NN by omega] using hb)
  rw [Nat.zero_add, show NN - 1 + 1 = NN by omega, ← hpt] at gn
  have at0 : AtB (lf pt) pt.length 0 pt := ⟨by omega, fun j hj => by
    rw [Nat.zero_add]
    unfold lf
    rw [List.getD_eq_getElem?_getD, List.getElem?_eq_getElem hj]
    rfl⟩
  obtain ⟨h0, k', g1, g2, g3, g4⟩ := gn 0 0 hl.1 rfl at0 (fun q => by omega)
  rw [Nat.zero_add, endF_stop (fun e => by omega)] at g3
  have h15 : (tkF (lf pt) pt.length k').c = 15 := by
    show (tkA (lf pt) pt.length (tkPos (lf pt) pt.length k')).c = 15
    rw [g3, tkA_end (Nat.le_refl _)]
  have hlen2 := ndS_len I X R 0 NN
  have pc := g4 0 [] (by omega) (by omega) ⟨fun _ => by omega, fun _ => by omega, fun _ => ⟨by omega, by omega⟩⟩
  have pc1 := (pc.up (lvI_pos _)).stop (u' := 1) ⟨fun _ => by show (tkF (lf pt) pt.length k').c ≠ 10; omega, fun _ => by show (tkF (lf pt) pt.length k').c ≠ 6; omega, fun _ => ⟨by show (tkF (lf pt) pt.length k').c ≠ 7; omega, by show (tkF (lf pt) pt.length k').c ≠ 8; omega⟩⟩
  obtain ⟨d, p1, _, _, _, _, _, _, _, p9⟩ := pc1
  have p1' : ndS I X R 0 NN = d := by have : ([] : List Nd) ++ ndS I X R 0 NN = [] ++ d := p1; simpa using this
  obtain ⟨p', o1, pend, q1, q2, q3, q4, q5, q6⟩ := p9 ⟨0, 0, 0, 0, []⟩ [] [] rfl rfl rfl (by show 0 < 1; omega)
  have hd := drn_all (least := 1) (st := []) (by show 0 < 1; omega) pend o1 q5
  rw [q4] at hd
  have q2' : p'.i = k' := q2
  have body : bodyM (tkF (lf pt) pt.length) (tkPos (lf pt) pt.length) ⟨p', o1, pend ++ [], false, false⟩ = ⟨p', d, [], false, true⟩ := by
    unfold bodyM
    simp only [q2', h15]
    rw [if_neg (by simp), if_neg (by omega), if_neg (by omega), hd]
    simp
  have run := q6.trans (Rch.one q1 rfl body)
  obtain ⟨HS1, HS2⟩ := top_same hq hl (tk15 _ _) run (Or.inr rfl)
  cases htop : topF (tkF (lf pt) pt.length) (tkPos (lf pt) pt.length) m with
  | inr x =>
    obtain ⟨z1, z2, _⟩ := HS1 x htop
    exact absurd (z2.symm.trans q1) z1
  | inl r =>
    obtain ⟨_, z2, _⟩ := HS2 r htop
    have z2' : d = r.2.2 := z2
    refine .inr (.inr (.inr ⟨hlen, r, htop, ?_, rfl, rfl, by rw [p1', z2']⟩))
    rw [← z2', ← p1', hlen2]
    refine VPth.congr (n := NN) (I := I) (X := X) (R := R) ⟨⟨h1, h2⟩, hg, hb, hh⟩ (fun i hi => ?_)
    have := ndS_cells (I := I) (X := X) (R := R) (n := NN) (fun i hi => by have := (gn_good (hg i hi)).1; omega) hi
    exact ⟨this.1.symm, this.2.1.symm, this.2.2.symm⟩
end Go.Proofs.Ytocmbnocdjnfpaa

namespace Go.Proofs.Ytocmbnocdjnfpaa
open Go.RowKit Go.Deep
set_option linter.unusedVariables false
set_option maxRecDepth 100000

/-- The cursor and its bytes lie below Z. -/
def DrB (Z g : Nat) (b : Option Addr) (n : Nat) : Prop := g < Z ∧ (n ≠ 0 → ∀ x, b = some x → x.block < Z)
theorem DrX.grown {w w' : World} {g Z : Nat} {b : Option Addr} {n c : Nat} {f : Nat → Int} {s : Nat × Int} {r : Option Nat} (h : DrX w g b n c f s) (hz : DrB Z g b n) (hg : w.grownBy w' r) (hr : ∀ k, r = some k → Z ≤ k) : DrX w' g b n c f s := by
  refine ⟨h.cur.of_block (hg.block g h.lt (fun e => by have := hr g e.symm; have := hz.1; omega)), h.le, ?_, h.ne, h.len, h.range⟩
  by_cases h0 : n = 0
  · exact Or.inl h0
  rcases h.rd with q | ⟨bb, o, rfl, hc⟩
  · exact Or.inl q
  · have hlt := World.block_lt_of_cell? _ _ (hc 0 (by omega))
    have hlz := hz.2 h0 _ rfl
    exact Or.inr ⟨bb, o, rfl, fun i hi => (World.cell?_of_block (a := ⟨bb, o + i, none⟩) (hg.block bb hlt (fun e => by have := hr bb e.symm; have hlz' : bb < Z := hlz; omega))).trans (hc i hi)⟩
theorem fr_new {w w1 w2 : World} {g : Nat} {r : Option Nat} (h : w.grownBy w1 (some g)) (k : w1.grownBy w2 r) (hr : ∀ x, r = some x → w.heap.size ≤ x) : w.grownBy w2 (some g) :=
  ⟨k.os.trans h.os, k.tape.trans h.tape, k.output.trans h.output, Nat.le_trans h.size k.size, fun b hb hne => (k.block b (Nat.lt_of_lt_of_le hb h.size) (fun e => by have := hr b e.symm; omega)).trans (h.block b hb hne)⟩
theorem fr_below {w w1 w2 : World} {g : Nat} (h : w.grownBy w1 (some g)) (k : Below w1.heap.size w1 w2) : w.grownBy w2 (some g) := grownN_trans h (grownN_below k _)
theorem fr_refl (w : World) (g : Nat) : w.grownBy w (some g) := grown_refl w _

def pkS (f : Nat → Int) (n : Nat) (L : List ByteArray) (s : Nat × Int) : ByteArray := L.getD (nBl f n (L.length : Int) s).toNat { data := #[] }
section
variable {g : Nat} {b : Option Addr} {n c : Nat} {f : Nat → Int} {s : Nat × Int} {w : World}
set_option maxHeartbeats 1000000 in
theorem l5Pick_x (h : DrX w g b n c f s) (L : List ByteArray) (bw : Nat) (m cw : Nat) (hm : m = L.length) (h1 : 1 ≤ m) (h2 : m ≤ 1000) (hbw : bw ≠ g) (hc : ∀ j (hj : j < L.length), w.cell? ⟨bw, j, none⟩ = some (.string L[j])) :
    Calls Try.prog 123 #[.pointer (some ⟨g, 0, none⟩), .slice (some ⟨bw, 0, none⟩) m cw] w (DRet g b n c f (.string (pkS f n L s)) (nS n (m : Int) s) w) := by
  have HB : Hid (Calls Try.prog 71 #[.pointer (some ⟨g, 0, none⟩), .int .i64 (m : Int)] w (DRet g b n c f (.int .i64 (nBl f n (m : Int) s)) (nS n (m : Int) s) w)) := l1Below_x h (m : Int) (by omega) (by omega)
  obtain ⟨r0, r1⟩ := nBl_range f n (show (1 : Int) ≤ (m : Int) by omega) s
  have HC : Hid (∀ j (hj : j < L.length), w.cell? ⟨bw, j, none⟩ = some (.string L[j])) := hc
  have HP : Hid (pkS f n L s = L.getD (nBl f n (m : Int) s).toNat { data := #[] } ∧ m = L.length) := ⟨by unfold pkS; rw [hm], hm⟩
  clear h hm hc
  go_enter Try.func123, Try.ntmps123
  go_wp2_with fail
  refine HB.out.mono ?_
  rintro e w1 ⟨rfl, hd, ho⟩
  have HX : Hid (DrX w1 g b n c f (nS n (m : Int) s) ∧ w.grownBy w1 (some g)) := ⟨hd, ho⟩
  clear hd ho HB
  obtain ⟨x, hx⟩ : ∃ x : Nat, nBl f n (m : Int) s = (x : Int) := ⟨(nBl f n (m : Int) s).toNat, by omega⟩
  rw [hx] at r0 r1 HP ⊢
  have hxm : x < m := by omega
  have hxl : x < L.length := by have := HP.out.2; omega
  have HE : Hid (pkS f n L s = L[x]'hxl) := by
    show _ = _
    rw [HP.out.1, Int.toNat_natCast, List.getD_eq_getElem?_getD, List.getElem?_eq_getElem hxl]
    rfl
  have cx : w1.cell? ⟨bw, x, none⟩ = some (.string (pkS f n L s)) := by
    have hc := HC.out x hxl
    rw [HE.out, ← hc]
    exact World.cell?_of_block (a := ⟨bw, x, none⟩) (HX.out.2.block bw (World.block_lt_of_cell? _ _ hc) (fun e => hbw (by injection e with e)))
  generalize pkS f n L s = Y at *
  clear hx HP HE HC
  go_wp2
  go_ret
  exact ⟨rfl, HX.out⟩
/-- The words that are drawn. -/
def wdA : List ByteArray := [{ data := #[34] }, { data := #[92] }, { data := #[255, 0] }, { data := #[97, 32, 98] }, { data := #[49, 50, 51, 52, 53, 54, 55, 56, 57, 48, 49, 50, 51, 52, 53, 54, 55, 56, 57, 48, 49, 50, 51, 52, 53, 54, 55, 56, 57, 48] }, { data := #[112] }, { data := #[103] }]
def wdB : List ByteArray := [{ data := #[97] }, { data := #[98] }, { data := #[99] }, { data := #[100] }, { data := #[101] }, { data := #[97, 98] }, { data := #[122] }]
def wdP : List ByteArray := [{ data := #[112] }, { data := #[112] }, { data := #[113] }, { data := #[114] }, { data := #[97] }]
def wdG : List ByteArray := [{ data := #[103] }, { data := #[103] }, { data := #[104] }, { data := #[97] }]
def wordF (f : Nat → Int) (n : Nat) (s : Nat × Int) : ByteArray := if nBl f n 30 s = 0 then pkS f n wdA (nS n 30 s) else pkS f n wdB (nS n 30 s)
def wordS (n : Nat) (s : Nat × Int) : Nat × Int := nS n 7 (nS n 30 s)
theorem lit_cells (w : World) (L : List ByteArray) (t : TypeId) : ∀ j (hj : j < L.length), (w.alloc (.cells (L.map Value.string).toArray t)).cell? ⟨w.heap.size, j, none⟩ = some (.string L[j]) := fun j hj => by
  have := new_cells w (L.map Value.string) t j (.string L[j]) (by rw [List.getElem?_map, List.getElem?_eq_getElem hj]; rfl)
  rw [Addr.add_lit, Nat.zero_add] at this
  exact this
set_option maxHeartbeats 1000000 in
theorem l5Pred_x (h : DrX w g b n c f s) : Calls Try.prog 146 #[.pointer (some ⟨g, 0, none⟩)] w (DRet g b n c f (.string (pkS f n wdP s)) (nS n 5 s) w) := by
  have HP : Hid (∀ W, Below w.heap.size w W → W.heap.size = w.heap.size + 1 → (∀ j (hj : j < wdP.length), W.cell? ⟨w.heap.size, j, none⟩ = some (.string wdP[j])) → Calls Try.prog 123 #[.pointer (some ⟨g, 0, none⟩), .slice (some ⟨w.heap.size, 0, none⟩) 5 5] W (DRet g b n c f (.string (pkS f n wdP s)) (nS n 5 s) W)) := fun W hW _ hc => l5Pick_x (h.below hW) wdP w.heap.size 5 5 rfl (by omega) (by omega) (by have := h.lt; omega) hc
  clear h
  go_enter Try.func146, Try.ntmps146
  go_wp2_with fail
  refine (HP.out _ (below_alloc _ _) (by simp) (lit_cells w wdP 9)).mono ?_
  rintro e w1 ⟨rfl, hd, ho⟩
  have HX : Hid (DrX w1 g b n c f (nS n 5 s) ∧ w.grownBy w1 (some g)) := ⟨hd, grownN_trans (grownN_below (below_alloc _ _) _) ho⟩
  clear hd ho
  generalize pkS f n wdP s = Y at *
  go_wp2
  go_ret
  exact ⟨rfl, HX.out⟩
set_option maxHeartbeats 1000000 in
theorem l5Label_x (h : DrX w g b n c f s) : Calls Try.prog 147 #[.pointer (some ⟨g, 0, none⟩)] w (DRet g b n c f (.string (pkS f n wdG s)) (nS n 4 s) w) := by
  have HP : Hid (∀ W, Below w.heap.size w W → W.heap.size = w.heap.size + 1 → (∀ j (hj : j < wdG.length), W.cell? ⟨w.heap.size, j, none⟩ = some (.string wdG[j])) → Calls Try.prog 123 #[.pointer (some ⟨g, 0, none⟩), .slice (some ⟨w.heap.size, 0, none⟩) 4 4] W (DRet g b n c f (.string (pkS f n wdG s)) (nS n 4 s) W)) := fun W hW _ hc => l5Pick_x (h.below hW) wdG w.heap.size 4 4 rfl (by omega) (by omega) (by have := h.lt; omega) hc
  clear h
  go_enter Try.func147, Try.ntmps147
  go_wp2_with fail
  refine (HP.out _ (below_alloc _ _) (by simp) (lit_cells w wdG 9)).mono ?_
  rintro e w1 ⟨rfl, hd, ho⟩
  have HX : Hid (DrX w1 g b n c f (nS n 4 s) ∧ w.grownBy w1 (some g)) := ⟨hd, grownN_trans (grownN_below (below_alloc _ _) _) ho⟩
  clear hd ho
  generalize pkS f n wdG s = Y at *
  go_wp2
  go_ret
  exact ⟨rfl, HX.out⟩
set_option maxHeartbeats 1000000 in
theorem l5Word_x (h : DrX w g b n c f s) : Calls Try.prog 145 #[.pointer (some ⟨g, 0, none⟩)] w (DRet g b n c f (.string (wordF f n s)) (wordS n s) w) := by
  have HO : Hid (Calls Try.prog 70 #[.pointer (some ⟨g, 0, none⟩), .int .i64 30] w (DRet g b n c f (.bool (nBl f n 30 s == 0)) (nS n 30 s) w)) := l1Once_x h 30 (by omega) (by omega)
  have hlt := h.lt
  clear h
  go_enter Try.func145, Try.ntmps145
  go_wp2_with fail
  refine HO.out.mono ?_
  rintro e w1 ⟨rfl, hd, ho⟩
  have hz := ho.size
  have HX : Hid (DrX w1 g b n c f (nS n 30 s) ∧ w.grownBy w1 (some g)) := ⟨hd, ho⟩
  clear hd ho HO
  by_cases h0 : nBl f n 30 s = 0
  · have e0 : (nBl f n 30 s == 0) = true := by simp [h0]
    have HW : Hid (wordF f n s = pkS f n wdA (nS n 30 s) ∧ wordS n s = nS n 7 (nS n 30 s)) := ⟨by unfold wordF; rw [if_pos h0], rfl⟩
    rw [e0]
    clear e0 h0
    go_wp2_with fail
    refine (l5Pick_x (HX.out.1.below (below_alloc _ _)) wdA w1.heap.size 7 7 rfl (by omega) (by omega) (by omega) (lit_cells w1 wdA 9)).mono ?_
    rintro e w2 ⟨rfl, hd, ho⟩
    have HY : Hid (DrX w2 g b n c f (wordS n s) ∧ w.grownBy w2 (some g)) := ⟨by rw [HW.out.2]; exact hd, grownN_trans (fr_below HX.out.2 (below_alloc _ _)) ho⟩
    have HE : Hid (∀ Y, Y = pkS f n wdA (nS n 30 s) → wordF f n s = Y) := fun Y hY => by rw [hY]; exact HW.out.1
    generalize hYY : pkS f n wdA (nS n 30 s) = Y at *
    have HYE : Hid (wordF f n s = Y) := HE.out Y rfl
    clear hd ho hYY HE HW
    go_wp2
    go_ret
    exact ⟨by rw [HYE.out]; rfl, HY.out⟩
  · have e0 : (nBl f n 30 s == 0) = false := by simp [h0]
    have HW : Hid (wordF f n s = pkS f n wdB (nS n 30 s) ∧ wordS n s = nS n 7 (nS n 30 s)) := ⟨by unfold wordF; rw [if_neg h0], rfl⟩
    rw [e0]
    clear e0 h0
    go_wp2_with fail
    refine (l5Pick_x (HX.out.1.below (below_alloc _ _)) wdB w1.heap.size 7 7 rfl (by omega) (by omega) (by omega) (lit_cells w1 wdB 9)).mono ?_
    rintro e w2 ⟨rfl, hd, ho⟩
    have HY : Hid (DrX w2 g b n c f (wordS n s) ∧ w.grownBy w2 (some g)) := ⟨by rw [HW.out.2]; exact hd, grownN_trans (fr_below HX.out.2 (below_alloc _ _)) ho⟩
    have HE : Hid (∀ Y, Y = pkS f n wdB (nS n 30 s) → wordF f n s = Y) := fun Y hY => by rw [hY]; exact HW.out.1
    generalize hYY : pkS f n wdB (nS n 30 s) = Y at *
    have HYE : Hid (wordF f n s = Y) := HE.out Y rfl
    clear hd ho hYY HE HW
    go_wp2
    go_ret
    exact ⟨by rw [HYE.out]; rfl, HY.out⟩
end
end Go.Proofs.Ytocmbnocdjnfpaa
