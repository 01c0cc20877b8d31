import Derived.Test.YtocmbnocdjnfpaaPpP
import Derived.Test.YtocmbnocdjnfpaaPpC
namespace Go.Proofs.Ytocmbnocdjnfpaa
open Go.RowKit Go.Deep
set_option linter.unusedVariables false
set_option maxRecDepth 100000

/-- The operands' kinds and texts lie in these two rows. -/
def OpsIn (w : World) (vp vt : Value) (q : Nat) (K : Nat → Int) (Y : Nat → ByteArray) : Prop :=
  q = 0 ∨ ∃ gp cp gt ct, vp = .slice (some ⟨gp, 0, none⟩) q cp ∧ vt = .slice (some ⟨gt, 0, none⟩) q ct ∧ ∀ i, i < q → w.cell? ⟨gp, i * 7, none⟩ = some (.int .i64 (K i)) ∧ w.cell? ⟨gt, i, none⟩ = some (.string (Y i))
/-- What place.text has behind its three boxes. -/
structure TxF (W0 w : World) (k : Int) (s t : ByteArray) (q : Nat) (at' : Option Addr) (nt ct : Nat) (K : Nat → Int) (Y : Nat → ByteArray) : Prop where
  b : Below w.heap.size w W0
  z : W0.heap.size = w.heap.size + 3
  o : ∀ (i : Nat) (st : Int) (r : Bool) (W : World), i < q → (∀ kk : Int, (iB kk < st) ↔ wrB k r (sB kk) = true) → Below W0.heap.size W0 W → Calls Try.prog 90 #[.int .i64 (i : Int), .int .i64 st, .pointer (some ⟨w.heap.size + 1, 0, none⟩), .pointer (some ⟨w.heap.size + 1 + 1, 0, none⟩)] W fun e w' => ∃ z, e = .returned (.string z) ∧ (bl z = wrT k r (K i) (bl (Y i)) ∧ z.size ≤ 300002) ∧ w' = W
  s1 : ∀ W, Below W0.heap.size W0 W → W.cell? ⟨w.heap.size, 0, none⟩ = some (.int .i64 k) ∧ W.cell? ⟨w.heap.size, 1, none⟩ = some (.string s) ∧ W.cell? ⟨w.heap.size, 2, none⟩ = some (.string t)
  t0 : 0 < q → ∃ gt, at' = some ⟨gt, 0, none⟩ ∧ nt = q ∧ (Y 0).size ≤ 300000 ∧ ∀ W, Below W0.heap.size W0 W → W.cell? ⟨gt, 0, none⟩ = some (.string (Y 0)) ∧ W.cell? ⟨w.heap.size + 1 + 1, 0, none⟩ = some (.slice (some ⟨gt, 0, none⟩) q ct)
set_option maxHeartbeats 1000000 in
theorem txF_of (k : Int) (s t lb : ByteArray) (bd : Bool) (ad : Option Addr) (cn ca : Nat) (ht : Int) (ap at' : Option Addr) (np cp nt ct q : Nat) (K : Nat → Int) (Y : Nat → ByteArray) (w : World) (W0 : World) (hW0 : W0 = ((w.alloc (.cells #[.int .i64 k, .string s, .string t, .bool bd, .string lb, .slice ad cn ca, .int .i64 ht] 73)).alloc (.cells #[.slice ap np cp] 65)).alloc (.cells #[.slice at' nt ct] 49)) (ho : OpsIn w (.slice ap np cp) (.slice at' nt ct) q K Y) (hY : ∀ i, i < q → (Y i).size ≤ 300000) : TxF W0 w k s t q at' nt ct K Y := by
  have B0 : Hid (Below w.heap.size w W0 ∧ W0.heap.size = w.heap.size + 3 ∧ W0.heap[w.heap.size]? = some (.cells #[.int .i64 k, .string s, .string t, .bool bd, .string lb, .slice ad cn ca, .int .i64 ht] 73) ∧ W0.heap[w.heap.size + 1]? = some (.cells #[.slice ap np cp] 65) ∧ W0.heap[w.heap.size + 1 + 1]? = some (.cells #[.slice at' nt ct] 49)) := by
    have e1 : (w.alloc (.cells #[.int .i64 k, .string s, .string t, .bool bd, .string lb, .slice ad cn ca, .int .i64 ht] 73)).heap.size = w.heap.size + 1 := by simp
    have e2 : ((w.alloc (.cells #[.int .i64 k, .string s, .string t, .bool bd, .string lb, .slice ad cn ca, .int .i64 ht] 73)).alloc (.cells #[.slice ap np cp] 65)).heap.size = w.heap.size + 1 + 1 := by simp
    rw [hW0]
    refine ⟨((below_alloc _ _).alloc (by simp) _).alloc (by simp; omega) _, by simp, ?_, ?_, ?_⟩
    · rw [(below_alloc _ _).block _ (by rw [e2]; omega), (below_alloc _ _).block _ (by rw [e1]; omega)]
      exact Array.getElem?_push_size
    · rw [(below_alloc _ _).block _ (by rw [e2]; omega), ← e1]
      exact Array.getElem?_push_size
    · rw [← e2]
      exact Array.getElem?_push_size
  have HO : Hid (∀ (i : Nat) (st : Int) (r : Bool) (W : World), i < q → (∀ kk : Int, (iB kk < st) ↔ wrB k r (sB kk) = true) → Below W0.heap.size W0 W → Calls Try.prog 90 #[.int .i64 (i : Int), .int .i64 st, .pointer (some ⟨w.heap.size + 1, 0, none⟩), .pointer (some ⟨w.heap.size + 1 + 1, 0, none⟩)] W fun e w' => ∃ z, e = .returned (.string z) ∧ (bl z = wrT k r (K i) (bl (Y i)) ∧ z.size ≤ 300002) ∧ w' = W) := fun i st r W hi hiff hW => by
    rcases ho with h0 | ⟨gp, cp', gt, ct', e1, e2, hc⟩
    · omega
    injection e1 with e1 e1' e1''
    injection e2 with e2 e2' e2''
    obtain ⟨c1, c2⟩ := hc i hi
    have hbW : Below w.heap.size w W := B0.out.1.trans (hW.mono (by rw [B0.out.2.1]; omega))
    have q4 : W.cell? ⟨w.heap.size + 1, 0, none⟩ = some (.slice (some ⟨gp, 0, none⟩) q cp') := by
      have hh := (hW.block (w.heap.size + 1) (by rw [B0.out.2.1]; omega)).trans B0.out.2.2.2.1
      rw [← e1, ← e1', ← e1'']
      simp [World.cell?, hh]
    have q5 : W.cell? ⟨w.heap.size + 1 + 1, 0, none⟩ = some (.slice (some ⟨gt, 0, none⟩) q ct') := by
      have hh := (hW.block (w.heap.size + 1 + 1) (by rw [B0.out.2.1]; omega)).trans B0.out.2.2.2.2
      rw [← e2, ← e2', ← e2'']
      simp [World.cell?, hh]
    refine (text1_any i st (K i) _ _ gp gt q q cp' ct' (Y i) W q4 q5 hi hi ((hbW.cell (World.block_lt_of_cell? _ _ c1)).trans c1) ((hbW.cell (World.block_lt_of_cell? _ _ c2)).trans c2) (by have := hY i hi; omega)).mono ?_
    rintro e w' ⟨z, q1, q2, q3⟩
    have q6 : bl z = wrT k r (K i) (bl (Y i)) := by
      rw [q2]
      unfold wrT
      by_cases h : iB (K i) < st
      · rw [if_pos h, if_pos ((hiff _).1 h)]
        simp
      · rw [if_neg h, if_neg (fun q => h ((hiff _).2 q))]
    refine ⟨z, q1, ⟨q6, ?_⟩, q3⟩
    rw [← bl_length, q6]
    have := wrT_length k r (K i) (bl (Y i))
    rw [bl_length] at this
    have := hY i hi
    omega
  have HS1 : Hid (∀ W, Below W0.heap.size W0 W → W.cell? ⟨w.heap.size, 0, none⟩ = some (.int .i64 k) ∧ W.cell? ⟨w.heap.size, 1, none⟩ = some (.string s) ∧ W.cell? ⟨w.heap.size, 2, none⟩ = some (.string t)) := fun W hW => by
    have hh := (hW.block w.heap.size (by rw [B0.out.2.1]; omega)).trans B0.out.2.2.1
    refine ⟨?_, ?_, ?_⟩ <;> simp [World.cell?, hh]
  have HT0 : Hid (0 < q → ∃ gt, at' = some ⟨gt, 0, none⟩ ∧ nt = q ∧ (Y 0).size ≤ 300000 ∧ ∀ W, Below W0.heap.size W0 W → W.cell? ⟨gt, 0, none⟩ = some (.string (Y 0)) ∧ W.cell? ⟨w.heap.size + 1 + 1, 0, none⟩ = some (.slice (some ⟨gt, 0, none⟩) q ct)) := fun h0 => by
    rcases ho with h | ⟨gp, cp', gt, ct', e1, e2, hc⟩
    · omega
    injection e2 with e2 e2' e2''
    obtain ⟨_, c2⟩ := hc 0 h0
    refine ⟨gt, e2, e2', hY 0 h0, fun W hW => ?_⟩
    have hbW : Below w.heap.size w W := B0.out.1.trans (hW.mono (by rw [B0.out.2.1]; omega))
    have hh := (hW.block (w.heap.size + 1 + 1) (by rw [B0.out.2.1]; omega)).trans B0.out.2.2.2.2
    refine ⟨(hbW.cell (World.block_lt_of_cell? _ _ c2)).trans c2, ?_⟩
    rw [← e2, ← e2']
    simp [World.cell?, hh]
  exact ⟨B0.out.1, B0.out.2.1, HO.out, HS1.out, HT0.out⟩
end Go.Proofs.Ytocmbnocdjnfpaa

namespace Go.Proofs.Ytocmbnocdjnfpaa
open Go.RowKit Go.Deep
set_option linter.unusedVariables false
set_option maxRecDepth 100000

set_option maxHeartbeats 2000000 in
theorem textP_1 (s t lb : ByteArray) (bd : Bool) (ad : Option Addr) (cn ca : Nat) (ht : Int) (ap at' : Option Addr) (np cp nt ct q : Nat) (K : Nat → Int) (Y : Nat → ByteArray) (w : World) (hq : q = arOf 1) (ho : OpsIn w (.slice ap np cp) (.slice at' nt ct) q K Y) (hY : ∀ i, i < q → (Y i).size ≤ 300000) (hs : s.size ≤ 30) (htz : t.size ≤ 30) :
    Calls Try.prog 47 #[.agg #[.int .i64 1, .string s, .string t, .bool bd, .string lb, .slice ad cn ca, .int .i64 ht], .slice ap np cp, .slice at' nt ct] w fun e w' => ∃ z, e = .returned (.string z) ∧ bl z = nodeT 1 s t (bl (Y 0)) (K 0) (bl (Y 1)) (K 1) ∧ Below w.heap.size w w' := by
  go_enter Try.func47, Try.ntmps47
  go_wp2
  go_ret
  exact ⟨_, rfl, rfl, ((below_alloc _ _).alloc (by simp) _).alloc (by simp; omega) _⟩
set_option maxHeartbeats 2000000 in
theorem textP_2 (s t lb : ByteArray) (bd : Bool) (ad : Option Addr) (cn ca : Nat) (ht : Int) (ap at' : Option Addr) (np cp nt ct q : Nat) (K : Nat → Int) (Y : Nat → ByteArray) (w : World) (hq : q = arOf 2) (ho : OpsIn w (.slice ap np cp) (.slice at' nt ct) q K Y) (hY : ∀ i, i < q → (Y i).size ≤ 300000) (hs : s.size ≤ 30) (htz : t.size ≤ 30) :
    Calls Try.prog 47 #[.agg #[.int .i64 2, .string s, .string t, .bool bd, .string lb, .slice ad cn ca, .int .i64 ht], .slice ap np cp, .slice at' nt ct] w fun e w' => ∃ z, e = .returned (.string z) ∧ bl z = nodeT 2 s t (bl (Y 0)) (K 0) (bl (Y 1)) (K 1) ∧ Below w.heap.size w w' := by
  have HQs : Hid (∀ W : World, Calls Try.prog 92 #[.string s] W fun e w' => e = .returned (.string (strT (qL (bl s)))) ∧ Below W.heap.size W w') := fun W => quoted_any s W (by omega)
  have HBl : Hid (bl (strT (qL (bl s))) = qL (bl s) ∧ (strT (qL (bl s))).size ≤ 122) := ⟨bl_strT (qL_byt s), by rw [← bl_length, bl_strT (qL_byt s)]; exact qL_length s hs⟩
  obtain ⟨zs, hzs⟩ : ∃ zs, zs = strT (qL (bl s)) := ⟨_, rfl⟩
  rw [← hzs] at HQs HBl
  have hzz : zs.size ≤ 122 := HBl.out.2
  clear hzs
  go_enter Try.func47, Try.ntmps47
  go_wp2_with fail
  refine (HQs.out _).mono ?_
  rintro e w1 ⟨rfl, hb1⟩
  have HB : Hid (Below w.heap.size w w1) := (((below_alloc _ _).alloc (by simp) _).alloc (by simp; omega) _).trans (hb1.mono (by simp; omega))
  clear hb1
  go_wp2
  go_ret
  refine ⟨_, rfl, ?_, HB.out⟩
  rw [bl_app, bl_app, HBl.out.1]
  simp [nodeT, nodeP]
  rfl
set_option maxHeartbeats 2000000 in
theorem textP_6 (s t lb : ByteArray) (bd : Bool) (ad : Option Addr) (cn ca : Nat) (ht : Int) (ap at' : Option Addr) (np cp nt ct q : Nat) (K : Nat → Int) (Y : Nat → ByteArray) (w : World) (hq : q = arOf 6) (ho : OpsIn w (.slice ap np cp) (.slice at' nt ct) q K Y) (hY : ∀ i, i < q → (Y i).size ≤ 300000) (hs : s.size ≤ 30) (htz : t.size ≤ 30) :
    Calls Try.prog 47 #[.agg #[.int .i64 6, .string s, .string t, .bool bd, .string lb, .slice ad cn ca, .int .i64 ht], .slice ap np cp, .slice at' nt ct] w fun e w' => ∃ z, e = .returned (.string z) ∧ bl z = nodeT 6 s t (bl (Y 0)) (K 0) (bl (Y 1)) (K 1) ∧ Below w.heap.size w w' := by
  obtain ⟨W0, hW0⟩ : ∃ W0, W0 = ((w.alloc (.cells #[.int .i64 6, .string s, .string t, .bool bd, .string lb, .slice ad cn ca, .int .i64 ht] 73)).alloc (.cells #[.slice ap np cp] 65)).alloc (.cells #[.slice at' nt ct] 49) := ⟨_, rfl⟩
  have F : Hid (TxF W0 w 6 s t q at' nt ct K Y) := txF_of 6 s t lb bd ad cn ca ht ap at' np cp nt ct q K Y w W0 hW0 ho hY
  have HO : Hid (∀ (i : Nat) (st : Int) (r : Bool) (W : World), i < q → (∀ kk : Int, (iB kk < st) ↔ wrB 6 r (sB kk) = true) → Below W0.heap.size W0 W → Calls Try.prog 90 #[.int .i64 (i : Int), .int .i64 st, .pointer (some ⟨w.heap.size + 1, 0, none⟩), .pointer (some ⟨w.heap.size + 1 + 1, 0, none⟩)] W fun e w' => ∃ z, e = .returned (.string z) ∧ (bl z = wrT 6 r (K i) (bl (Y i)) ∧ z.size ≤ 300002) ∧ w' = W) := F.out.o
  clear ho hY
  have HO1 : Hid (∀ W : World, Below W0.heap.size W0 W → Calls Try.prog 90 #[.int .i64 0, .int .i64 1, .pointer (some ⟨w.heap.size + 1, 0, none⟩), .pointer (some ⟨w.heap.size + 1 + 1, 0, none⟩)] W fun e w' => ∃ z, e = .returned (.string z) ∧ (bl z = wrT 6 false (K 0) (bl (Y 0)) ∧ z.size ≤ 300002) ∧ w' = W) := fun W hW => HO.out 0 1 false W (by rw [hq]; decide) (fun kk => iB_wr 6 kk false 1 (.inr (.inl ⟨rfl, rfl, rfl⟩))) hW
  have HO2 : Hid (∀ W : World, Below W0.heap.size W0 W → Calls Try.prog 90 #[.int .i64 1, .int .i64 2, .pointer (some ⟨w.heap.size + 1, 0, none⟩), .pointer (some ⟨w.heap.size + 1 + 1, 0, none⟩)] W fun e w' => ∃ z, e = .returned (.string z) ∧ (bl z = wrT 6 true (K 1) (bl (Y 1)) ∧ z.size ≤ 300002) ∧ w' = W) := fun W hW => HO.out 1 2 true W (by rw [hq]; decide) (fun kk => iB_wr 6 kk true 2 (.inr (.inr (.inl ⟨rfl, rfl, rfl⟩)))) hW
  clear HO
  go_enter Try.func47, Try.ntmps47
  go_wp2_with fail
  rw [← hW0]
  clear hW0
  refine (HO1.out W0 (Below.refl _ _)).mono ?_
  rintro e w1 ⟨z1, rfl, hz1, hw1⟩
  subst hw1
  have HZ1 : Hid (bl z1 = wrT 6 false (K 0) (bl (Y 0))) := hz1.1
  have hs1 := hz1.2
  clear hz1
  go_wp2_with fail
  refine (HO2.out _ (Below.refl _ _)).mono ?_
  rintro e w2 ⟨z2, rfl, hz2, hw2⟩
  subst hw2
  have HZ2 : Hid (bl z2 = wrT 6 true (K 1) (bl (Y 1))) := hz2.1
  have hs2 := hz2.2
  clear hz2
  go_wp2
  go_ret
  refine ⟨_, rfl, ?_, F.out.b⟩
  rw [bl_app, bl_app, HZ1.out, HZ2.out]
  simp [nodeT, nodeP]
  rfl
set_option maxHeartbeats 2000000 in
theorem textP_7 (s t lb : ByteArray) (bd : Bool) (ad : Option Addr) (cn ca : Nat) (ht : Int) (ap at' : Option Addr) (np cp nt ct q : Nat) (K : Nat → Int) (Y : Nat → ByteArray) (w : World) (hq : q = arOf 7) (ho : OpsIn w (.slice ap np cp) (.slice at' nt ct) q K Y) (hY : ∀ i, i < q → (Y i).size ≤ 300000) (hs : s.size ≤ 30) (htz : t.size ≤ 30) :
    Calls Try.prog 47 #[.agg #[.int .i64 7, .string s, .string t, .bool bd, .string lb, .slice ad cn ca, .int .i64 ht], .slice ap np cp, .slice at' nt ct] w fun e w' => ∃ z, e = .returned (.string z) ∧ bl z = nodeT 7 s t (bl (Y 0)) (K 0) (bl (Y 1)) (K 1) ∧ Below w.heap.size w w' := by
  obtain ⟨W0, hW0⟩ : ∃ W0, W0 = ((w.alloc (.cells #[.int .i64 7, .string s, .string t, .bool bd, .string lb, .slice ad cn ca, .int .i64 ht] 73)).alloc (.cells #[.slice ap np cp] 65)).alloc (.cells #[.slice at' nt ct] 49) := ⟨_, rfl⟩
  have F : Hid (TxF W0 w 7 s t q at' nt ct K Y) := txF_of 7 s t lb bd ad cn ca ht ap at' np cp nt ct q K Y w W0 hW0 ho hY
  have HO : Hid (∀ (i : Nat) (st : Int) (r : Bool) (W : World), i < q → (∀ kk : Int, (iB kk < st) ↔ wrB 7 r (sB kk) = true) → Below W0.heap.size W0 W → Calls Try.prog 90 #[.int .i64 (i : Int), .int .i64 st, .pointer (some ⟨w.heap.size + 1, 0, none⟩), .pointer (some ⟨w.heap.size + 1 + 1, 0, none⟩)] W fun e w' => ∃ z, e = .returned (.string z) ∧ (bl z = wrT 7 r (K i) (bl (Y i)) ∧ z.size ≤ 300002) ∧ w' = W) := F.out.o
  clear ho hY
  have HO1 : Hid (∀ W : World, Below W0.heap.size W0 W → Calls Try.prog 90 #[.int .i64 0, .int .i64 0, .pointer (some ⟨w.heap.size + 1, 0, none⟩), .pointer (some ⟨w.heap.size + 1 + 1, 0, none⟩)] W fun e w' => ∃ z, e = .returned (.string z) ∧ (bl z = wrT 7 false (K 0) (bl (Y 0)) ∧ z.size ≤ 300002) ∧ w' = W) := fun W hW => HO.out 0 0 false W (by rw [hq]; decide) (fun kk => iB_wr 7 kk false 0 (.inr (.inr (.inr (.inl ⟨by omega, rfl, rfl⟩))))) hW
  have HO2 : Hid (∀ W : World, Below W0.heap.size W0 W → Calls Try.prog 90 #[.int .i64 1, .int .i64 1, .pointer (some ⟨w.heap.size + 1, 0, none⟩), .pointer (some ⟨w.heap.size + 1 + 1, 0, none⟩)] W fun e w' => ∃ z, e = .returned (.string z) ∧ (bl z = wrT 7 true (K 1) (bl (Y 1)) ∧ z.size ≤ 300002) ∧ w' = W) := fun W hW => HO.out 1 1 true W (by rw [hq]; decide) (fun kk => iB_wr 7 kk true 1 (.inr (.inr (.inr (.inr ⟨by omega, rfl, rfl⟩))))) hW
  clear HO
  go_enter Try.func47, Try.ntmps47
  go_wp2_with fail
  rw [← hW0]
  clear hW0
  refine (HO1.out W0 (Below.refl _ _)).mono ?_
  rintro e w1 ⟨z1, rfl, hz1, hw1⟩
  subst hw1
  have HZ1 : Hid (bl z1 = wrT 7 false (K 0) (bl (Y 0))) := hz1.1
  have hs1 := hz1.2
  clear hz1
  go_wp2_with fail
  refine (HO2.out _ (Below.refl _ _)).mono ?_
  rintro e w2 ⟨z2, rfl, hz2, hw2⟩
  subst hw2
  have HZ2 : Hid (bl z2 = wrT 7 true (K 1) (bl (Y 1))) := hz2.1
  have hs2 := hz2.2
  clear hz2
  go_wp2
  go_ret
  refine ⟨_, rfl, ?_, F.out.b⟩
  rw [bl_app, bl_app, HZ1.out, HZ2.out]
  simp [nodeT, nodeP]
  rfl
set_option maxHeartbeats 2000000 in
theorem textP_8 (s t lb : ByteArray) (bd : Bool) (ad : Option Addr) (cn ca : Nat) (ht : Int) (ap at' : Option Addr) (np cp nt ct q : Nat) (K : Nat → Int) (Y : Nat → ByteArray) (w : World) (hq : q = arOf 8) (ho : OpsIn w (.slice ap np cp) (.slice at' nt ct) q K Y) (hY : ∀ i, i < q → (Y i).size ≤ 300000) (hs : s.size ≤ 30) (htz : t.size ≤ 30) :
    Calls Try.prog 47 #[.agg #[.int .i64 8, .string s, .string t, .bool bd, .string lb, .slice ad cn ca, .int .i64 ht], .slice ap np cp, .slice at' nt ct] w fun e w' => ∃ z, e = .returned (.string z) ∧ bl z = nodeT 8 s t (bl (Y 0)) (K 0) (bl (Y 1)) (K 1) ∧ Below w.heap.size w w' := by
  obtain ⟨W0, hW0⟩ : ∃ W0, W0 = ((w.alloc (.cells #[.int .i64 8, .string s, .string t, .bool bd, .string lb, .slice ad cn ca, .int .i64 ht] 73)).alloc (.cells #[.slice ap np cp] 65)).alloc (.cells #[.slice at' nt ct] 49) := ⟨_, rfl⟩
  have F : Hid (TxF W0 w 8 s t q at' nt ct K Y) := txF_of 8 s t lb bd ad cn ca ht ap at' np cp nt ct q K Y w W0 hW0 ho hY
  have HO : Hid (∀ (i : Nat) (st : Int) (r : Bool) (W : World), i < q → (∀ kk : Int, (iB kk < st) ↔ wrB 8 r (sB kk) = true) → Below W0.heap.size W0 W → Calls Try.prog 90 #[.int .i64 (i : Int), .int .i64 st, .pointer (some ⟨w.heap.size + 1, 0, none⟩), .pointer (some ⟨w.heap.size + 1 + 1, 0, none⟩)] W fun e w' => ∃ z, e = .returned (.string z) ∧ (bl z = wrT 8 r (K i) (bl (Y i)) ∧ z.size ≤ 300002) ∧ w' = W) := F.out.o
  clear ho hY
  have HO1 : Hid (∀ W : World, Below W0.heap.size W0 W → Calls Try.prog 90 #[.int .i64 0, .int .i64 0, .pointer (some ⟨w.heap.size + 1, 0, none⟩), .pointer (some ⟨w.heap.size + 1 + 1, 0, none⟩)] W fun e w' => ∃ z, e = .returned (.string z) ∧ (bl z = wrT 8 false (K 0) (bl (Y 0)) ∧ z.size ≤ 300002) ∧ w' = W) := fun W hW => HO.out 0 0 false W (by rw [hq]; decide) (fun kk => iB_wr 8 kk false 0 (.inr (.inr (.inr (.inl ⟨by omega, rfl, rfl⟩))))) hW
  have HO2 : Hid (∀ W : World, Below W0.heap.size W0 W → Calls Try.prog 90 #[.int .i64 1, .int .i64 1, .pointer (some ⟨w.heap.size + 1, 0, none⟩), .pointer (some ⟨w.heap.size + 1 + 1, 0, none⟩)] W fun e w' => ∃ z, e = .returned (.string z) ∧ (bl z = wrT 8 true (K 1) (bl (Y 1)) ∧ z.size ≤ 300002) ∧ w' = W) := fun W hW => HO.out 1 1 true W (by rw [hq]; decide) (fun kk => iB_wr 8 kk true 1 (.inr (.inr (.inr (.inr ⟨by omega, rfl, rfl⟩))))) hW
  clear HO
  go_enter Try.func47, Try.ntmps47
  go_wp2_with fail
  rw [← hW0]
  clear hW0
  refine (HO1.out W0 (Below.refl _ _)).mono ?_
  rintro e w1 ⟨z1, rfl, hz1, hw1⟩
  subst hw1
  have HZ1 : Hid (bl z1 = wrT 8 false (K 0) (bl (Y 0))) := hz1.1
  have hs1 := hz1.2
  clear hz1
  go_wp2_with fail
  refine (HO2.out _ (Below.refl _ _)).mono ?_
  rintro e w2 ⟨z2, rfl, hz2, hw2⟩
  subst hw2
  have HZ2 : Hid (bl z2 = wrT 8 true (K 1) (bl (Y 1))) := hz2.1
  have hs2 := hz2.2
  clear hz2
  go_wp2
  go_ret
  refine ⟨_, rfl, ?_, F.out.b⟩
  rw [bl_app, bl_app, HZ1.out, HZ2.out]
  simp [nodeT, nodeP]
  rfl
end Go.Proofs.Ytocmbnocdjnfpaa

namespace Go.Proofs.Ytocmbnocdjnfpaa
open Go.RowKit Go.Deep
set_option linter.unusedVariables false
set_option maxRecDepth 100000

set_option maxHeartbeats 2000000 in
theorem textP_3 (s t lb : ByteArray) (bd : Bool) (ad : Option Addr) (cn ca : Nat) (ht : Int) (ap at' : Option Addr) (np cp nt ct q : Nat) (K : Nat → Int) (Y : Nat → ByteArray) (w : World) (hq : q = arOf 3) (ho : OpsIn w (.slice ap np cp) (.slice at' nt ct) q K Y) (hY : ∀ i, i < q → (Y i).size ≤ 300000) (hs : s.size ≤ 30) (htz : t.size ≤ 30) :
    Calls Try.prog 47 #[.agg #[.int .i64 3, .string s, .string t, .bool bd, .string lb, .slice ad cn ca, .int .i64 ht], .slice ap np cp, .slice at' nt ct] w fun e w' => ∃ z, e = .returned (.string z) ∧ bl z = nodeT 3 s t (bl (Y 0)) (K 0) (bl (Y 1)) (K 1) ∧ Below w.heap.size w w' := by
  have HQs : Hid (∀ W : World, Calls Try.prog 92 #[.string s] W fun e w' => e = .returned (.string (strT (qL (bl s)))) ∧ Below W.heap.size W w') := fun W => quoted_any s W (by omega)
  have HBl : Hid (bl (strT (qL (bl s))) = qL (bl s) ∧ (strT (qL (bl s))).size ≤ 122) := ⟨bl_strT (qL_byt s), by rw [← bl_length, bl_strT (qL_byt s)]; exact qL_length s hs⟩
  obtain ⟨zs, hzs⟩ : ∃ zs, zs = strT (qL (bl s)) := ⟨_, rfl⟩
  rw [← hzs] at HQs HBl
  have hzz : zs.size ≤ 122 := HBl.out.2
  clear hzs
  obtain ⟨W0, hW0⟩ : ∃ W0, W0 = ((w.alloc (.cells #[.int .i64 3, .string s, .string t, .bool bd, .string lb, .slice ad cn ca, .int .i64 ht] 73)).alloc (.cells #[.slice ap np cp] 65)).alloc (.cells #[.slice at' nt ct] 49) := ⟨_, rfl⟩
  have F : Hid (TxF W0 w 3 s t q at' nt ct K Y) := txF_of 3 s t lb bd ad cn ca ht ap at' np cp nt ct q K Y w W0 hW0 ho hY
  have HO : Hid (∀ (i : Nat) (st : Int) (r : Bool) (W : World), i < q → (∀ kk : Int, (iB kk < st) ↔ wrB 3 r (sB kk) = true) → Below W0.heap.size W0 W → Calls Try.prog 90 #[.int .i64 (i : Int), .int .i64 st, .pointer (some ⟨w.heap.size + 1, 0, none⟩), .pointer (some ⟨w.heap.size + 1 + 1, 0, none⟩)] W fun e w' => ∃ z, e = .returned (.string z) ∧ (bl z = wrT 3 r (K i) (bl (Y i)) ∧ z.size ≤ 300002) ∧ w' = W) := F.out.o
  clear ho hY
  have HO1 : Hid (∀ W : World, Below W0.heap.size W0 W → Calls Try.prog 90 #[.int .i64 0, .int .i64 2, .pointer (some ⟨w.heap.size + 1, 0, none⟩), .pointer (some ⟨w.heap.size + 1 + 1, 0, none⟩)] W fun e w' => ∃ z, e = .returned (.string z) ∧ (bl z = wrT 3 false (K 0) (bl (Y 0)) ∧ z.size ≤ 300002) ∧ w' = W) := fun W hW => HO.out 0 2 false W (by rw [hq]; decide) (fun kk => iB_wr 3 kk false 2 (.inl ⟨by omega, rfl, rfl⟩)) hW
  clear HO
  go_enter Try.func47, Try.ntmps47
  go_wp2
  rw [← hW0]
  clear hW0
  have K0 : Hid (Below W0.heap.size W0 W0.drew) := (Below.refl _ _).drew
  obtain ⟨x0, x1, x2⟩ := F.out.s1 W0 (Below.refl _ _)
  clear x0
  go_region_held3 (fun w' => w'.cell? ⟨w.heap.size, 1, none⟩ = some (.string s) ∧ w'.cell? ⟨w.heap.size, 2, none⟩ = some (.string t)) (first | exact (F.out.s1 _ K0.out).2 | exact (F.out.s1 _ HB1.out).2 | go_keep)
    (first
    | (go_at_call 90; (with_reducible refine (HO1.out _ K0.out).mono ?_); rintro e w1 ⟨z1, rfl, hz1, hw1⟩; subst hw1; have HZ1 : Hid (bl z1 = wrT 3 false (K 0) (bl (Y 0))) := hz1.1; have hs1 := hz1.2; clear hz1; have u0 : ¬ 9223372036854775807 < z1.size + 5 := (by omega); have u1 : ¬ 9223372036854775807 < z1.size + 5 + zs.size := (by omega); have u2 : ¬ 9223372036854775807 < z1.size + 5 + zs.size + 1 := (by omega))
    | (go_at_call 92; (with_reducible refine (HQs.out _).mono ?_); rintro e w2 ⟨rfl, hb2⟩; have HB1 : Hid (Below W0.heap.size W0 w2) := K0.out.trans (hb2.mono K0.out.size); clear hb2)
    | fail)
  go_wp2
  go_ret
  refine ⟨_, rfl, ?_, F.out.b.trans (HB1.out.mono (by have := F.out.z; omega))⟩
  rw [bl_app, bl_app, bl_app, HBl.out.1, HZ1.out]
  simp [nodeT, nodeP]
  rfl
set_option maxHeartbeats 2000000 in
theorem textP_4 (s t lb : ByteArray) (bd : Bool) (ad : Option Addr) (cn ca : Nat) (ht : Int) (ap at' : Option Addr) (np cp nt ct q : Nat) (K : Nat → Int) (Y : Nat → ByteArray) (w : World) (hq : q = arOf 4) (ho : OpsIn w (.slice ap np cp) (.slice at' nt ct) q K Y) (hY : ∀ i, i < q → (Y i).size ≤ 300000) (hs : s.size ≤ 30) (htz : t.size ≤ 30) :
    Calls Try.prog 47 #[.agg #[.int .i64 4, .string s, .string t, .bool bd, .string lb, .slice ad cn ca, .int .i64 ht], .slice ap np cp, .slice at' nt ct] w fun e w' => ∃ z, e = .returned (.string z) ∧ bl z = nodeT 4 s t (bl (Y 0)) (K 0) (bl (Y 1)) (K 1) ∧ Below w.heap.size w w' := by
  have HQs : Hid (∀ W : World, Calls Try.prog 92 #[.string s] W fun e w' => e = .returned (.string (strT (qL (bl s)))) ∧ Below W.heap.size W w') := fun W => quoted_any s W (by omega)
  have HBl : Hid (bl (strT (qL (bl s))) = qL (bl s) ∧ (strT (qL (bl s))).size ≤ 122) := ⟨bl_strT (qL_byt s), by rw [← bl_length, bl_strT (qL_byt s)]; exact qL_length s hs⟩
  obtain ⟨zs, hzs⟩ : ∃ zs, zs = strT (qL (bl s)) := ⟨_, rfl⟩
  rw [← hzs] at HQs HBl
  have hzz : zs.size ≤ 122 := HBl.out.2
  clear hzs
  obtain ⟨W0, hW0⟩ : ∃ W0, W0 = ((w.alloc (.cells #[.int .i64 4, .string s, .string t, .bool bd, .string lb, .slice ad cn ca, .int .i64 ht] 73)).alloc (.cells #[.slice ap np cp] 65)).alloc (.cells #[.slice at' nt ct] 49) := ⟨_, rfl⟩
  have F : Hid (TxF W0 w 4 s t q at' nt ct K Y) := txF_of 4 s t lb bd ad cn ca ht ap at' np cp nt ct q K Y w W0 hW0 ho hY
  have HO : Hid (∀ (i : Nat) (st : Int) (r : Bool) (W : World), i < q → (∀ kk : Int, (iB kk < st) ↔ wrB 4 r (sB kk) = true) → Below W0.heap.size W0 W → Calls Try.prog 90 #[.int .i64 (i : Int), .int .i64 st, .pointer (some ⟨w.heap.size + 1, 0, none⟩), .pointer (some ⟨w.heap.size + 1 + 1, 0, none⟩)] W fun e w' => ∃ z, e = .returned (.string z) ∧ (bl z = wrT 4 r (K i) (bl (Y i)) ∧ z.size ≤ 300002) ∧ w' = W) := F.out.o
  clear ho hY
  have HO1 : Hid (∀ W : World, Below W0.heap.size W0 W → Calls Try.prog 90 #[.int .i64 0, .int .i64 2, .pointer (some ⟨w.heap.size + 1, 0, none⟩), .pointer (some ⟨w.heap.size + 1 + 1, 0, none⟩)] W fun e w' => ∃ z, e = .returned (.string z) ∧ (bl z = wrT 4 false (K 0) (bl (Y 0)) ∧ z.size ≤ 300002) ∧ w' = W) := fun W hW => HO.out 0 2 false W (by rw [hq]; decide) (fun kk => iB_wr 4 kk false 2 (.inl ⟨by omega, rfl, rfl⟩)) hW
  clear HO
  go_enter Try.func47, Try.ntmps47
  go_wp2
  rw [← hW0]
  clear hW0
  have K0 : Hid (Below W0.heap.size W0 W0.drew) := (Below.refl _ _).drew
  obtain ⟨x0, x1, x2⟩ := F.out.s1 W0 (Below.refl _ _)
  clear x0
  go_region_held3 (fun w' => w'.cell? ⟨w.heap.size, 1, none⟩ = some (.string s) ∧ w'.cell? ⟨w.heap.size, 2, none⟩ = some (.string t)) (first | exact (F.out.s1 _ K0.out).2 | exact (F.out.s1 _ HB1.out).2 | go_keep)
    (first
    | (go_at_call 90; (with_reducible refine (HO1.out _ K0.out).mono ?_); rintro e w1 ⟨z1, rfl, hz1, hw1⟩; subst hw1; have HZ1 : Hid (bl z1 = wrT 4 false (K 0) (bl (Y 0))) := hz1.1; have hs1 := hz1.2; clear hz1; have u0 : ¬ 9223372036854775807 < z1.size + 4 := (by omega); have u1 : ¬ 9223372036854775807 < z1.size + 4 + zs.size := (by omega); have u2 : ¬ 9223372036854775807 < z1.size + 4 + zs.size + 1 := (by omega))
    | (go_at_call 92; (with_reducible refine (HQs.out _).mono ?_); rintro e w2 ⟨rfl, hb2⟩; have HB1 : Hid (Below W0.heap.size W0 w2) := K0.out.trans (hb2.mono K0.out.size); clear hb2)
    | fail)
  go_wp2
  go_ret
  refine ⟨_, rfl, ?_, F.out.b.trans (HB1.out.mono (by have := F.out.z; omega))⟩
  rw [bl_app, bl_app, bl_app, HBl.out.1, HZ1.out]
  simp [nodeT, nodeP]
  rfl
end Go.Proofs.Ytocmbnocdjnfpaa

namespace Go.Proofs.Ytocmbnocdjnfpaa
open Go.RowKit Go.Deep
set_option linter.unusedVariables false
set_option maxRecDepth 100000

set_option maxHeartbeats 2000000 in
theorem textP_5 (s t lb : ByteArray) (bd : Bool) (ad : Option Addr) (cn ca : Nat) (ht : Int) (ap at' : Option Addr) (np cp nt ct q : Nat) (K : Nat → Int) (Y : Nat → ByteArray) (w : World) (hq : q = arOf 5) (ho : OpsIn w (.slice ap np cp) (.slice at' nt ct) q K Y) (hY : ∀ i, i < q → (Y i).size ≤ 300000) (hs : s.size ≤ 30) (htz : t.size ≤ 30) :
    Calls Try.prog 47 #[.agg #[.int .i64 5, .string s, .string t, .bool bd, .string lb, .slice ad cn ca, .int .i64 ht], .slice ap np cp, .slice at' nt ct] w fun e w' => ∃ z, e = .returned (.string z) ∧ bl z = nodeT 5 s t (bl (Y 0)) (K 0) (bl (Y 1)) (K 1) ∧ Below w.heap.size w w' := by
  have HQs : Hid (∀ W : World, Calls Try.prog 92 #[.string s] W fun e w' => e = .returned (.string (strT (qL (bl s)))) ∧ Below W.heap.size W w') := fun W => quoted_any s W (by omega)
  have HBl : Hid (bl (strT (qL (bl s))) = qL (bl s) ∧ (strT (qL (bl s))).size ≤ 122) := ⟨bl_strT (qL_byt s), by rw [← bl_length, bl_strT (qL_byt s)]; exact qL_length s hs⟩
  obtain ⟨zs, hzs⟩ : ∃ zs, zs = strT (qL (bl s)) := ⟨_, rfl⟩
  rw [← hzs] at HQs HBl
  have hzz : zs.size ≤ 122 := HBl.out.2
  clear hzs
  obtain ⟨W0, hW0⟩ : ∃ W0, W0 = ((w.alloc (.cells #[.int .i64 5, .string s, .string t, .bool bd, .string lb, .slice ad cn ca, .int .i64 ht] 73)).alloc (.cells #[.slice ap np cp] 65)).alloc (.cells #[.slice at' nt ct] 49) := ⟨_, rfl⟩
  have F : Hid (TxF W0 w 5 s t q at' nt ct K Y) := txF_of 5 s t lb bd ad cn ca ht ap at' np cp nt ct q K Y w W0 hW0 ho hY
  have HO : Hid (∀ (i : Nat) (st : Int) (r : Bool) (W : World), i < q → (∀ kk : Int, (iB kk < st) ↔ wrB 5 r (sB kk) = true) → Below W0.heap.size W0 W → Calls Try.prog 90 #[.int .i64 (i : Int), .int .i64 st, .pointer (some ⟨w.heap.size + 1, 0, none⟩), .pointer (some ⟨w.heap.size + 1 + 1, 0, none⟩)] W fun e w' => ∃ z, e = .returned (.string z) ∧ (bl z = wrT 5 r (K i) (bl (Y i)) ∧ z.size ≤ 300002) ∧ w' = W) := F.out.o
  clear ho hY
  have HO1 : Hid (∀ W : World, Below W0.heap.size W0 W → Calls Try.prog 90 #[.int .i64 0, .int .i64 2, .pointer (some ⟨w.heap.size + 1, 0, none⟩), .pointer (some ⟨w.heap.size + 1 + 1, 0, none⟩)] W fun e w' => ∃ z, e = .returned (.string z) ∧ (bl z = wrT 5 false (K 0) (bl (Y 0)) ∧ z.size ≤ 300002) ∧ w' = W) := fun W hW => HO.out 0 2 false W (by rw [hq]; decide) (fun kk => iB_wr 5 kk false 2 (.inl ⟨by omega, rfl, rfl⟩)) hW
  have HQt : Hid (∀ W : World, Calls Try.prog 92 #[.string t] W fun e w' => e = .returned (.string (strT (qL (bl t)))) ∧ Below W.heap.size W w') := fun W => quoted_any t W (by omega)
  have HBt : Hid (bl (strT (qL (bl t))) = qL (bl t) ∧ (strT (qL (bl t))).size ≤ 122) := ⟨bl_strT (qL_byt t), by rw [← bl_length, bl_strT (qL_byt t)]; exact qL_length t htz⟩
  obtain ⟨zt, hzt⟩ : ∃ zt, zt = strT (qL (bl t)) := ⟨_, rfl⟩
  rw [← hzt] at HQt HBt
  have hzq : zt.size ≤ 122 := HBt.out.2
  clear hzt
  clear HO
  go_enter Try.func47, Try.ntmps47
  go_wp2
  rw [← hW0]
  clear hW0
  have K0 : Hid (Below W0.heap.size W0 W0.drew) := (Below.refl _ _).drew
  obtain ⟨x0, x1, x2⟩ := F.out.s1 W0 (Below.refl _ _)
  clear x0
  go_region_held3 (fun w' => w'.cell? ⟨w.heap.size, 1, none⟩ = some (.string s) ∧ w'.cell? ⟨w.heap.size, 2, none⟩ = some (.string t)) (first | exact (F.out.s1 _ HB2.out).2 | exact (F.out.s1 _ HB1.out).2 | exact (F.out.s1 _ K0.out).2 | go_keep)
    (first
    | (go_at_call 90; (with_reducible refine (HO1.out _ K0.out).mono ?_); rintro e w1 ⟨z1, rfl, hz1, hw1⟩; subst hw1; have HZ1 : Hid (bl z1 = wrT 5 false (K 0) (bl (Y 0))) := hz1.1; have hs1 := hz1.2; clear hz1; have u0 : ¬ 9223372036854775807 < z1.size + 5 := (by omega); have u1 : ¬ 9223372036854775807 < z1.size + 5 + zs.size := (by omega); have u2 : ¬ 9223372036854775807 < z1.size + 5 + zs.size + 2 := (by omega); have u3 : ¬ 9223372036854775807 < z1.size + 5 + zs.size + 2 + zt.size := (by omega); have u4 : ¬ 9223372036854775807 < z1.size + 5 + zs.size + 2 + zt.size + 1 := (by omega))
    | (go_at_call 92; (with_reducible refine (HQs.out _).mono ?_); rintro e w2 ⟨rfl, hb2⟩; have HB1 : Hid (Below W0.heap.size W0 w2) := K0.out.trans (hb2.mono K0.out.size); clear hb2)
    | (go_at_call 92; (with_reducible refine (HQt.out _).mono ?_); rintro e w3 ⟨rfl, hb3⟩; have HB2 : Hid (Below W0.heap.size W0 w3) := HB1.out.trans (hb3.mono HB1.out.size); clear hb3)
    | fail)
  go_wp2
  go_ret
  refine ⟨_, rfl, ?_, F.out.b.trans (HB2.out.mono (by have := F.out.z; omega))⟩
  rw [bl_app, bl_app, bl_app, bl_app, bl_app, HBl.out.1, HBt.out.1, HZ1.out]
  simp [nodeT, nodeP]
  rfl
end Go.Proofs.Ytocmbnocdjnfpaa

namespace Go.Proofs.Ytocmbnocdjnfpaa
open Go.RowKit Go.Deep
set_option linter.unusedVariables false
set_option maxRecDepth 100000

set_option maxHeartbeats 2000000 in
theorem textP_9 (s t lb : ByteArray) (bd : Bool) (ad : Option Addr) (cn ca : Nat) (ht : Int) (ap at' : Option Addr) (np cp nt ct q : Nat) (K : Nat → Int) (Y : Nat → ByteArray) (w : World) (hq : q = arOf 9) (ho : OpsIn w (.slice ap np cp) (.slice at' nt ct) q K Y) (hY : ∀ i, i < q → (Y i).size ≤ 300000) (hs : s.size ≤ 30) (htz : t.size ≤ 30) :
    Calls Try.prog 47 #[.agg #[.int .i64 9, .string s, .string t, .bool bd, .string lb, .slice ad cn ca, .int .i64 ht], .slice ap np cp, .slice at' nt ct] w fun e w' => ∃ z, e = .returned (.string z) ∧ bl z = nodeT 9 s t (bl (Y 0)) (K 0) (bl (Y 1)) (K 1) ∧ Below w.heap.size w w' := by
  have HQs : Hid (∀ W : World, Calls Try.prog 92 #[.string s] W fun e w' => e = .returned (.string (strT (qL (bl s)))) ∧ Below W.heap.size W w') := fun W => quoted_any s W (by omega)
  have HBl : Hid (bl (strT (qL (bl s))) = qL (bl s) ∧ (strT (qL (bl s))).size ≤ 122) := ⟨bl_strT (qL_byt s), by rw [← bl_length, bl_strT (qL_byt s)]; exact qL_length s hs⟩
  obtain ⟨zs, hzs⟩ : ∃ zs, zs = strT (qL (bl s)) := ⟨_, rfl⟩
  rw [← hzs] at HQs HBl
  have hzz : zs.size ≤ 122 := HBl.out.2
  clear hzs
  obtain ⟨W0, hW0⟩ : ∃ W0, W0 = ((w.alloc (.cells #[.int .i64 9, .string s, .string t, .bool bd, .string lb, .slice ad cn ca, .int .i64 ht] 73)).alloc (.cells #[.slice ap np cp] 65)).alloc (.cells #[.slice at' nt ct] 49) := ⟨_, rfl⟩
  have F : Hid (TxF W0 w 9 s t q at' nt ct K Y) := txF_of 9 s t lb bd ad cn ca ht ap at' np cp nt ct q K Y w W0 hW0 ho hY
  have HO : Hid (∀ (i : Nat) (st : Int) (r : Bool) (W : World), i < q → (∀ kk : Int, (iB kk < st) ↔ wrB 9 r (sB kk) = true) → Below W0.heap.size W0 W → Calls Try.prog 90 #[.int .i64 (i : Int), .int .i64 st, .pointer (some ⟨w.heap.size + 1, 0, none⟩), .pointer (some ⟨w.heap.size + 1 + 1, 0, none⟩)] W fun e w' => ∃ z, e = .returned (.string z) ∧ (bl z = wrT 9 r (K i) (bl (Y i)) ∧ z.size ≤ 300002) ∧ w' = W) := F.out.o
  clear ho hY
  clear HO
  obtain ⟨gt, e1, e2, hys, hcell⟩ := F.out.t0 (by rw [hq]; decide)
  have hq1 : q = 1 := hq
  subst hq1
  clear hq
  subst e1 e2
  have HC : Hid (∀ W, Below W0.heap.size W0 W → W.cell? ⟨gt, 0, none⟩ = some (.string (Y 0)) ∧ W.cell? ⟨w.heap.size + 1 + 1, 0, none⟩ = some (.slice (some ⟨gt, 0, none⟩) 1 ct)) := hcell
  clear hcell
  go_enter Try.func47, Try.ntmps47
  go_wp2
  rw [← hW0]
  clear hW0
  have K0 : Hid (Below W0.heap.size W0 W0.drew) := (Below.refl _ _).drew
  obtain ⟨x0, x1, x2⟩ := F.out.s1 W0 (Below.refl _ _)
  obtain ⟨y0, y1⟩ := HC.out W0 (Below.refl _ _)
  obtain ⟨y9, hy9⟩ : ∃ y9, y9 = Y 0 := ⟨_, rfl⟩
  rw [← hy9] at y0 hys HC
  have HY9 : Hid (y9 = Y 0) := hy9
  clear hy9
  go_region_with (first
    | (go_at_call 92; (with_reducible refine (HQs.out _).mono ?_); rintro e w2 ⟨rfl, hb2⟩; have HB1 : Hid (Below W0.heap.size W0 w2) := K0.out.trans (hb2.mono K0.out.size); clear hb2 x0 x1 x2 y0 y1; obtain ⟨y0, y1⟩ := HC.out w2 HB1.out)
    | fail)
  all_goals
    go_wp2
    go_ret
    refine ⟨_, rfl, ?_, F.out.b.trans (HB1.out.mono (by have := F.out.z; omega))⟩
    rw [bl_app, bl_app, bl_app, bl_app, HBl.out.1, HY9.out]
    simp [nodeT, nodeP, wrT, wrB]
    rfl
end Go.Proofs.Ytocmbnocdjnfpaa

namespace Go.Proofs.Ytocmbnocdjnfpaa
open Go.RowKit Go.Deep
set_option linter.unusedVariables false
set_option maxRecDepth 100000

theorem textP_any (k : Int) (s t lb : ByteArray) (bd : Bool) (ad : Option Addr) (cn ca : Nat) (ht : Int) (ap at' : Option Addr) (np cp nt ct q : Nat) (K : Nat → Int) (Y : Nat → ByteArray) (w : World) (hq : q = arOf k) (hk : 1 ≤ k ∧ k ≤ 9) (ho : OpsIn w (.slice ap np cp) (.slice at' nt ct) q K Y) (hY : ∀ i, i < q → (Y i).size ≤ 300000) (hs : s.size ≤ 30) (htz : t.size ≤ 30) :
    Calls Try.prog 47 #[.agg #[.int .i64 k, .string s, .string t, .bool bd, .string lb, .slice ad cn ca, .int .i64 ht], .slice ap np cp, .slice at' nt ct] w fun e w' => ∃ z, e = .returned (.string z) ∧ bl z = nodeT k s t (bl (Y 0)) (K 0) (bl (Y 1)) (K 1) ∧ Below w.heap.size w w' := by
  have h9 : k = 1 ∨ k = 2 ∨ k = 3 ∨ k = 4 ∨ k = 5 ∨ k = 6 ∨ k = 7 ∨ k = 8 ∨ k = 9 := by omega
  rcases h9 with rfl | rfl | rfl | rfl | rfl | rfl | rfl | rfl | rfl
  · exact textP_1 s t lb bd ad cn ca ht ap at' np cp nt ct q K Y w hq ho hY hs htz
  · exact textP_2 s t lb bd ad cn ca ht ap at' np cp nt ct q K Y w hq ho hY hs htz
  · exact textP_3 s t lb bd ad cn ca ht ap at' np cp nt ct q K Y w hq ho hY hs htz
  · exact textP_4 s t lb bd ad cn ca ht ap at' np cp nt ct q K Y w hq ho hY hs htz
  · exact textP_5 s t lb bd ad cn ca ht ap at' np cp nt ct q K Y w hq ho hY hs htz
  · exact textP_6 s t lb bd ad cn ca ht ap at' np cp nt ct q K Y w hq ho hY hs htz
  · exact textP_7 s t lb bd ad cn ca ht ap at' np cp nt ct q K Y w hq ho hY hs htz
  · exact textP_8 s t lb bd ad cn ca ht ap at' np cp nt ct q K Y w hq ho hY hs htz
  · exact textP_9 s t lb bd ad cn ca ht ap at' np cp nt ct q K Y w hq ho hY hs htz
end Go.Proofs.Ytocmbnocdjnfpaa
