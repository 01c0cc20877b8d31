import Derived.Test.YtfbhlegkpmcfoaaSpA
import Derived.Test.YtfbhlegkpmcfoaaSecT
import Derived.Test.YtfbhlegkpmcfoaaValid
import Derived.Test.YtfbhlegkpmcfoaaOpenDisk
import Derived.Test.YtfbhlegkpmcfoaaSz
import Derived.Test.YtfbhlegkpmcfoaaToDisk
import Derived.Test.YtfbhlegkpmcfoaaEqD
import Derived.Test.YtfbhlegkpmcfoaaBox
namespace Go.Proofs.Ytfbhlegkpmcfoaa
open Go.RowKit Go.Deep
set_option linter.unusedVariables false
set_option maxRecDepth 100000

theorem lastAt_lt {S : Nat → Int} {s : Int} : ∀ {m k : Nat}, lastAt S s m = some k → k < m
  | 0, k, h => by simp [lastAt] at h
  | m + 1, k, h => by
    unfold lastAt at h
    split at h
    · injection h with h; omega
    · have := lastAt_lt h; omega
theorem secF_range {n m : Nat} {d S : Nat → Int} {L : Nat → Nat} {F : Nat → Nat → Int} {fuel : Int} (hv : VD n m S L fuel) (hd : ∀ i, i < n → 0 ≤ d i ∧ d i < 256) (hF : ∀ i, i < m → ∀ j, j < L i → 0 ≤ F i j ∧ F i j < 256) (s : Nat) (hs : s < n / 64) : ∀ i, i < 64 → 0 ≤ secF d S F m s i ∧ secF d S F m s i < 256 := by
  intro i hi
  cases h : lastAt S s m with
  | none => rw [secF_none h]; exact hd _ (by omega)
  | some k =>
    rw [secF_some h]
    have hk := lastAt_lt h
    exact hF k hk i (by rw [(hv.2 k hk).2.2]; exact hi)

/-- A super's answer, part by part. -/
def srV (k : Bool) (G A Fi : Int) : Value := .agg #[.bool k, .int .i64 G, .int .i64 A, .int .i64 Fi]
theorem supV_form (f : Nat → Int) (j : Int) : ∃ k G A Fi, supV f j = srV k G A Fi ∧ (k = false → G = 0 ∧ A = 0 ∧ Fi = 0) := by
  unfold supV
  split
  · exact ⟨true, _, _, _, rfl, fun h => by cases h⟩
  · exact ⟨false, 0, 0, 0, rfl, fun _ => ⟨rfl, rfl, rfl⟩⟩
/-- The better one of two answers. -/
def betterB (k0 k1 : Bool) (G0 G1 : Int) : Bool := k1 && (!k0 || decide (G0 < G1))

/-- A super's answer handed back through its variable. -/
theorem ret4 {fn : Func} {p : Tmp} (h : fn.results = #[.cell p 36]) (tmps : Array Value) (w : World) (g : Nat) (hp : tmps.getD p undef = .pointer (some ⟨g, 0, none⟩)) {u0 u1 u2 u3 v0 v1 v2 v3 : Value} (hb : w.heap[g]? = some (.cells #[u0, u1, u2, u3] 36 (0, 0))) (o : Obj) :
    (results fn tmps).run Try.prog (((((w.setCell ⟨g, 0, none⟩ v0).setCell ⟨g, 1, none⟩ v1).setCell ⟨g, 2, none⟩ v2).setCell ⟨g, 3, none⟩ v3).alloc o) = .ok (.agg #[v0, v1, v2, v3]) (((((w.setCell ⟨g, 0, none⟩ v0).setCell ⟨g, 1, none⟩ v1).setCell ⟨g, 2, none⟩ v2).setCell ⟨g, 3, none⟩ v3).alloc o) := by
  have hlt : g < w.heap.size := (Array.getElem?_eq_some_iff.1 hb).1
  refine results_cell_row h tmps _ g 36 #[v0, v1, v2, v3] (0, 0) (.struct (Try.prog.fieldsOf 36)) hp ?_ (by kernel_rfl) rfl (by kernel_rfl)
  rw [Below.heap_alloc _ _ _ (by simpa using hlt)]
  simp [World.setCell, Array.getElem?_modify, hb]

theorem below2 (w : World) (o1 o2 : Obj) : Below w.heap.size w ((w.alloc o1).alloc o2) := (below_alloc _ _).trans ((below_alloc _ _).mono (by simp))

set_option maxHeartbeats 2000000 in
theorem specSuper_good (a p : Option Addr) (n c m q : Nat) (d S : Nat → Int) (L : Nat → Nat) (F : Nat → Nat → Int) (fuel : Int) (dead : Bool) (w : World) (ha : Rd .u8 w a n d) (hp : RdP w p m S L F) (hv : VD n m S L fuel) (hn : n ≤ 1048576) (hnc : n ≤ c) (hcm : c ≤ 9223372036854775807) (hm : m ≤ 1048576) (hr : ∀ s, s < n / 64 → ∀ i, i < 64 → 0 ≤ secF d S F m s i ∧ secF d S F m s i < 256)
    (k0 k1 : Bool) (G0 A0 F0 G1 A1 F1 : Int) (h0 : supV (secF d S F m 0) 0 = srV k0 G0 A0 F0) (h1 : supV (secF d S F m 1) 1 = srV k1 G1 A1 F1) :
    Calls Try.prog 10 #[.agg #[.slice a n c, .slice p m q, .int .i64 fuel, .bool dead]] w fun e w' => e = .returned (if betterB k0 k1 G0 G1 = true then srV k1 G1 A1 F1 else srV k0 G0 A0 F0) ∧ Below w.heap.size w w' := by
  have HA : Hid (Rd .u8 w a n d) := ha
  have HP : Hid (RdP w p m S L F) := hp
  have HV : Hid (VD n m S L fuel) := hv
  have HR : Hid (∀ s, s < n / 64 → ∀ i, i < 64 → 0 ≤ secF d S F m s i ∧ secF d S F m s i < 256) := hr
  have hpos : 1024 ≤ n := by have := hv.1; unfold VH at this; omega
  have H0 : Hid (supV (secF d S F m 0) (0 : Nat) = .agg #[.bool k0, .int .i64 G0, .int .i64 A0, .int .i64 F0]) := h0
  have H1 : Hid (supV (secF d S F m 1) (1 : Nat) = .agg #[.bool k1, .int .i64 G1, .int .i64 A1, .int .i64 F1]) := h1
  have HE2 : Hid (∀ o1 o2, ((w.alloc o1).alloc o2).heap.size = w.heap.size + 2) := fun _ _ => by simp
  clear ha hp hv hr h0 h1
  go_enter Try.func10, Try.ntmps10
  go_wp2_with fail
  refine (specValid_any a p n c m q S L F fuel dead _ (HP.out.below (below2 _ _ _)) hn hm).mono ?_
  rintro e w1 ⟨hx1, hb1⟩
  have := ans_true hx1 HV.out
  subst this
  rw [HE2.out] at hb1
  have K1 : Hid (Below (w.heap.size + 2) ((w.alloc (.cells #[.slice a n c, .slice p m q, .int .i64 fuel, .bool dead] 40)).alloc (.cells #[.bool false, .int .i64 0, .int .i64 0, .int .i64 0] 36)) w1) := hb1
  have HFIN : Hid (∀ W, Below (w.heap.size + 2) ((w.alloc (.cells #[.slice a n c, .slice p m q, .int .i64 fuel, .bool dead] 40)).alloc (.cells #[.bool false, .int .i64 0, .int .i64 0, .int .i64 0] 36)) W → Below w.heap.size w W) := fun W h => (below2 _ _ _).trans (h.mono (by omega))
  have z1 : w.heap.size + 2 ≤ w1.heap.size := by have := K1.out.size; rw [HE2.out] at this; exact this
  have hc1 : ∀ b o, b < w.heap.size + 2 → w1.cell? ⟨b, o, none⟩ = _ := fun b o hb => K1.out.cell (p := ⟨b, o, none⟩) hb
  clear hb1 hx1
  go_wp2_with fail
  refine (l2SuperAt_any a p n c m q d S L F fuel dead 0 w1 (HA.out.below (HFIN.out _ K1.out)) (HP.out.below (HFIN.out _ K1.out)) HV.out (by omega) hn hnc hcm hm (HR.out 0 (by omega))).mono ?_
  rintro e w2 ⟨rfl, hb2⟩
  rw [H0.out]
  have z2 := hb2.size
  have K2 : Hid (Below (w.heap.size + 2) ((w.alloc (.cells #[.slice a n c, .slice p m q, .int .i64 fuel, .bool dead] 40)).alloc (.cells #[.bool false, .int .i64 0, .int .i64 0, .int .i64 0] 36)) w2) := K1.out.trans (hb2.mono z1)
  clear hc1 hb2
  have hc2 : ∀ b o, b < w.heap.size + 2 → w2.cell? ⟨b, o, none⟩ = _ := fun b o hb => K2.out.cell (p := ⟨b, o, none⟩) hb
  have z02 : w.heap.size < w2.heap.size := by omega
  go_wp2_with fail
  refine (l2SuperAt_any a p n c m q d S L F fuel dead 1 _ ((HA.out.below (HFIN.out _ K2.out)).below (below_alloc _ _)) ((HP.out.below (HFIN.out _ K2.out)).below (below_alloc _ _)) HV.out (by omega) hn hnc hcm hm (HR.out 1 (by omega))).mono ?_
  rintro e w3 ⟨rfl, hb3⟩
  rw [H1.out]
  rw [World.size_alloc] at hb3
  obtain ⟨y0, y1, y2, y3, yz⟩ := box4 hb3
  have K3 : Hid (Below (w.heap.size + 2) ((w.alloc (.cells #[.slice a n c, .slice p m q, .int .i64 fuel, .bool dead] 40)).alloc (.cells #[.bool false, .int .i64 0, .int .i64 0, .int .i64 0] 36)) w3) := (K2.out.alloc (by omega) _).trans (hb3.mono (by omega))
  clear hc2 hb3 HA HP HV HR H0 H1
  have hc3 : ∀ b o, b < w.heap.size + 2 → w3.cell? ⟨b, o, none⟩ = _ := fun b o hb => K3.out.cell (p := ⟨b, o, none⟩) hb
  have hf3 : ∀ b o, b < w.heap.size + 2 → w3.frozen? ⟨b, o, none⟩ = _ := fun b o hb => K3.out.frozen (p := ⟨b, o, none⟩) hb
  have z13 : w.heap.size + 1 < w3.heap.size := by omega
  have z23 : w2.heap.size < w3.heap.size := yz
  have HB3 : Hid (Below w.heap.size w w3) := HFIN.out _ K3.out
  have HBK : Hid (w3.heap[w.heap.size + 1]? = some (.cells #[.bool false, .int .i64 0, .int .i64 0, .int .i64 0] 36 (0, 0))) := (K3.out.block _ (by omega)).trans (by have := blk_alloc_new (w.alloc (.cells #[.slice a n c, .slice p m q, .int .i64 fuel, .bool dead] 40)) (.cells #[.bool false, .int .i64 0, .int .i64 0, .int .i64 0] 36); rw [World.size_alloc] at this; exact this)
  cases k1 with
  | false =>
    have hB : betterB k0 false G0 G1 = false := rfl
    go_wp2
    refine bodyPost_ret (v := .agg #[.bool k0, .int .i64 G0, .int .i64 A0, .int .i64 F0]) (ret4 rfl _ w3 (w.heap.size + 1) rfl HBK.out _) rfl ⟨rfl, ?_⟩
    exact ((((HB3.out.setCell (by simp) _).setCell (by simp) _).setCell (by simp) _).setCell (by simp) _).alloc (by have := HB3.out.size; simp; omega) _
  | true =>
    cases k0 with
    | false =>
      have hB : betterB false true G0 G1 = true := rfl
      go_wp2
      refine bodyPost_ret (v := .agg #[.bool true, .int .i64 G1, .int .i64 A1, .int .i64 F1]) (ret4 rfl _ w3 (w.heap.size + 1) rfl HBK.out _) rfl ⟨rfl, ?_⟩
      exact ((((HB3.out.setCell (by simp) _).setCell (by simp) _).setCell (by simp) _).setCell (by simp) _).alloc (by have := HB3.out.size; simp; omega) _
    | true =>
      by_cases hG : G0 < G1
      · have hB : betterB true true G0 G1 = true := by simp [betterB, hG]
        go_wp2
        refine bodyPost_ret (v := .agg #[.bool true, .int .i64 G1, .int .i64 A1, .int .i64 F1]) (ret4 rfl _ w3 (w.heap.size + 1) rfl HBK.out _) rfl ⟨rfl, ?_⟩
        exact ((((HB3.out.setCell (by simp) _).setCell (by simp) _).setCell (by simp) _).setCell (by simp) _).alloc (by have := HB3.out.size; simp; omega) _
      · have hB : betterB true true G0 G1 = false := by simp [betterB]; omega
        have hG' : decide (G0 < G1) = false := by simpa using hG
        clear hG
        go_wp2
        all_goals refine bodyPost_ret (v := .agg #[.bool true, .int .i64 G0, .int .i64 A0, .int .i64 F0]) (ret4 rfl _ w3 (w.heap.size + 1) rfl HBK.out _) rfl ⟨rfl, ?_⟩
        all_goals exact ((((HB3.out.setCell (by simp) _).setCell (by simp) _).setCell (by simp) _).setCell (by simp) _).alloc (by have := HB3.out.size; simp; omega) _

set_option maxHeartbeats 1000000 in
theorem specSuper_bad (a p : Option Addr) (n c m q : Nat) (S : Nat → Int) (L : Nat → Nat) (F : Nat → Nat → Int) (fuel : Int) (dead : Bool) (w : World) (hp : RdP w p m S L F) (hv : ¬ VD n m S L fuel) (hn : n ≤ 1048576) (hm : m ≤ 1048576) :
    Calls Try.prog 10 #[.agg #[.slice a n c, .slice p m q, .int .i64 fuel, .bool dead]] w fun e w' => e = .returned (srV false 0 0 0) ∧ Below w.heap.size w w' := by
  have HP : Hid (RdP w p m S L F) := hp
  have HV : Hid (¬ VD n m S L fuel) := hv
  have HE2 : Hid (∀ o1 o2, ((w.alloc o1).alloc o2).heap.size = w.heap.size + 2) := fun _ _ => by simp
  clear hp hv
  go_enter Try.func10, Try.ntmps10
  go_wp2_with fail
  refine (specValid_any a p n c m q S L F fuel dead _ (HP.out.below (below2 _ _ _)) hn hm).mono ?_
  rintro e w1 ⟨hx1, hb1⟩
  have := ans_false hx1 HV.out
  subst this
  rw [HE2.out] at hb1
  have hc1 : ∀ b o, b < w.heap.size + 2 → w1.cell? ⟨b, o, none⟩ = _ := fun b o hb => hb1.cell (p := ⟨b, o, none⟩) hb
  have hf1 : ∀ b o, b < w.heap.size + 2 → w1.frozen? ⟨b, o, none⟩ = _ := fun b o hb => hb1.frozen (p := ⟨b, o, none⟩) hb
  have hz : w.heap.size + 1 < w1.heap.size := by have := hb1.size; rw [HE2.out] at this; omega
  have HB1 : Hid (Below w.heap.size w w1) := (below2 _ _ _).trans (hb1.mono (by omega))
  clear hb1 hx1
  go_wp2
  refine bodyPost_ret (v := srV false 0 0 0) (by simp [srV, results, Try.results10, go_sem, hc1]) rfl ⟨rfl, ?_⟩
  exact (((HB1.out.setCell (by simp) _).setCell (by simp) _).setCell (by simp) _).setCell (by simp) _

end Go.Proofs.Ytfbhlegkpmcfoaa
