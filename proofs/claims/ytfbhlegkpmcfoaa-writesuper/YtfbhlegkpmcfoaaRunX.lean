import Derived.Test.YtfbhlegkpmcfoaaLeft
import Derived.Test.YtfbhlegkpmcfoaaUntilX
namespace Go.Proofs.Ytfbhlegkpmcfoaa
open Go.RowKit Go.Deep
set_option linter.unusedVariables false
set_option maxRecDepth 100000

set_option maxHeartbeats 1000000 in
theorem runSteps_super (a p : Option Addr) (n c m q : Nat) (d S : Nat → Int) (L : Nat → Nat) (F : Nat → Nat → Int) (fuel : Int) (dead : Bool) (k1 : Value) (w : World) (ha : Rd .u8 w a n d) (hp : RdP w p m S L F) (hn : n ≤ 1048576) (hm : m ≤ 1048576) (hL : ∀ i, i < m → L i ≤ 1048576)
    (d2 : Nat → Int) (m2 : Nat) (S2 : Nat → Int) (L2 : Nat → Nat) (F2 : Nat → Nat → Int) (fuel2 : Int) (dead2 : Bool)
    (hst : ∀ (W : World) (b B : Nat) (a' p' : Option Addr) (c' q' : Nat) (A C), Dev W b (.slice a' n c') (.slice p' m q') fuel dead → OwnB W B a' n d → Gath W B (.slice p' m q') m S L F A C → (n ≠ 0 → ∀ i, i < m → L i ≠ 0 → A i ≠ a') → n ≤ c' → c' ≤ 9223372036854775807 → B ≤ b → w.heap.size + 2 ≤ B → Below w.heap.size w W →
      Calls Try.prog 44 #[.pointer (some ⟨b, 0, none⟩), k1] W fun e w' => Stepped e ∧ Left W b B n w' d2 m2 S2 L2 F2 fuel2 dead2) :
    Calls Try.prog 43 #[.agg #[.slice a n c, .slice p m q, .int .i64 fuel, .bool dead], .func (.func 44) #[] #[k1]] w fun e w' => RetD w e w' n d2 m2 S2 L2 F2 fuel2 dead2 := by
  have HA : Hid (Rd .u8 w a n d) := ha
  have HP : Hid (RdP w p m S L F) := hp
  have HST : Hid (∀ (W : World) (b B : Nat) (a' p' : Option Addr) (c' q' : Nat) (A C), Dev W b (.slice a' n c') (.slice p' m q') fuel dead → OwnB W B a' n d → Gath W B (.slice p' m q') m S L F A C → (n ≠ 0 → ∀ i, i < m → L i ≠ 0 → A i ≠ a') → n ≤ c' → c' ≤ 9223372036854775807 → B ≤ b → w.heap.size + 2 ≤ B → Below w.heap.size w W →
      Calls Try.prog 44 #[.pointer (some ⟨b, 0, none⟩), k1] W fun e w' => Stepped e ∧ Left W b B n w' d2 m2 S2 L2 F2 fuel2 dead2) := hst
  have HLL : Hid (∀ i, i < m → L i ≤ 1048576) := hL
  clear ha hp hst hL
  go_enter Try.func43, Try.ntmps43
  go_wp2_with fail
  refine (copyDisk_gath a p n c m q d S L F fuel dead _ (HA.out.below (below_alloc2' _ _ _)) (HP.out.below (below_alloc2' _ _ _)) hn hm HLL.out).mono ?_
  rintro e w1 ⟨a1, c1, p1, q1, A1, C1, rfl, ho1, hg1, hx1, hb1, hl1, hm1⟩
  have E2 : ∀ O O', ((w.alloc O).alloc O').heap.size = w.heap.size + 2 := fun O O' => by simp
  rw [E2] at ho1 hg1 hb1
  have z1 : w.heap.size + 2 ≤ w1.heap.size := by have := hb1.size; simpa using this
  have B1 : Hid (Below w.heap.size w w1) := (below_alloc2' _ _ _).trans (hb1.mono (by omega))
  have K1 : Hid (Below (w.heap.size + 2) ((w.alloc _).alloc _) w1) := hb1
  have HC : Hid (Calls Try.prog 44 #[.pointer (some ⟨w1.heap.size, 0, none⟩), k1] (w1.alloc (.cells #[.slice a1 n c1, .slice p1 m q1, .int .i64 fuel, .bool dead] 103)) fun e w' => Stepped e ∧ Left (w1.alloc (.cells #[.slice a1 n c1, .slice p1 m q1, .int .i64 fuel, .bool dead] 103)) w1.heap.size (w.heap.size + 2) n w' d2 m2 S2 L2 F2 fuel2 dead2) :=
    HST.out _ _ _ a1 p1 c1 q1 A1 C1 (devNew w1 _ _ _ _) (ho1.below (below_alloc _ _)) (hg1.below (below_alloc _ _)) hx1 hl1 hm1 z1 (Nat.le_refl _) (B1.out.alloc B1.out.size _)
  clear ho1 hg1 hx1 hb1 E2
  go_wp2_with fail
  refine (until_super w1.heap.size k1 _ (fun w' => Left (w1.alloc (.cells #[.slice a1 n c1, .slice p1 m q1, .int .i64 fuel, .bool dead] 103)) w1.heap.size (w.heap.size + 2) n w' d2 m2 S2 L2 F2 fuel2 dead2) HC.out).mono ?_
  rintro e w3 ⟨rfl, w2, ⟨a2, c2, p2, q2, A2, C2, hd2, ho2, hg2, hx2, hb2⟩, hb3⟩
  have z2 := hb2.size
  rw [alloc_size] at z2
  have D3 := (hd2.below hb3).cells
  obtain ⟨y0, y1, y2, y3, yf, yl⟩ := D3
  have K3 : Below (w.heap.size + 2) ((w.alloc _).alloc _) w3 := ((K1.out.alloc (by simpa using z1) _).trans hb2).trans (hb3.mono (by omega))
  have hc3 : ∀ b o, b < w.heap.size + 2 → w3.cell? ⟨b, o, none⟩ = _ := fun b o hb => K3.cell (p := ⟨b, o, none⟩) hb
  have hf3 : ∀ b o, b < w.heap.size + 2 → w3.frozen? ⟨b, o, none⟩ = _ := fun b o hb => K3.frozen (p := ⟨b, o, none⟩) hb
  obtain ⟨p3, q3, hv3, hp3⟩ := hg2.ownP
  injection hv3 with e1 _ e3
  subst e1 e3
  have HX : Hid (OwnD w3 (w.heap.size + 2) a2 n d2 p2 m2 S2 L2 F2 A2 ∧ Below w.heap.size w w3) :=
    ⟨(OwnD.mk ho2 hp3 hx2).below hb3, ((B1.out.alloc B1.out.size _).trans (hb2.mono (by omega))).trans (hb3.mono (by omega))⟩
  have hz3 : w.heap.size + 1 < w3.heap.size := by have := hb3.size; omega
  clear hd2 ho2 hg2 hx2 hb2 hb3 K3 hp3
  go_wp2
  refine bodyPost_ret (v := .agg #[.slice a2 n c2, .slice p2 m2 q2, .int .i64 fuel2, .bool dead2]) (by simp [results, Try.results43, go_sem, hc3]) rfl ⟨a2, c2, p2, q2, A2, rfl, ?_, ?_⟩
  · exact ((((HX.out.1.setOther (by simp) _).setOther (by simp) _).setOther (by simp) _).setOther (by simp) _).mono (by omega)
  · exact (((HX.out.2.setCell (by simp) _).setCell (by simp) _).setCell (by simp) _).setCell (by simp) _
end Go.Proofs.Ytfbhlegkpmcfoaa
