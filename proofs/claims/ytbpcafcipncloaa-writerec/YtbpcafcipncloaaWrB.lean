import Derived.Test.YtbpcafcipncloaaUntil
import Derived.Test.YtbpcafcipncloaaLeft
import Derived.Test.YtbpcafcipncloaaWrA
import Derived.Test.YtbpcafcipncloaaBox
import Derived.BigQuiet
namespace Go.Proofs.Ytbpcafcipncloaa
open Go.RowKit Go.Deep
set_option linter.unusedVariables false
set_option maxRecDepth 100000

set_option maxHeartbeats 400000 in
theorem until_rec (b : Nat) (c1 c2 c3 : Value) (w : World) (R : World → Prop) (h : Calls Try.prog 54 #[.pointer (some ⟨b, 0, none⟩), c1, c2, c3] w fun e w' => Stepped e ∧ R w') :
    Calls Try.prog 78 #[.pointer (some ⟨b, 0, none⟩), .func (.func 54) #[] #[c1, c2, c3]] w fun e w' => e = .returned (.tuple #[]) ∧ ∃ w1, R w1 ∧ Below w1.heap.size w1 w' := by
  have H : Hid (Calls Try.prog 54 #[.pointer (some ⟨b, 0, none⟩), c1, c2, c3] w fun e w' => Stepped e ∧ R w') := h
  clear h
  go_enter_defers Try.func78, Try.ntmps78
  go_wp2_with fail
  refine H.out.mono ?_
  rintro e w1 ⟨he | he, hR⟩
  · subst he
    go_wp2
    refine leaves_cons (f := 86) (args := #[]) (by simp) (by simp [go_sem]) ?_
    refine (catch_idle _).mono ?_
    rintro e u' w'' ⟨rfl, rfl, rfl⟩
    simp [Leaves, settle, results, Try.results78, go_sem]
    exact ⟨_, hR, Below.refl _ _⟩
  · subst he
    go_wp2
    refine leaves_cons (f := 86) (args := #[]) (by simp) (by simp [go_sem]) ?_
    refine (catch_power [] _).mono ?_
    rintro e u' w'' ⟨rfl, rfl, hb⟩
    simp [Leaves, settle, results, Try.results78, go_sem]
    exact ⟨_, hR, hb⟩
end Go.Proofs.Ytbpcafcipncloaa

namespace Go.Proofs.Ytbpcafcipncloaa
open Go.RowKit Go.Deep
set_option linter.unusedVariables false
set_option maxRecDepth 100000

set_option maxHeartbeats 1000000 in
theorem runSteps_rec (a p : Option Addr) (n c m q : Nat) (d S : Nat → Int) (L : Nat → Nat) (F : Nat → Nat → Int) (fuel : Int) (dead : Bool) (k1 k2 k3 : Value) (w : World) (ha : Rd .u8 w a n d) (hp : RdP w p m S L F) (hn : n ≤ 1048576) (hm : m ≤ 1048576) (hL : ∀ i, i < m → L i ≤ 1048576)
    (d2 : Nat → Int) (m2 : Nat) (S2 : Nat → Int) (L2 : Nat → Nat) (F2 : Nat → Nat → Int) (fuel2 : Int) (dead2 : Bool)
    (hst : ∀ (W : World) (b B : Nat) (a' p' : Option Addr) (c' q' : Nat) (A C), Dev W b (.slice a' n c') (.slice p' m q') fuel dead → OwnB W B a' n d → Gath W B (.slice p' m q') m S L F A C → (n ≠ 0 → ∀ i, i < m → L i ≠ 0 → A i ≠ a') → n ≤ c' → c' ≤ 9223372036854775807 → B ≤ b → w.heap.size + 2 ≤ B → Below w.heap.size w W →
      Calls Try.prog 54 #[.pointer (some ⟨b, 0, none⟩), k1, k2, k3] W fun e w' => Stepped e ∧ Left W b B n w' d2 m2 S2 L2 F2 fuel2 dead2) :
    Calls Try.prog 53 #[.agg #[.slice a n c, .slice p m q, .int .i64 fuel, .bool dead], .func (.func 54) #[] #[k1, k2, k3]] w fun e w' => RetD w e w' n d2 m2 S2 L2 F2 fuel2 dead2 := by
  have HA : Hid (Rd .u8 w a n d) := ha
  have HP : Hid (RdP w p m S L F) := hp
  have HST : Hid (∀ (W : World) (b B : Nat) (a' p' : Option Addr) (c' q' : Nat) (A C), Dev W b (.slice a' n c') (.slice p' m q') fuel dead → OwnB W B a' n d → Gath W B (.slice p' m q') m S L F A C → (n ≠ 0 → ∀ i, i < m → L i ≠ 0 → A i ≠ a') → n ≤ c' → c' ≤ 9223372036854775807 → B ≤ b → w.heap.size + 2 ≤ B → Below w.heap.size w W →
      Calls Try.prog 54 #[.pointer (some ⟨b, 0, none⟩), k1, k2, k3] W fun e w' => Stepped e ∧ Left W b B n w' d2 m2 S2 L2 F2 fuel2 dead2) := hst
  have HLL : Hid (∀ i, i < m → L i ≤ 1048576) := hL
  clear ha hp hst hL
  go_enter Try.func53, Try.ntmps53
  go_wp2_with fail
  refine (copyDisk_gath a p n c m q d S L F fuel dead _ (HA.out.below (below_alloc2' _ _ _)) (HP.out.below (below_alloc2' _ _ _)) hn hm HLL.out).mono ?_
  rintro e w1 ⟨a1, c1, p1, q1, A1, C1, rfl, ho1, hg1, hx1, hb1, hl1, hm1⟩
  have E2 : ∀ O O', ((w.alloc O).alloc O').heap.size = w.heap.size + 2 := fun O O' => by simp
  rw [E2] at ho1 hg1 hb1
  have z1 : w.heap.size + 2 ≤ w1.heap.size := by have := hb1.size; simpa using this
  have B1 : Hid (Below w.heap.size w w1) := (below_alloc2' _ _ _).trans (hb1.mono (by omega))
  have K1 : Hid (Below (w.heap.size + 2) ((w.alloc _).alloc _) w1) := hb1
  have HC : Hid (Calls Try.prog 54 #[.pointer (some ⟨w1.heap.size, 0, none⟩), k1, k2, k3] (w1.alloc (.cells #[.slice a1 n c1, .slice p1 m q1, .int .i64 fuel, .bool dead] 95)) fun e w' => Stepped e ∧ Left (w1.alloc (.cells #[.slice a1 n c1, .slice p1 m q1, .int .i64 fuel, .bool dead] 95)) w1.heap.size (w.heap.size + 2) n w' d2 m2 S2 L2 F2 fuel2 dead2) :=
    HST.out _ _ _ a1 p1 c1 q1 A1 C1 (devNew w1 _ _ _ _) (ho1.below (below_alloc _ _)) (hg1.below (below_alloc _ _)) hx1 hl1 hm1 z1 (Nat.le_refl _) (B1.out.alloc B1.out.size _)
  clear ho1 hg1 hx1 hb1 E2
  go_wp2_with fail
  refine (until_rec w1.heap.size k1 k2 k3 _ (fun w' => Left (w1.alloc (.cells #[.slice a1 n c1, .slice p1 m q1, .int .i64 fuel, .bool dead] 95)) w1.heap.size (w.heap.size + 2) n w' d2 m2 S2 L2 F2 fuel2 dead2) HC.out).mono ?_
  rintro e w3 ⟨rfl, w2, ⟨a2, c2, p2, q2, A2, C2, hd2, ho2, hg2, hx2, hb2⟩, hb3⟩
  have z2 := hb2.size
  rw [alloc_size] at z2
  have D3 := (hd2.below hb3).cells
  obtain ⟨y0, y1, y2, y3, yf, yl⟩ := D3
  have K3 : Below (w.heap.size + 2) ((w.alloc _).alloc _) w3 := ((K1.out.alloc (by simpa using z1) _).trans hb2).trans (hb3.mono (by omega))
  have hc3 : ∀ b o, b < w.heap.size + 2 → w3.cell? ⟨b, o, none⟩ = _ := fun b o hb => K3.cell (p := ⟨b, o, none⟩) hb
  have hf3 : ∀ b o, b < w.heap.size + 2 → w3.frozen? ⟨b, o, none⟩ = _ := fun b o hb => K3.frozen (p := ⟨b, o, none⟩) hb
  obtain ⟨p3, q3, hv3, hp3⟩ := hg2.ownP
  injection hv3 with e1 _ e3
  subst e1 e3
  have HX : Hid (OwnD w3 (w.heap.size + 2) a2 n d2 p2 m2 S2 L2 F2 A2 ∧ Below w.heap.size w w3) :=
    ⟨(OwnD.mk ho2 hp3 hx2).below hb3, ((B1.out.alloc B1.out.size _).trans (hb2.mono (by omega))).trans (hb3.mono (by omega))⟩
  have hz3 : w.heap.size + 1 < w3.heap.size := by have := hb3.size; omega
  clear hd2 ho2 hg2 hx2 hb2 hb3 K3 hp3
  go_wp2
  refine bodyPost_ret (v := .agg #[.slice a2 n c2, .slice p2 m2 q2, .int .i64 fuel2, .bool dead2]) (by simp [results, Try.results53, go_sem, hc3]) rfl ⟨a2, c2, p2, q2, A2, rfl, ?_, ?_⟩
  · exact ((((HX.out.1.setOther (by simp) _).setOther (by simp) _).setOther (by simp) _).setOther (by simp) _).mono (by omega)
  · exact (((HX.out.2.setCell (by simp) _).setCell (by simp) _).setCell (by simp) _).setCell (by simp) _
end Go.Proofs.Ytbpcafcipncloaa

namespace Go.Proofs.Ytbpcafcipncloaa
open Go.RowKit Go.Deep
set_option linter.unusedVariables false
set_option maxRecDepth 100000

theorem below_alloc5 (w : World) (o1 o2 o3 o4 o5 : Obj) : Below w.heap.size w (((((w.alloc o1).alloc o2).alloc o3).alloc o4).alloc o5) :=
  ((((below_alloc _ _).alloc (by simp) _).alloc (by simp; omega) _).alloc (by simp; omega) _).alloc (by simp; omega) _

theorem below_alloc3' (w : World) (o1 o2 o3 : Obj) : Below w.heap.size w (((w.alloc o1).alloc o2).alloc o3) :=
  ((below_alloc _ _).alloc (by simp) _).alloc (by simp; omega) _

/-- What lies in the frame of WriteRec. -/
theorem frame5 (w : World) (v0 v1 v2 v3 v4 v5 v6 : Value) (o5 : Obj) (tt : Unit) :
    Box4 (((((w.alloc (.cells #[v0, v1, v2, v3] 39)).alloc (.cells #[v4] 2)).alloc (.cells #[v5] 2)).alloc (.cells #[v6] 24)).alloc o5) w.heap.size v0 v1 v2 v3 ∧
    (((((w.alloc (.cells #[v0, v1, v2, v3] 39)).alloc (.cells #[v4] 2)).alloc (.cells #[v5] 2)).alloc (.cells #[v6] 24)).alloc o5).cell? ⟨w.heap.size + 1, 0, none⟩ = some v4 ∧
    (((((w.alloc (.cells #[v0, v1, v2, v3] 39)).alloc (.cells #[v4] 2)).alloc (.cells #[v5] 2)).alloc (.cells #[v6] 24)).alloc o5).cell? ⟨w.heap.size + 2, 0, none⟩ = some v5 ∧
    (((((w.alloc (.cells #[v0, v1, v2, v3] 39)).alloc (.cells #[v4] 2)).alloc (.cells #[v5] 2)).alloc (.cells #[v6] 24)).alloc o5).cell? ⟨w.heap.size + 3, 0, none⟩ = some v6 := by
  have HN : ∀ (W : World) (k : Nat) (v : Value) (t : TypeId), W.heap.size = k → (W.alloc (.cells #[v] t)).cell? ⟨k, 0, none⟩ = some v := by
    rintro W k v t rfl
    simp
  refine ⟨((Box4.new w v0 v1 v2 v3 39).below (below_alloc3' _ _ _ _)).below (below_alloc _ _), ?_, ?_, ?_⟩
  · refine (Below.cell (below_alloc3' _ _ _ _) (p := ⟨w.heap.size + 1, 0, none⟩) ?_).trans ?_
    · simp
    · exact HN _ _ _ _ (by simp)
  · refine (Below.cell (below_alloc2' _ _ _) (p := ⟨w.heap.size + 2, 0, none⟩) ?_).trans ?_
    · simp
    · exact HN _ _ _ _ (by simp)
  · refine (Below.cell (below_alloc _ _) (p := ⟨w.heap.size + 3, 0, none⟩) ?_).trans ?_
    · simp
    · exact HN _ _ _ _ (by simp)

set_option maxHeartbeats 400000 in
theorem recSectors_big (x : Int) (h : 30000 < x) (w : World) : Calls Try.prog 9 #[.int .i64 x] w fun e w' => e = .returned (.int .i64 0) ∧ w' = w := by
  have x0 : ¬ x < 0 := by omega
  go_enter Try.func9, Try.ntmps9
  go_wp2
  go_ret
  exact ⟨rfl, rfl⟩

set_option maxHeartbeats 400000 in
theorem closure_rec (b b1 b2 b3 : Nat) (at_ seq : Int) (v : Value) (w : World) (R : World → Prop) (h0 : w.cell? ⟨b1, 0, none⟩ = some (.int .i64 at_)) (h1 : w.cell? ⟨b2, 0, none⟩ = some (.int .i64 seq)) (h2 : w.cell? ⟨b3, 0, none⟩ = some v)
    (h : Calls Try.prog 55 #[.pointer (some ⟨b, 0, none⟩), .int .i64 at_, .int .i64 seq, v] w fun e w' => Stepped e ∧ R w') :
    Calls Try.prog 54 #[.pointer (some ⟨b, 0, none⟩), .pointer (some ⟨b1, 0, none⟩), .pointer (some ⟨b2, 0, none⟩), .pointer (some ⟨b3, 0, none⟩)] w fun e w' => Stepped e ∧ R w' := by
  have H : Hid (Calls Try.prog 55 #[.pointer (some ⟨b, 0, none⟩), .int .i64 at_, .int .i64 seq, v] w fun e w' => Stepped e ∧ R w') := h
  clear h
  go_enter Try.func54, Try.ntmps54
  go_wp2_with fail
  refine H.out.mono ?_
  rintro e w1 ⟨he | he, hR⟩
  · subst he
    go_wp2
    go_end0
    exact ⟨Or.inl rfl, hR⟩
  · subst he
    go_wp2
    exact ⟨rfl, Or.inr rfl, hR⟩

set_option maxHeartbeats 2000000 in
theorem implRec_big (a p ad : Option Addr) (n c m q N cp : Nat) (d S : Nat → Int) (L : Nat → Nat) (F : Nat → Nat → Int) (fuel : Int) (dead : Bool) (at_ seq : Int) (w : World) (ha : Rd .u8 w a n d) (hp : RdP w p m S L F) (hn : n ≤ 1048576) (hm : m ≤ 1048576) (hL : ∀ i, i < m → L i ≤ 1048576) (hN : 30000 < N) (hN2 : N ≤ 1048576) :
    Calls Try.prog 24 #[.agg #[.slice a n c, .slice p m q, .int .i64 fuel, .bool dead], .int .i64 at_, .int .i64 seq, .slice ad N cp] w fun e w' => RetD w e w' n d m S L F fuel dead := by
  have HA : Hid (Rd .u8 w a n d) := ha
  have HP : Hid (RdP w p m S L F) := hp
  have HLL : Hid (∀ i, i < m → L i ≤ 1048576) := hL
  have HFIN : Hid (∀ W : World, Below (w.heap.size + 5) (((((w.alloc (.cells #[.slice a n c, .slice p m q, .int .i64 fuel, .bool dead] 39)).alloc (.cells #[.int .i64 at_] 2)).alloc (.cells #[.int .i64 seq] 2)).alloc (.cells #[.slice ad N cp] 24)).alloc (.cells #[.slice none 0 0, .slice none 0 0, .int .i64 0, .bool false] 39)) W → Below w.heap.size w W) := fun W h => (below_alloc5 _ _ _ _ _ _).trans (h.mono (by omega))
  have HE : Hid (∀ o1 o2 o3 o4 o5, (((((w.alloc o1).alloc o2).alloc o3).alloc o4).alloc o5).heap.size = w.heap.size + 5) := fun _ _ _ _ _ => by simp
  have e0 : IntKind.i64.wrap (N : Int) = (N : Int) := by rw [IntKind.wrap_i64]; omega
  clear ha hp hL
  go_enter Try.func24, Try.ntmps24
  go_wp2_with fail
  refine (recSectors_big _ (by omega) _).mono ?_
  rintro e w0 ⟨rfl, rfl⟩
  go_wp2_with fail
  refine (implValid_any a p n c m q S L F fuel dead _ (HP.out.below (below_alloc5 _ _ _ _ _ _)) hn hm).mono ?_
  rintro e w1 ⟨⟨b1, rfl, hv1⟩, hb1⟩
  rw [HE.out] at hb1
  have K1 : Hid (Below (w.heap.size + 5) (((((w.alloc (.cells #[.slice a n c, .slice p m q, .int .i64 fuel, .bool dead] 39)).alloc (.cells #[.int .i64 at_] 2)).alloc (.cells #[.int .i64 seq] 2)).alloc (.cells #[.slice ad N cp] 24)).alloc (.cells #[.slice none 0 0, .slice none 0 0, .int .i64 0, .bool false] 39)) w1) := hb1
  have z1 : w.heap.size + 5 ≤ w1.heap.size := by have := hb1.size; rw [HE.out] at this; exact this
  have hc1 : ∀ b o, b < w.heap.size + 5 → w1.cell? ⟨b, o, none⟩ = _ := fun b o hb => K1.out.cell (p := ⟨b, o, none⟩) hb
  clear hb1
  cases b1 with
  | false =>
    clear hv1
    go_wp2_with fail
    refine (copyDisk_any a p n c m q d S L F fuel dead w1 (HA.out.below (HFIN.out _ K1.out)) (HP.out.below (HFIN.out _ K1.out)) hn hm HLL.out).mono ?_
    rintro e w9 ⟨a9, c9, p9, q9, A9, rfl, ho9, hb9⟩
    have z9 : w.heap.size + 5 ≤ w1.heap.size := by have := K1.out.size; rw [HE.out] at this; exact this
    have K9 : Below (w.heap.size + 5) (((((w.alloc (.cells #[.slice a n c, .slice p m q, .int .i64 fuel, .bool dead] 39)).alloc (.cells #[.int .i64 at_] 2)).alloc (.cells #[.int .i64 seq] 2)).alloc (.cells #[.slice ad N cp] 24)).alloc (.cells #[.slice none 0 0, .slice none 0 0, .int .i64 0, .bool false] 39)) w9 := K1.out.trans (hb9.mono z9)
    have hc9 : ∀ b o, b < w.heap.size + 5 → w9.cell? ⟨b, o, none⟩ = _ := fun b o hb => K9.cell (p := ⟨b, o, none⟩) hb
    have hf9 : ∀ b o, b < w.heap.size + 5 → w9.frozen? ⟨b, o, none⟩ = _ := fun b o hb => K9.frozen (p := ⟨b, o, none⟩) hb
    have hz9 : w.heap.size + 4 < w9.heap.size := by have := hb9.size; omega
    have HX : Hid (OwnD w9 (w.heap.size + 5) a9 n d p9 m S L F A9 ∧ Below w.heap.size w w9) := ⟨ho9.mono z9, HFIN.out _ K9⟩
    clear ho9 hb9 K9
    (try clear hc1)
    (try clear hc2)
    go_wp2
    refine bodyPost_ret (v := .agg #[.slice a9 n c9, .slice p9 m q9, .int .i64 fuel, .bool dead]) (by simp [results, Try.results24, go_sem, hc9]) rfl ⟨a9, c9, p9, q9, A9, rfl, ?_, ?_⟩
    · exact ((((HX.out.1.setOther (by simp) _).setOther (by simp) _).setOther (by simp) _).setOther (by simp) _).mono (by omega)
    · exact (((HX.out.2.setCell (by simp; try omega) _).setCell (by simp; try omega) _).setCell (by simp; try omega) _).setCell (by simp; try omega) _
  | true =>
    clear hv1
    go_wp2_with fail
    refine (isNumber_any seq w1).mono ?_
    rintro e w2 ⟨he, hw2⟩
    subst hw2
    cases hnum : numB seq with
    | false =>
      rw [hnum] at he
      subst he
      go_wp2_with fail
      refine (copyDisk_any a p n c m q d S L F fuel dead w2 (HA.out.below (HFIN.out _ K1.out)) (HP.out.below (HFIN.out _ K1.out)) hn hm HLL.out).mono ?_
      rintro e w9 ⟨a9, c9, p9, q9, A9, rfl, ho9, hb9⟩
      have z9 : w.heap.size + 5 ≤ w2.heap.size := by have := K1.out.size; rw [HE.out] at this; exact this
      have K9 : Below (w.heap.size + 5) (((((w.alloc (.cells #[.slice a n c, .slice p m q, .int .i64 fuel, .bool dead] 39)).alloc (.cells #[.int .i64 at_] 2)).alloc (.cells #[.int .i64 seq] 2)).alloc (.cells #[.slice ad N cp] 24)).alloc (.cells #[.slice none 0 0, .slice none 0 0, .int .i64 0, .bool false] 39)) w9 := K1.out.trans (hb9.mono z9)
      have hc9 : ∀ b o, b < w.heap.size + 5 → w9.cell? ⟨b, o, none⟩ = _ := fun b o hb => K9.cell (p := ⟨b, o, none⟩) hb
      have hf9 : ∀ b o, b < w.heap.size + 5 → w9.frozen? ⟨b, o, none⟩ = _ := fun b o hb => K9.frozen (p := ⟨b, o, none⟩) hb
      have hz9 : w.heap.size + 4 < w9.heap.size := by have := hb9.size; omega
      have HX : Hid (OwnD w9 (w.heap.size + 5) a9 n d p9 m S L F A9 ∧ Below w.heap.size w w9) := ⟨ho9.mono z9, HFIN.out _ K9⟩
      clear ho9 hb9 K9
      (try clear hc1)
      (try clear hc2)
      go_wp2
      refine bodyPost_ret (v := .agg #[.slice a9 n c9, .slice p9 m q9, .int .i64 fuel, .bool dead]) (by simp [results, Try.results24, go_sem, hc9]) rfl ⟨a9, c9, p9, q9, A9, rfl, ?_, ?_⟩
      · exact ((((HX.out.1.setOther (by simp) _).setOther (by simp) _).setOther (by simp) _).setOther (by simp) _).mono (by omega)
      · exact (((HX.out.2.setCell (by simp; try omega) _).setCell (by simp; try omega) _).setCell (by simp; try omega) _).setCell (by simp; try omega) _
    | true =>
      rw [hnum] at he
      subst he
      go_wp2_with fail
      refine (copyDisk_any a p n c m q d S L F fuel dead w2 (HA.out.below (HFIN.out _ K1.out)) (HP.out.below (HFIN.out _ K1.out)) hn hm HLL.out).mono ?_
      rintro e w9 ⟨a9, c9, p9, q9, A9, rfl, ho9, hb9⟩
      have z9 : w.heap.size + 5 ≤ w2.heap.size := by have := K1.out.size; rw [HE.out] at this; exact this
      have K9 : Below (w.heap.size + 5) (((((w.alloc (.cells #[.slice a n c, .slice p m q, .int .i64 fuel, .bool dead] 39)).alloc (.cells #[.int .i64 at_] 2)).alloc (.cells #[.int .i64 seq] 2)).alloc (.cells #[.slice ad N cp] 24)).alloc (.cells #[.slice none 0 0, .slice none 0 0, .int .i64 0, .bool false] 39)) w9 := K1.out.trans (hb9.mono z9)
      have hc9 : ∀ b o, b < w.heap.size + 5 → w9.cell? ⟨b, o, none⟩ = _ := fun b o hb => K9.cell (p := ⟨b, o, none⟩) hb
      have hf9 : ∀ b o, b < w.heap.size + 5 → w9.frozen? ⟨b, o, none⟩ = _ := fun b o hb => K9.frozen (p := ⟨b, o, none⟩) hb
      have hz9 : w.heap.size + 4 < w9.heap.size := by have := hb9.size; omega
      have HX : Hid (OwnD w9 (w.heap.size + 5) a9 n d p9 m S L F A9 ∧ Below w.heap.size w w9) := ⟨ho9.mono z9, HFIN.out _ K9⟩
      clear ho9 hb9 K9
      (try clear hc1)
      (try clear hc2)
      go_wp2
      refine bodyPost_ret (v := .agg #[.slice a9 n c9, .slice p9 m q9, .int .i64 fuel, .bool dead]) (by simp [results, Try.results24, go_sem, hc9]) rfl ⟨a9, c9, p9, q9, A9, rfl, ?_, ?_⟩
      · exact ((((HX.out.1.setOther (by simp) _).setOther (by simp) _).setOther (by simp) _).setOther (by simp) _).mono (by omega)
      · exact (((HX.out.2.setCell (by simp; try omega) _).setCell (by simp; try omega) _).setCell (by simp; try omega) _).setCell (by simp; try omega) _

set_option maxHeartbeats 2000000 in
theorem implRec_bad (a p ad : Option Addr) (n c m q N cp : Nat) (d S : Nat → Int) (L : Nat → Nat) (F : Nat → Nat → Int) (fuel : Int) (dead : Bool) (at_ seq : Int) (w : World) (ha : Rd .u8 w a n d) (hp : RdP w p m S L F) (hn : n ≤ 1048576) (hm : m ≤ 1048576) (hL : ∀ i, i < m → L i ≤ 1048576) (hN : N ≤ 30000) (hbad : ¬ (VD n m S L fuel ∧ numB seq = true ∧ 2 ≤ at_ ∧ at_ ≤ (n : Int) / 64 - cntOf N)) :
    Calls Try.prog 24 #[.agg #[.slice a n c, .slice p m q, .int .i64 fuel, .bool dead], .int .i64 at_, .int .i64 seq, .slice ad N cp] w fun e w' => RetD w e w' n d m S L F fuel dead := by
  obtain ⟨K, hK⟩ : ∃ K, K = cntOf N := ⟨_, rfl⟩
  rw [← hK] at hbad
  have HK : Hid (cntOf N = K) := hK.symm
  have hk1 : 1 ≤ K := by rw [hK]; exact cntOf_pos N
  have hk2 : K ≤ 625 := by rw [hK]; exact cntOf_le hN
  clear hK
  have HBAD : Hid (¬ (VD n m S L fuel ∧ numB seq = true ∧ 2 ≤ at_ ∧ at_ ≤ (n : Int) / 64 - K)) := hbad
  have hk3 : ¬ (K : Int) = 0 := by omega
  have hk4 : ((K : Int) == 0) = false := by simp; omega
  have e0 : IntKind.i64.wrap (N : Int) = (N : Int) := by rw [IntKind.wrap_i64]; omega
  have e1 : IntKind.i64.wrap ((n : Int) / 64 - (K : Int)) = (n : Int) / 64 - (K : Int) := by rw [IntKind.wrap_i64]; omega
  have HA : Hid (Rd .u8 w a n d) := ha
  have HP : Hid (RdP w p m S L F) := hp
  have HLL : Hid (∀ i, i < m → L i ≤ 1048576) := hL
  have HFIN : Hid (∀ W : World, Below (w.heap.size + 5) (((((w.alloc (.cells #[.slice a n c, .slice p m q, .int .i64 fuel, .bool dead] 39)).alloc (.cells #[.int .i64 at_] 2)).alloc (.cells #[.int .i64 seq] 2)).alloc (.cells #[.slice ad N cp] 24)).alloc (.cells #[.slice none 0 0, .slice none 0 0, .int .i64 0, .bool false] 39)) W → Below w.heap.size w W) := fun W h => (below_alloc5 _ _ _ _ _ _).trans (h.mono (by omega))
  have HE : Hid (∀ o1 o2 o3 o4 o5, (((((w.alloc o1).alloc o2).alloc o3).alloc o4).alloc o5).heap.size = w.heap.size + 5) := fun _ _ _ _ _ => by simp
  clear ha hp hL hbad
  go_enter Try.func24, Try.ntmps24
  go_wp2_with fail
  refine (recSectors_of _ N rfl hN _).mono ?_
  rintro e w0 ⟨rfl, rfl⟩
  rw [HK.out]
  go_wp2_with fail
  refine (implValid_any a p n c m q S L F fuel dead _ (HP.out.below (below_alloc5 _ _ _ _ _ _)) hn hm).mono ?_
  rintro e w1 ⟨⟨b1, rfl, hv1⟩, hb1⟩
  rw [HE.out] at hb1
  have K1 : Hid (Below (w.heap.size + 5) (((((w.alloc (.cells #[.slice a n c, .slice p m q, .int .i64 fuel, .bool dead] 39)).alloc (.cells #[.int .i64 at_] 2)).alloc (.cells #[.int .i64 seq] 2)).alloc (.cells #[.slice ad N cp] 24)).alloc (.cells #[.slice none 0 0, .slice none 0 0, .int .i64 0, .bool false] 39)) w1) := hb1
  have z1 : w.heap.size + 5 ≤ w1.heap.size := by have := hb1.size; rw [HE.out] at this; exact this
  have hc1 : ∀ b o, b < w.heap.size + 5 → w1.cell? ⟨b, o, none⟩ = _ := fun b o hb => K1.out.cell (p := ⟨b, o, none⟩) hb
  clear hb1
  cases b1 with
  | false =>
    clear hv1
    go_wp2_with fail
    refine (copyDisk_any a p n c m q d S L F fuel dead w1 (HA.out.below (HFIN.out _ K1.out)) (HP.out.below (HFIN.out _ K1.out)) hn hm HLL.out).mono ?_
    rintro e w9 ⟨a9, c9, p9, q9, A9, rfl, ho9, hb9⟩
    have z9 : w.heap.size + 5 ≤ w1.heap.size := by have := K1.out.size; rw [HE.out] at this; exact this
    have K9 : Below (w.heap.size + 5) (((((w.alloc (.cells #[.slice a n c, .slice p m q, .int .i64 fuel, .bool dead] 39)).alloc (.cells #[.int .i64 at_] 2)).alloc (.cells #[.int .i64 seq] 2)).alloc (.cells #[.slice ad N cp] 24)).alloc (.cells #[.slice none 0 0, .slice none 0 0, .int .i64 0, .bool false] 39)) w9 := K1.out.trans (hb9.mono z9)
    have hc9 : ∀ b o, b < w.heap.size + 5 → w9.cell? ⟨b, o, none⟩ = _ := fun b o hb => K9.cell (p := ⟨b, o, none⟩) hb
    have hf9 : ∀ b o, b < w.heap.size + 5 → w9.frozen? ⟨b, o, none⟩ = _ := fun b o hb => K9.frozen (p := ⟨b, o, none⟩) hb
    have hz9 : w.heap.size + 4 < w9.heap.size := by have := hb9.size; omega
    have HX : Hid (OwnD w9 (w.heap.size + 5) a9 n d p9 m S L F A9 ∧ Below w.heap.size w w9) := ⟨ho9.mono z9, HFIN.out _ K9⟩
    clear ho9 hb9 K9
    (try clear hc1)
    (try clear hc2)
    go_wp2
    refine bodyPost_ret (v := .agg #[.slice a9 n c9, .slice p9 m q9, .int .i64 fuel, .bool dead]) (by simp [results, Try.results24, go_sem, hc9]) rfl ⟨a9, c9, p9, q9, A9, rfl, ?_, ?_⟩
    · exact ((((HX.out.1.setOther (by simp) _).setOther (by simp) _).setOther (by simp) _).setOther (by simp) _).mono (by omega)
    · exact (((HX.out.2.setCell (by simp; try omega) _).setCell (by simp; try omega) _).setCell (by simp; try omega) _).setCell (by simp; try omega) _
  | true =>
    have HV : Hid (VD n m S L fuel) := hv1.1 rfl
    clear hv1
    go_wp2_with fail
    refine (isNumber_any seq w1).mono ?_
    rintro e w2 ⟨he, hw2⟩
    subst hw2
    cases hnum : numB seq with
    | false =>
      rw [hnum] at he
      subst he
      go_wp2_with fail
      refine (copyDisk_any a p n c m q d S L F fuel dead w2 (HA.out.below (HFIN.out _ K1.out)) (HP.out.below (HFIN.out _ K1.out)) hn hm HLL.out).mono ?_
      rintro e w9 ⟨a9, c9, p9, q9, A9, rfl, ho9, hb9⟩
      have z9 : w.heap.size + 5 ≤ w2.heap.size := by have := K1.out.size; rw [HE.out] at this; exact this
      have K9 : Below (w.heap.size + 5) (((((w.alloc (.cells #[.slice a n c, .slice p m q, .int .i64 fuel, .bool dead] 39)).alloc (.cells #[.int .i64 at_] 2)).alloc (.cells #[.int .i64 seq] 2)).alloc (.cells #[.slice ad N cp] 24)).alloc (.cells #[.slice none 0 0, .slice none 0 0, .int .i64 0, .bool false] 39)) w9 := K1.out.trans (hb9.mono z9)
      have hc9 : ∀ b o, b < w.heap.size + 5 → w9.cell? ⟨b, o, none⟩ = _ := fun b o hb => K9.cell (p := ⟨b, o, none⟩) hb
      have hf9 : ∀ b o, b < w.heap.size + 5 → w9.frozen? ⟨b, o, none⟩ = _ := fun b o hb => K9.frozen (p := ⟨b, o, none⟩) hb
      have hz9 : w.heap.size + 4 < w9.heap.size := by have := hb9.size; omega
      have HX : Hid (OwnD w9 (w.heap.size + 5) a9 n d p9 m S L F A9 ∧ Below w.heap.size w w9) := ⟨ho9.mono z9, HFIN.out _ K9⟩
      clear ho9 hb9 K9
      (try clear hc1)
      (try clear hc2)
      go_wp2
      refine bodyPost_ret (v := .agg #[.slice a9 n c9, .slice p9 m q9, .int .i64 fuel, .bool dead]) (by simp [results, Try.results24, go_sem, hc9]) rfl ⟨a9, c9, p9, q9, A9, rfl, ?_, ?_⟩
      · exact ((((HX.out.1.setOther (by simp) _).setOther (by simp) _).setOther (by simp) _).setOther (by simp) _).mono (by omega)
      · exact (((HX.out.2.setCell (by simp; try omega) _).setCell (by simp; try omega) _).setCell (by simp; try omega) _).setCell (by simp; try omega) _
    | true =>
      rw [hnum] at he
      subst he
      have HNM : Hid (numB seq = true) := hnum
      clear hnum
      by_cases c1 : at_ < 2
      · have c1' : decide (at_ < 2) = true := decide_eq_true c1
        have x0 : w2.cell? ⟨w.heap.size, 0, none⟩ = some (.slice a n c) := (hc1 w.heap.size 0 (by omega)).trans (frame5 w _ _ _ _ _ _ _ _ ()).1.1
        have x1 : w2.cell? ⟨w.heap.size, 1, none⟩ = some (.slice p m q) := (hc1 w.heap.size 1 (by omega)).trans (frame5 w _ _ _ _ _ _ _ _ ()).1.2.1
        have x2 : w2.cell? ⟨w.heap.size, 2, none⟩ = some (.int .i64 fuel) := (hc1 w.heap.size 2 (by omega)).trans (frame5 w _ _ _ _ _ _ _ _ ()).1.2.2.1
        have x3 : w2.cell? ⟨w.heap.size, 3, none⟩ = some (.bool dead) := (hc1 w.heap.size 3 (by omega)).trans (frame5 w _ _ _ _ _ _ _ _ ()).1.2.2.2.1
        have y0 : w2.cell? ⟨w.heap.size + 1, 0, none⟩ = some (.int .i64 at_) := (hc1 (w.heap.size + 1) 0 (by omega)).trans (frame5 w _ _ _ _ _ _ _ _ ()).2.1
        clear hc1
        go_wp2
        go_quiet (fail)
        go_wp2_with fail
        clear x0 x1 x2 x3 y0
        have KD : Hid (Below (w.heap.size + 5) (((((w.alloc (.cells #[.slice a n c, .slice p m q, .int .i64 fuel, .bool dead] 39)).alloc (.cells #[.int .i64 at_] 2)).alloc (.cells #[.int .i64 seq] 2)).alloc (.cells #[.slice ad N cp] 24)).alloc (.cells #[.slice none 0 0, .slice none 0 0, .int .i64 0, .bool false] 39)) (w2.drewN nq)) := below_drewN K1.out nq
        refine (copyDisk_any a p n c m q d S L F fuel dead (w2.drewN nq) (HA.out.below (HFIN.out _ KD.out)) (HP.out.below (HFIN.out _ KD.out)) hn hm HLL.out).mono ?_
        rintro e w9 ⟨a9, c9, p9, q9, A9, rfl, ho9, hb9⟩
        have z9 : w.heap.size + 5 ≤ (w2.drewN nq).heap.size := by have := KD.out.size; rw [HE.out] at this; exact this
        have K9 : Below (w.heap.size + 5) (((((w.alloc (.cells #[.slice a n c, .slice p m q, .int .i64 fuel, .bool dead] 39)).alloc (.cells #[.int .i64 at_] 2)).alloc (.cells #[.int .i64 seq] 2)).alloc (.cells #[.slice ad N cp] 24)).alloc (.cells #[.slice none 0 0, .slice none 0 0, .int .i64 0, .bool false] 39)) w9 := KD.out.trans (hb9.mono z9)
        have hc9 : ∀ b o, b < w.heap.size + 5 → w9.cell? ⟨b, o, none⟩ = _ := fun b o hb => K9.cell (p := ⟨b, o, none⟩) hb
        have hf9 : ∀ b o, b < w.heap.size + 5 → w9.frozen? ⟨b, o, none⟩ = _ := fun b o hb => K9.frozen (p := ⟨b, o, none⟩) hb
        have hz9 : w.heap.size + 4 < w9.heap.size := by have := hb9.size; omega
        have HX : Hid (OwnD w9 (w.heap.size + 5) a9 n d p9 m S L F A9 ∧ Below w.heap.size w w9) := ⟨ho9.mono z9, HFIN.out _ K9⟩
        clear ho9 hb9 K9
        (try clear hc1)
        (try clear hc2)
        go_wp2
        refine bodyPost_ret (v := .agg #[.slice a9 n c9, .slice p9 m q9, .int .i64 fuel, .bool dead]) (by simp [results, Try.results24, go_sem, hc9]) rfl ⟨a9, c9, p9, q9, A9, rfl, ?_, ?_⟩
        · exact ((((HX.out.1.setOther (by simp) _).setOther (by simp) _).setOther (by simp) _).setOther (by simp) _).mono (by omega)
        · exact (((HX.out.2.setCell (by simp; try omega) _).setCell (by simp; try omega) _).setCell (by simp; try omega) _).setCell (by simp; try omega) _
      · have c1' : decide (at_ < 2) = false := decide_eq_false c1
        have c2 : (n : Int) / 64 - (K : Int) < at_ := by
          have := HBAD.out
          apply Classical.byContradiction
          intro hh
          exact this ⟨HV.out, HNM.out, by omega, by omega⟩
        have x0 : w2.cell? ⟨w.heap.size, 0, none⟩ = some (.slice a n c) := (hc1 w.heap.size 0 (by omega)).trans (frame5 w _ _ _ _ _ _ _ _ ()).1.1
        have x1 : w2.cell? ⟨w.heap.size, 1, none⟩ = some (.slice p m q) := (hc1 w.heap.size 1 (by omega)).trans (frame5 w _ _ _ _ _ _ _ _ ()).1.2.1
        have x2 : w2.cell? ⟨w.heap.size, 2, none⟩ = some (.int .i64 fuel) := (hc1 w.heap.size 2 (by omega)).trans (frame5 w _ _ _ _ _ _ _ _ ()).1.2.2.1
        have x3 : w2.cell? ⟨w.heap.size, 3, none⟩ = some (.bool dead) := (hc1 w.heap.size 3 (by omega)).trans (frame5 w _ _ _ _ _ _ _ _ ()).1.2.2.2.1
        have y0 : w2.cell? ⟨w.heap.size + 1, 0, none⟩ = some (.int .i64 at_) := (hc1 (w.heap.size + 1) 0 (by omega)).trans (frame5 w _ _ _ _ _ _ _ _ ()).2.1
        clear hc1
        go_wp2
        go_region_held3 (fun w' => w'.cell? ⟨w.heap.size, 0, none⟩ = some (.slice a n c) ∧ w'.cell? ⟨w.heap.size, 1, none⟩ = some (.slice p m q) ∧ w'.cell? ⟨w.heap.size, 2, none⟩ = some (.int .i64 fuel) ∧ w'.cell? ⟨w.heap.size, 3, none⟩ = some (.bool dead) ∧ w'.cell? ⟨w.heap.size + 1, 0, none⟩ = some (.int .i64 at_)) (go_keep) (first | (go_at_call 52; refine (sectorCount_any a p n c m q fuel dead w2.drew hn).mono ?_; rintro e w3 ⟨rfl, hb3⟩; have K3 : Hid (Below (w.heap.size + 5) (((((w.alloc (.cells #[.slice a n c, .slice p m q, .int .i64 fuel, .bool dead] 39)).alloc (.cells #[.int .i64 at_] 2)).alloc (.cells #[.int .i64 seq] 2)).alloc (.cells #[.slice ad N cp] 24)).alloc (.cells #[.slice none 0 0, .slice none 0 0, .int .i64 0, .bool false] 39)) w3) := K1.out.drew.trans (hb3.mono z1); have u0 : w3.cell? ⟨w.heap.size, 0, none⟩ = some (.slice a n c) := (hb3.cell (p := ⟨w.heap.size, 0, none⟩) (by simp; omega)).trans x0; have u1 : w3.cell? ⟨w.heap.size, 1, none⟩ = some (.slice p m q) := (hb3.cell (p := ⟨w.heap.size, 1, none⟩) (by simp; omega)).trans x1; have u2 : w3.cell? ⟨w.heap.size, 2, none⟩ = some (.int .i64 fuel) := (hb3.cell (p := ⟨w.heap.size, 2, none⟩) (by simp; omega)).trans x2; have u3 : w3.cell? ⟨w.heap.size, 3, none⟩ = some (.bool dead) := (hb3.cell (p := ⟨w.heap.size, 3, none⟩) (by simp; omega)).trans x3; have u4 : w3.cell? ⟨w.heap.size + 1, 0, none⟩ = some (.int .i64 at_) := (hb3.cell (p := ⟨w.heap.size + 1, 0, none⟩) (by simp; omega)).trans y0))
        clear x0 x1 x2 x3 y0 u0 u1 u2 u3 u4 hb3
        have hc3 : ∀ b o, b < w.heap.size + 5 → w3.cell? ⟨b, o, none⟩ = _ := fun b o hb => K3.out.cell (p := ⟨b, o, none⟩) hb
        go_wp2_with fail
        clear hc3
        refine (copyDisk_any a p n c m q d S L F fuel dead w3 (HA.out.below (HFIN.out _ K3.out)) (HP.out.below (HFIN.out _ K3.out)) hn hm HLL.out).mono ?_
        rintro e w9 ⟨a9, c9, p9, q9, A9, rfl, ho9, hb9⟩
        have z9 : w.heap.size + 5 ≤ w3.heap.size := by have := K3.out.size; rw [HE.out] at this; exact this
        have K9 : Below (w.heap.size + 5) (((((w.alloc (.cells #[.slice a n c, .slice p m q, .int .i64 fuel, .bool dead] 39)).alloc (.cells #[.int .i64 at_] 2)).alloc (.cells #[.int .i64 seq] 2)).alloc (.cells #[.slice ad N cp] 24)).alloc (.cells #[.slice none 0 0, .slice none 0 0, .int .i64 0, .bool false] 39)) w9 := K3.out.trans (hb9.mono z9)
        have hc9 : ∀ b o, b < w.heap.size + 5 → w9.cell? ⟨b, o, none⟩ = _ := fun b o hb => K9.cell (p := ⟨b, o, none⟩) hb
        have hf9 : ∀ b o, b < w.heap.size + 5 → w9.frozen? ⟨b, o, none⟩ = _ := fun b o hb => K9.frozen (p := ⟨b, o, none⟩) hb
        have hz9 : w.heap.size + 4 < w9.heap.size := by have := hb9.size; omega
        have HX : Hid (OwnD w9 (w.heap.size + 5) a9 n d p9 m S L F A9 ∧ Below w.heap.size w w9) := ⟨ho9.mono z9, HFIN.out _ K9⟩
        clear ho9 hb9 K9
        (try clear hc1)
        (try clear hc2)
        go_wp2
        refine bodyPost_ret (v := .agg #[.slice a9 n c9, .slice p9 m q9, .int .i64 fuel, .bool dead]) (by simp [results, Try.results24, go_sem, hc9]) rfl ⟨a9, c9, p9, q9, A9, rfl, ?_, ?_⟩
        · exact ((((HX.out.1.setOther (by simp) _).setOther (by simp) _).setOther (by simp) _).setOther (by simp) _).mono (by omega)
        · exact (((HX.out.2.setCell (by simp; try omega) _).setCell (by simp; try omega) _).setCell (by simp; try omega) _).setCell (by simp; try omega) _

set_option maxHeartbeats 2000000 in
theorem implRec_good (t : Stt) (a p ad : Option Addr) (n c q N cp last : Nat) (f : Nat → Int) (at_ seq : Int) (w : World) (ha : Rd .u8 w a n t.d) (hp : RdP w p t.m t.S t.L t.F) (hrd : Rd .u8 w ad N f) (hf : ∀ j, j < N → 0 ≤ f j ∧ f j < 256) (hv : t.ok n) (hN : N ≤ 30000) (hcp : N ≤ cp) (hcm : cp ≤ 9223372036854775807) (hl : cntOf N = last + 1) (hq : numB seq = true) (a0 : 2 ≤ at_) (a1 : at_ ≤ (n : Int) / 64 - cntOf N) :
    Calls Try.prog 24 #[.agg #[.slice a n c, .slice p t.m q, .int .i64 t.fuel, .bool t.dead], .int .i64 at_, .int .i64 seq, .slice ad N cp] w fun e w' => RetD w e w' n (t.recd at_ (secW N seq f) last).d (t.recd at_ (secW N seq f) last).m (t.recd at_ (secW N seq f) last).S (t.recd at_ (secW N seq f) last).L (t.recd at_ (secW N seq f) last).F (t.recd at_ (secW N seq f) last).fuel (t.recd at_ (secW N seq f) last).dead := by
  have HOK : Hid (t.ok n) := hv
  obtain ⟨r, hr⟩ : ∃ r, r = t.recd at_ (secW N seq f) last := ⟨_, rfl⟩
  rw [← hr]
  have HDO : Hid (∀ (W : World) (b B : Nat), DevSt W b B n t → B ≤ b → (∀ W', Below B W W' → Rd .u8 W' ad N f) → Calls Try.prog 55 #[.pointer (some ⟨b, 0, none⟩), .int .i64 at_, .int .i64 seq, .slice ad N cp] W fun e w' => Stepped e ∧ Left W b B n w' r.d r.m r.S r.L r.F r.fuel r.dead) := by
    intro W b B h1 h2 h3
    refine (writeRec_any t b B n at_ seq ad N cp last f W h1 hv h2 h3 hf hN hcp hcm hl a0 (by omega)).mono ?_
    rintro e w' ⟨⟨a', c', p', q', A, C, y1, y2, y3, y4, y5, y6⟩, hb, he⟩
    rw [← hr] at y1 y2 y3 y4
    refine ⟨?_, a', c', p', q', A, C, y1, y2, y3, y4, hb⟩
    rcases he with he | ⟨he, _⟩
    · exact Or.inl he
    · exact Or.inr he
  obtain ⟨d, m, S, L, F, fuel, dead⟩ := t
  have hv' : VD n m S L fuel := hv
  obtain ⟨hn, hm, hL⟩ := stt_vd_lens hv'
  have HV : Hid (VD n m S L fuel) := hv'
  have HRD : Hid (Rd .u8 w ad N f) := hrd
  dsimp only at ha hp HDO ⊢
  obtain ⟨K, hK⟩ : ∃ K, K = cntOf N := ⟨_, rfl⟩
  rw [← hK] at a1
  have HK : Hid (cntOf N = K) := hK.symm
  have hk1 : 1 ≤ K := by rw [hK]; exact cntOf_pos N
  have hk2 : K ≤ 625 := by rw [hK]; exact cntOf_le hN
  clear hK hl hr hv hv' hf hrd
  have hk3 : ¬ (K : Int) = 0 := by omega
  have hk4 : ((K : Int) == 0) = false := by simp; omega
  have e0 : IntKind.i64.wrap (N : Int) = (N : Int) := by rw [IntKind.wrap_i64]; omega
  have e1 : IntKind.i64.wrap ((n : Int) / 64 - (K : Int)) = (n : Int) / 64 - (K : Int) := by rw [IntKind.wrap_i64]; omega
  have c1 : ¬ at_ < 2 := by omega
  have c1' : decide (at_ < 2) = false := decide_eq_false c1
  have c2 : ¬ (n : Int) / 64 - (K : Int) < at_ := by omega
  have c2' : decide ((n : Int) / 64 - (K : Int) < at_) = false := decide_eq_false c2
  have hmf : ∀ (fn : Fn) (first cap : Array Value) (w : World), (Instr.makeFunc fn first cap).run Try.prog w = .ok (.func fn first cap) w := fun _ _ _ _ => rfl
  have HQ : Hid (numB seq = true) := hq
  have HA : Hid (Rd .u8 w a n d) := ha
  have HP : Hid (RdP w p m S L F) := hp
  have HLL : Hid (∀ i, i < m → L i ≤ 1048576) := hL
  have HFIN : Hid (∀ W : World, Below (w.heap.size + 5) (((((w.alloc (.cells #[.slice a n c, .slice p m q, .int .i64 fuel, .bool dead] 39)).alloc (.cells #[.int .i64 at_] 2)).alloc (.cells #[.int .i64 seq] 2)).alloc (.cells #[.slice ad N cp] 24)).alloc (.cells #[.slice none 0 0, .slice none 0 0, .int .i64 0, .bool false] 39)) W → Below w.heap.size w W) := fun W h => (below_alloc5 _ _ _ _ _ _).trans (h.mono (by omega))
  have HE : Hid (∀ o1 o2 o3 o4 o5, (((((w.alloc o1).alloc o2).alloc o3).alloc o4).alloc o5).heap.size = w.heap.size + 5) := fun _ _ _ _ _ => by simp
  clear ha hp hL hq
  go_enter Try.func24, Try.ntmps24
  go_wp2_with fail
  refine (recSectors_of _ N rfl hN _).mono ?_
  rintro e w0 ⟨rfl, rfl⟩
  rw [HK.out]
  go_wp2_with fail
  refine (implValid_any a p n c m q S L F fuel dead _ (HP.out.below (below_alloc5 _ _ _ _ _ _)) hn hm).mono ?_
  rintro e w1 ⟨h1, hb1⟩
  have := ans_true' h1 HV.out
  subst this
  rw [HE.out] at hb1
  have K1 : Hid (Below (w.heap.size + 5) (((((w.alloc (.cells #[.slice a n c, .slice p m q, .int .i64 fuel, .bool dead] 39)).alloc (.cells #[.int .i64 at_] 2)).alloc (.cells #[.int .i64 seq] 2)).alloc (.cells #[.slice ad N cp] 24)).alloc (.cells #[.slice none 0 0, .slice none 0 0, .int .i64 0, .bool false] 39)) w1) := hb1
  have z1 : w.heap.size + 5 ≤ w1.heap.size := by have := hb1.size; rw [HE.out] at this; exact this
  have hc1 : ∀ b o, b < w.heap.size + 5 → w1.cell? ⟨b, o, none⟩ = _ := fun b o hb => K1.out.cell (p := ⟨b, o, none⟩) hb
  clear hb1 h1
  go_wp2_with fail
  refine (isNumber_any seq w1).mono ?_
  rintro e w2 ⟨he, hw2⟩
  subst hw2
  rw [HQ.out] at he
  subst he
  have x0 : w2.cell? ⟨w.heap.size, 0, none⟩ = some (.slice a n c) := (hc1 w.heap.size 0 (by omega)).trans (frame5 w _ _ _ _ _ _ _ _ ()).1.1
  have x1 : w2.cell? ⟨w.heap.size, 1, none⟩ = some (.slice p m q) := (hc1 w.heap.size 1 (by omega)).trans (frame5 w _ _ _ _ _ _ _ _ ()).1.2.1
  have x2 : w2.cell? ⟨w.heap.size, 2, none⟩ = some (.int .i64 fuel) := (hc1 w.heap.size 2 (by omega)).trans (frame5 w _ _ _ _ _ _ _ _ ()).1.2.2.1
  have x3 : w2.cell? ⟨w.heap.size, 3, none⟩ = some (.bool dead) := (hc1 w.heap.size 3 (by omega)).trans (frame5 w _ _ _ _ _ _ _ _ ()).1.2.2.2.1
  have y0 : w2.cell? ⟨w.heap.size + 1, 0, none⟩ = some (.int .i64 at_) := (hc1 (w.heap.size + 1) 0 (by omega)).trans (frame5 w _ _ _ _ _ _ _ _ ()).2.1
  clear hc1
  go_wp2
  go_region_held3 (fun w' => w'.cell? ⟨w.heap.size, 0, none⟩ = some (.slice a n c) ∧ w'.cell? ⟨w.heap.size, 1, none⟩ = some (.slice p m q) ∧ w'.cell? ⟨w.heap.size, 2, none⟩ = some (.int .i64 fuel) ∧ w'.cell? ⟨w.heap.size, 3, none⟩ = some (.bool dead) ∧ w'.cell? ⟨w.heap.size + 1, 0, none⟩ = some (.int .i64 at_)) (go_keep) (first | (go_at_call 52; refine (sectorCount_any a p n c m q fuel dead w2.drew hn).mono ?_; rintro e w3 ⟨rfl, hb3⟩; have K3 : Hid (Below (w.heap.size + 5) (((((w.alloc (.cells #[.slice a n c, .slice p m q, .int .i64 fuel, .bool dead] 39)).alloc (.cells #[.int .i64 at_] 2)).alloc (.cells #[.int .i64 seq] 2)).alloc (.cells #[.slice ad N cp] 24)).alloc (.cells #[.slice none 0 0, .slice none 0 0, .int .i64 0, .bool false] 39)) w3) := K1.out.drew.trans (hb3.mono z1); have u0 : w3.cell? ⟨w.heap.size, 0, none⟩ = some (.slice a n c) := (hb3.cell (p := ⟨w.heap.size, 0, none⟩) (by simp; omega)).trans x0; have u1 : w3.cell? ⟨w.heap.size, 1, none⟩ = some (.slice p m q) := (hb3.cell (p := ⟨w.heap.size, 1, none⟩) (by simp; omega)).trans x1; have u2 : w3.cell? ⟨w.heap.size, 2, none⟩ = some (.int .i64 fuel) := (hb3.cell (p := ⟨w.heap.size, 2, none⟩) (by simp; omega)).trans x2; have u3 : w3.cell? ⟨w.heap.size, 3, none⟩ = some (.bool dead) := (hb3.cell (p := ⟨w.heap.size, 3, none⟩) (by simp; omega)).trans x3; have u4 : w3.cell? ⟨w.heap.size + 1, 0, none⟩ = some (.int .i64 at_) := (hb3.cell (p := ⟨w.heap.size + 1, 0, none⟩) (by simp; omega)).trans y0))
  have z3 := hb3.size
  rw [show w2.drew.heap.size = w2.heap.size from by simp] at z3
  clear x0 x1 x2 x3 y0 u0 u1 u2 u3 u4 hb3
  have hc3 : ∀ b o, b < w.heap.size + 5 → w3.cell? ⟨b, o, none⟩ = _ := fun b o hb => K3.out.cell (p := ⟨b, o, none⟩) hb
  have y1 : w3.cell? ⟨w.heap.size + 1, 0, none⟩ = some (.int .i64 at_) := (hc3 (w.heap.size + 1) 0 (by omega)).trans (frame5 w _ _ _ _ _ _ _ _ ()).2.1
  have y2 : w3.cell? ⟨w.heap.size + 2, 0, none⟩ = some (.int .i64 seq) := (hc3 (w.heap.size + 2) 0 (by omega)).trans (frame5 w _ _ _ _ _ _ _ _ ()).2.2.1
  have y3 : w3.cell? ⟨w.heap.size + 3, 0, none⟩ = some (.slice ad N cp) := (hc3 (w.heap.size + 3) 0 (by omega)).trans (frame5 w _ _ _ _ _ _ _ _ ()).2.2.2
  have HST : Hid (∀ (W : World) (b B : Nat) (a' p' : Option Addr) (c' q' : Nat) (A C), Dev W b (.slice a' n c') (.slice p' m q') fuel dead → OwnB W B a' n d → Gath W B (.slice p' m q') m S L F A C → (n ≠ 0 → ∀ i, i < m → L i ≠ 0 → A i ≠ a') → n ≤ c' → c' ≤ 9223372036854775807 → B ≤ b → w3.heap.size + 2 ≤ B → Below w3.heap.size w3 W →
      Calls Try.prog 54 #[.pointer (some ⟨b, 0, none⟩), .pointer (some ⟨w.heap.size + 1, 0, none⟩), .pointer (some ⟨w.heap.size + 2, 0, none⟩), .pointer (some ⟨w.heap.size + 3, 0, none⟩)] W fun e w' => Stepped e ∧ Left W b B n w' r.d r.m r.S r.L r.F r.fuel r.dead) := by
    intro W b B a' p' c' q' A C q1 q2 q3 q4 q5 q6 q7 q8 q9
    refine closure_rec b _ _ _ at_ seq _ W _ ((q9.cell (p := ⟨w.heap.size + 1, 0, none⟩) (by show w.heap.size + 1 < w3.heap.size; omega)).trans y1) ((q9.cell (p := ⟨w.heap.size + 2, 0, none⟩) (by show w.heap.size + 2 < w3.heap.size; omega)).trans y2) ((q9.cell (p := ⟨w.heap.size + 3, 0, none⟩) (by show w.heap.size + 3 < w3.heap.size; omega)).trans y3) ?_
    exact HDO.out W b B ⟨a', c', p', q', A, C, q1, q2, q3, q4, q5, q6⟩ q7 (fun W' hW' => HRD.out.below (((HFIN.out _ K3.out).trans (q9.mono (by omega))).trans (hW'.mono (by omega))))
  clear y1 y2 y3
  go_wp2_with fail
  refine (runSteps_rec a p n c m q d S L F fuel dead _ _ _ w3 (HA.out.below (HFIN.out _ K3.out)) (HP.out.below (HFIN.out _ K3.out)) hn hm HLL.out r.d r.m r.S r.L r.F r.fuel r.dead HST.out).mono ?_
  rintro e w9 ⟨a9, c9, p9, q9, A9, rfl, ho9, hb9⟩
  have z9 : w.heap.size + 5 ≤ w3.heap.size := by omega
  have K9 : Below (w.heap.size + 5) (((((w.alloc (.cells #[.slice a n c, .slice p m q, .int .i64 fuel, .bool dead] 39)).alloc (.cells #[.int .i64 at_] 2)).alloc (.cells #[.int .i64 seq] 2)).alloc (.cells #[.slice ad N cp] 24)).alloc (.cells #[.slice none 0 0, .slice none 0 0, .int .i64 0, .bool false] 39)) w9 := K3.out.trans (hb9.mono z9)
  have hc9 : ∀ b o, b < w.heap.size + 5 → w9.cell? ⟨b, o, none⟩ = _ := fun b o hb => K9.cell (p := ⟨b, o, none⟩) hb
  have hf9 : ∀ b o, b < w.heap.size + 5 → w9.frozen? ⟨b, o, none⟩ = _ := fun b o hb => K9.frozen (p := ⟨b, o, none⟩) hb
  have hz9 : w.heap.size + 4 < w9.heap.size := by have := hb9.size; omega
  have HX : Hid (OwnD w9 (w.heap.size + 5) a9 n r.d p9 r.m r.S r.L r.F A9 ∧ Below w.heap.size w w9) := ⟨ho9.mono z9, HFIN.out _ K9⟩
  clear ho9 hb9 K9 hc3 HST
  go_wp2
  refine bodyPost_ret (v := .agg #[.slice a9 n c9, .slice p9 r.m q9, .int .i64 r.fuel, .bool r.dead]) (by simp [results, Try.results24, go_sem, hc9]) rfl ⟨a9, c9, p9, q9, A9, rfl, ?_, ?_⟩
  · exact ((((HX.out.1.setOther (by simp) _).setOther (by simp) _).setOther (by simp) _).setOther (by simp) _).mono (by omega)
  · exact (((HX.out.2.setCell (by simp; try omega) _).setCell (by simp; try omega) _).setCell (by simp; try omega) _).setCell (by simp; try omega) _
end Go.Proofs.Ytbpcafcipncloaa
