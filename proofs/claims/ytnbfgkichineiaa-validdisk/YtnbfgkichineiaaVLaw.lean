import Derived.Test.YtnbfgkichineiaaValid
import Derived.Test.YtnbfgkichineiaaSz
import Derived.Test.YtnbfgkichineiaaToDisk
import Derived.Test.YtnbfgkichineiaaEqD
import Derived.Test.YtnbfgkichineiaaOpenDisk
namespace Go.Proofs.Ytnbfgkichineiaa
open Go.RowKit Go.Deep

set_option maxHeartbeats 2000000 in
theorem vLaw (v : Value) (w : World) (hv : IsDisk w v) :
    Calls Try.prog 4 #[v] w fun e w' => e = .returned (.bool true) ∧ Below w.heap.size w w' := by
  obtain ⟨a, n, c, d, p, m, q, S, L, F, fuel, dead, rfl, ha, _, hn, hp, hpb, hm, _⟩ := hv
  have HA : Hid (Rd .u8 w a n d) := ha
  have HP : Hid (RdP w p m S L F) := hp
  have HL : Hid (∀ i, i < m → L i ≤ maxLen) := fun i hi => (hpb i hi).2.2
  clear ha hp hpb
  go_enter Try.func4, Try.ntmps4
  go_wp2_with fail
  refine (szDisk_any a p n c m q S L F fuel dead _ hn (HP.out.below (below_alloc _ _)) hm HL.out).mono ?_
  rintro e w1 ⟨r, rfl, hr, hb1⟩
  rw [show ∀ O, (w.alloc O).heap.size = w.heap.size + 1 from fun O => by simp] at hb1
  have K1 : Hid (Below (w.heap.size + 1) (w.alloc _) w1) := hb1
  have J : ∀ {W : World}, Below (w.heap.size + 1) (w.alloc (.cells #[.slice a n c, .slice p m q, .int .i64 fuel, .bool dead] 32)) W → Below w.heap.size w W := fun h => (below_alloc _ _).trans (h.mono (by omega))
  have HJ : Hid (∀ {W : World}, Below (w.heap.size + 1) (w.alloc (.cells #[.slice a n c, .slice p m q, .int .i64 fuel, .bool dead] 32)) W → Below w.heap.size w W) := J
  clear J
  obtain ⟨x0, x1, x2, x3, xz1⟩ := box4 hb1
  clear hb1
  rcases hr with rfl | ⟨hr0, hn1, hm1, hL1⟩
  · clear x0 x1 x2 x3
    go_wp2
    go_ret
    exact ⟨rfl, HJ.out K1.out⟩
  have hr1 : ¬ r < 0 := by omega
  have HL1 : Hid (∀ i, i < m → L i ≤ 1048576) := hL1
  clear hL1 hn hm
  go_wp2_with fail
  refine (toDisk_any a p n c m q d S L F fuel dead w1 (HA.out.below (HJ.out K1.out)) (HP.out.below (HJ.out K1.out)) hn1 hm1 HL1.out).mono ?_
  rintro e w2 ⟨a2, c2, p2, q2, A2, rfl, ho2, hb2, -⟩
  have K2 : Hid (Below (w.heap.size + 1) (w.alloc _) w2) := K1.out.trans (hb2.mono (by omega))
  have H2 : Hid (OwnD w2 w1.heap.size a2 n d p2 m S L F A2) := ho2
  clear x0 x1 x2 x3 ho2 hb2
  go_wp2_with fail
  refine (specValid_any a2 p2 n c2 m q2 S L F fuel dead w2 H2.out.cache.rd hn1 hm1).mono ?_
  rintro e w3 ⟨⟨b3, rfl, hb3v⟩, hb3⟩
  have K3 : Hid (Below (w.heap.size + 1) (w.alloc _) w3) := K2.out.trans (hb3.mono (by have := K2.out.size; simp at this; omega))
  obtain ⟨x0, x1, x2, x3, xz3⟩ := box4 K3.out
  have B3 : Hid (b3 = true ↔ VD n m S L fuel) := hb3v
  clear hb3 hb3v
  go_wp2_with fail
  refine (toDisk_any a p n c m q d S L F fuel dead w3 (HA.out.below (HJ.out K3.out)) (HP.out.below (HJ.out K3.out)) hn1 hm1 HL1.out).mono ?_
  rintro e w4 ⟨a4, c4, p4, q4, A4, rfl, ho4, hb4, -⟩
  have K4 : Hid (Below (w.heap.size + 1) (w.alloc _) w4) := K3.out.trans (hb4.mono (by omega))
  have H4 : Hid (OwnD w4 w3.heap.size a4 n d p4 m S L F A4) := ho4
  clear x0 x1 x2 x3 ho4 hb4
  go_wp2_with fail
  refine (implValid_any a4 p4 n c4 m q4 S L F fuel dead _ (H4.out.cache.rd.below (below_alloc _ _)) hn1 hm1).mono ?_
  rintro e w5 ⟨⟨b5, rfl, hb5v⟩, hb5⟩
  rw [show ∀ O, (w4.alloc O).heap.size = w4.heap.size + 1 from fun O => by simp] at hb5
  have K5 : Hid (Below (w.heap.size + 1) (w.alloc _) w5) := (K4.out.alloc (by have := K4.out.size; simpa using this) _).trans (hb5.mono (by have := K4.out.size; simp at this; omega))
  have H5 : Hid (OwnD w5 w3.heap.size a4 n d p4 m S L F A4) := (H4.out.below (below_alloc _ _)).below (hb5.mono (by simp))
  obtain ⟨x0, x1, x2, x3, xz5⟩ := box4 K5.out
  obtain ⟨y0, y1, y2, y3, yz5⟩ := box4 hb5
  have hbb : b5 = b3 := by
    rw [Bool.eq_iff_iff]
    exact hb5v.trans B3.out.symm
  have R5 : Hid (Rd .u8 w5 a n d ∧ RdP w5 p m S L F) := ⟨HA.out.below (HJ.out K5.out), HP.out.below (HJ.out K5.out)⟩
  have L5 : Hid (Below (w4.heap.size + 1) (w4.alloc _) w5) := hb5
  clear hb5 hb5v B3
  subst hbb
  have hbb : (!(b5 == b5)) = false := by simp
  go_wp2
  go_region_with (first
    | (go_at_call 16; refine (toDisk_any a p n c m q d S L F fuel dead _ (by exact R5.out.1) (by exact R5.out.2) hn1 hm1 HL1.out).mono ?_; rintro e w6 ⟨a6, c6, p6, q6, A6, rfl, ho6, hb6, -⟩; obtain ⟨z0, z1, z2, z3, zz⟩ := box4 (L5.out.drew.trans (hb6.mono (by simp; omega))))
    | (go_at_call 11; refine (eqDisk_yes a4 a6 n c4 c6 d p4 p6 m q4 q6 S L F fuel dead _ ((by exact H5.out.data.rd : Rd .u8 w5.drew a4 n d).below hb6) ho6.data.rd ((by exact H5.out.cache.rd : RdP w5.drew p4 m S L F).below hb6) ho6.cache.rd (by omega) hm1 HL1.out).mono ?_; rintro e w7 ⟨rfl, hb7⟩))
  all_goals
    have HE : Hid (Below w.heap.size w w7) := by
      have q1 := (HJ.out K5.out).drew
      have s1 := q1.size
      have q2 := q1.trans (hb6.mono (by simpa using s1))
      exact q2.trans (hb7.mono q2.size)
    clear hb6 hb7 z0 z1 z2 z3 x0 x1 x2 x3 y0 y1 y2 y3
    go_wp2
    go_ret
    exact ⟨rfl, HE.out⟩
end Go.Proofs.Ytnbfgkichineiaa
