import Derived.Test.YtfecgececffdoaaDxS
import Derived.Test.YtfecgececffdoaaTmSpR
import Derived.Test.YtfecgececffdoaaTmImpR
namespace Go.Proofs.Ytfecgececffdoaa
open Go.RowKit Go.Deep
set_option linter.unusedVariables false
set_option maxRecDepth 100000

set_option maxHeartbeats 8000000 in
theorem reLaw (v : Value) (x : Int) (w : World) (hv : IsDict w v) (wx : (Lit.int .i64 x).wf = true) :
    Calls Try.prog 4 #[v, .int .i64 x] w fun e w' => e = .returned (.bool true) ∧ Below w.heap.size w w' := by
  obtain ⟨next, a, n, c, I, X, R, rfl, ha, hX, hn⟩ := hv
  have HA : Hid (RdT w a n I X R) := ha
  have HXs : Hid (∀ i, i < n → (X i).size ≤ maxLen) := hX
  clear ha hX
  go_enter Try.func4, Try.ntmps4
  go_wp2_with fail
  refine (szDict_any next a n c I X R 1048576 _ (HA.out.below (below_alloc _ _)) hn HXs.out (by omega) (by omega)).mono ?_
  rintro e w1 ⟨r, rfl, hr, hb1⟩
  rw [show ∀ O, (w.alloc O).heap.size = w.heap.size + 1 from fun O => by simp] at hb1
  have K1 : Hid (Below (w.heap.size + 1) (w.alloc (.cells #[.int .i64 next, .slice a n c] 24)) w1) := hb1
  have HJ : Hid (∀ {W : World}, Below (w.heap.size + 1) (w.alloc (.cells #[.int .i64 next, .slice a n c] 24)) W → Below w.heap.size w W) := fun h => (below_alloc _ _).trans (h.mono (by omega))
  obtain ⟨x0, x1, xz1, _⟩ := dbox hb1
  clear hb1
  rcases hr with rfl | ⟨hr0, hn1⟩
  · clear x0 x1
    go_wp2
    go_ret
    exact ⟨rfl, HJ.out K1.out⟩
  have hr1 : ¬ r < 0 := by omega
  clear hn
  go_wp2_with fail
  refine (toDict_any next a n c I X R w1 (HA.out.below (HJ.out K1.out)) hn1).mono ?_
  rintro e w2 ⟨g2, rfl, hg2, hr2, hb2⟩
  have K2 : Hid (Below (w.heap.size + 1) (w.alloc (.cells #[.int .i64 next, .slice a n c] 24)) w2) := K1.out.trans (hb2.mono (by omega))
  have H2 : Hid (rowIn w2 g2 51 (n * 3) (termCell I X R)) := hr2
  have z2 : w.heap.size + 1 ≤ w2.heap.size := by have := hb2.size; omega
  clear x0 x1 hr2 hb2
  go_wp2_with fail
  refine (specRelease next (some ⟨g2, 0, none⟩) n n I X R x w2 (rdT_row H2.out) hn1 (Nat.le_refl _)).mono ?_
  rintro e w3 ⟨ok, id, nx, n', I', X', R', hans, aS, cS, rfl, ho3, hb3⟩
  have HANS : Hid (ReAns next n I X R x ok id nx n' I' X' R') := hans
  have hn' : n' ≤ 1048576 := hans.le hn1
  have K3 : Hid (Below (w.heap.size + 1) (w.alloc (.cells #[.int .i64 next, .slice a n c] 24)) (w3.alloc (.cells #[.bool ok, .int .i64 id, .int .i64 nx, .slice aS n' cS] 30))) := (K2.out.trans (hb3.mono z2)).alloc (by have := hb3.size; omega) _
  have Q3 : Hid (Bx (w3.alloc (.cells #[.bool ok, .int .i64 id, .int .i64 nx, .slice aS n' cS] 30)) w3.heap.size #[.bool ok, .int .i64 id, .int .i64 nx, .slice aS n' cS] 30 ∧ OwnT (w3.alloc (.cells #[.bool ok, .int .i64 id, .int .i64 nx, .slice aS n' cS] 30)) (w.heap.size + 1) aS n' I' X' R') := ⟨Bx.new _ _ _, (ho3.below (below_alloc _ _)).mono z2⟩
  clear ho3 hb3 hans z2 H2 K2
  go_upto_region 6 with fail
  generalize w3.alloc (.cells #[.bool ok, .int .i64 id, .int .i64 nx, .slice aS n' cS] 30) = W3 at K3 Q3 ⊢
  generalize w3.heap.size = bW at Q3 ⊢
  obtain ⟨x0, x1, xz3, _⟩ := dbox K3.out
  go_wp2_with fail
  refine (toDict_any next a n c I X R W3 (HA.out.below (HJ.out K3.out)) hn1).mono ?_
  rintro e w4 ⟨g4, rfl, hg4, hr4, hb4⟩
  have K4 : Hid (Below (w.heap.size + 1) (w.alloc (.cells #[.int .i64 next, .slice a n c] 24)) (w4.alloc (.cells #[.int .i64 next, .slice (some ⟨g4, 0, none⟩) n n] 28))) := (K3.out.trans (hb4.mono (by omega))).alloc (by have := hb4.size; omega) _
  have B4 : Hid (Below W3.heap.size W3 (w4.alloc (.cells #[.int .i64 next, .slice (some ⟨g4, 0, none⟩) n n] 28))) := hb4.alloc hb4.size _
  have Q4 : Hid (Bx (w4.alloc (.cells #[.int .i64 next, .slice (some ⟨g4, 0, none⟩) n n] 28)) w4.heap.size #[.int .i64 next, .slice (some ⟨g4, 0, none⟩) n n] 28 ∧ OwnT (w4.alloc (.cells #[.int .i64 next, .slice (some ⟨g4, 0, none⟩) n n] 28)) W3.heap.size (some ⟨g4, 0, none⟩) n I X R) := ⟨Bx.new _ _ _, Or.inr ⟨g4, rfl, hg4, hr4.of_block ((below_alloc _ _).block _ hr4.lt)⟩⟩
  clear x0 x1 hr4 hb4 hg4
  go_upto_region 7 with fail
  generalize w4.alloc (.cells #[.int .i64 next, .slice (some ⟨g4, 0, none⟩) n n] 28) = W4 at K4 B4 Q4 ⊢
  generalize w4.heap.size = bX at Q4 ⊢
  have x0 : W4.cell? ⟨bX, 0, none⟩ = some (.int .i64 next) := by rw [Q4.out.1.cell]; rfl
  have x1 : W4.cell? ⟨bX, 1, none⟩ = some (.slice (some ⟨g4, 0, none⟩) n n) := by rw [Q4.out.1.cell]; rfl
  go_wp2_with fail
  refine (implRelease next (some ⟨g4, 0, none⟩) n n I X R x W4 Q4.out.2.rd hn1).mono ?_
  rintro e w5 ⟨ok5, id5, nx5, n5, I5, X5, R5, hans, aG, cG, rfl, ho5, hb5⟩
  obtain ⟨rfl, rfl, rfl, rfl, rfl, rfl, rfl⟩ := hans.same HANS.out
  have S5 : Hid (LwS w (w5.alloc (.cells #[.bool ok5, .int .i64 id5, .int .i64 nx5, .slice aG n5 cG] 30)) (.cells #[.int .i64 next, .slice a n c] 24) bW bX w5.heap.size ok5 id5 nx5 next n n5 aS cS (some ⟨g4, 0, none⟩) n aG cG I X R I5 X5 R5 I5 X5 R5) := by
    have z4 : w.heap.size + 1 ≤ W4.heap.size := by have := K4.out.size; simpa using this
    have z3 : w.heap.size + 1 ≤ W3.heap.size := by have := K3.out.size; simpa using this
    have B5 : Below W4.heap.size W4 (w5.alloc (.cells #[.bool ok5, .int .i64 id5, .int .i64 nx5, .slice aG n5 cG] 30)) := hb5.alloc hb5.size _
    exact ⟨K4.out.trans (B5.mono z4), (Q3.out.1.keep B4.out).keep B5, Q4.out.1.keep B5, Bx.new _ _ _, (Q3.out.2.below B4.out).below B5, (Q4.out.2.mono z3).below B5, (ho5.below (below_alloc _ _)).mono z4, Q3.out.2.apart Q4.out.2 (Nat.le_refl _), Q4.out.2.apart ho5 (Nat.le_refl _), (Q3.out.2.below B4.out).apart ho5 (Nat.le_refl _)⟩
  clear x0 x1 ho5 hb5 hans Q4 Q3 K4 K3 B4
  go_upto_region 8 with fail
  generalize w5.alloc (.cells #[.bool ok5, .int .i64 id5, .int .i64 nx5, .slice aG n5 cG] 30) = W5 at S5 ⊢
  generalize w5.heap.size = bG at S5 ⊢
  obtain ⟨⟨x0, x1⟩, ⟨y0, y1, y2, y3⟩, ⟨u0, u1⟩, ⟨v0, v1, v2, v3⟩, l0, l1, l2, l3, -⟩ := S5.out.cells
  go_wp2_with fail
  refine (eqDictRes_yes ok5 id5 nx5 aG aS n5 cG cS I5 X5 R5 W5 S5.out.rG.rd S5.out.rS.rd hn').mono ?_
  rintro e w6 ⟨rfl, hb6⟩
  have S6 : Hid (LwS w w6 (.cells #[.int .i64 next, .slice a n c] 24) bW bX bG ok5 id5 nx5 next n n5 aS cS (some ⟨g4, 0, none⟩) n aG cG I X R I5 X5 R5 I5 X5 R5) := S5.out.keep hb6
  clear x0 x1 y0 y1 y2 y3 u0 u1 v0 v1 v2 v3 l0 l1 l2 l3 hb6 S5
  obtain ⟨⟨x0, x1⟩, -, ⟨u0, u1⟩, -, l0, l1, l2, l3, B6⟩ := S6.out.cells
  have H6 : Hid (RdT w6.drew a n I X R) := HA.out.below B6.drew
  have HXU : Hid (∀ w7 : World, Below w6.drew.heap.size w6.drew w7 → (w7.cell? ⟨bX, 0, none⟩ = some (.int .i64 next) ∧ w7.cell? ⟨bX, 1, none⟩ = some (.slice (some ⟨g4, 0, none⟩) n n)) ∧ RdT w7 (some ⟨g4, 0, none⟩) n I X R) := fun w7 hb => by
    have hb' : Below w6.heap.size w6 w7 := (Below.refl _ _).drew.trans hb
    obtain ⟨-, -, q, -⟩ := (S6.out.keep hb').cells
    exact ⟨q, (S6.out.keep hb').rX.rd⟩
  clear B6
  go_upto_region 10 with fail
  go_region_with (first
    | (go_at_call 8; refine (toDict_any next a n c I X R _ (by exact H6.out) hn1).mono ?_; rintro e w7 ⟨g7, rfl, hg7, hr7, hb7⟩; obtain ⟨⟨q0, q1⟩, q2⟩ := HXU.out w7 hb7)
    | (go_at_call 11; refine (eqDict_yes next (some ⟨g4, 0, none⟩) (some ⟨g7, 0, none⟩) n n n I X R _ q2 (rdT_row hr7) hn1).mono ?_; rintro e w8 ⟨rfl, hb8⟩))
  all_goals
    have S8 : Hid (LwS w w8 (.cells #[.int .i64 next, .slice a n c] 24) bW bX bG ok5 id5 nx5 next n n5 aS cS (some ⟨g4, 0, none⟩) n aG cG I X R I5 X5 R5 I5 X5 R5) := by
      have q1 : Below w6.heap.size w6 w7 := (Below.refl _ _).drew.trans hb7
      exact (S6.out.keep q1).keep hb8
    clear hb7 hb8 q0 q1 q2 hr7 hg7 x0 x1 u0 u1 l0 l1 l2 l3 S6 H6 HXU
    obtain ⟨-, -, ⟨u0, u1⟩, -, l0, l1, l2, l3, -⟩ := S8.out.cells
    go_wp2_with fail
    refine (markDict_any (w.heap.size + 1) next (some ⟨g4, 0, none⟩) n n I X R w8 S8.out.rX (by omega)).mono ?_
    rintro e w9 ⟨rfl, ho9, hm9⟩
    have S9 : Hid (LwS w w9 (.cells #[.int .i64 next, .slice a n c] 24) bW bX bG ok5 id5 nx5 next n n5 aS cS (some ⟨g4, 0, none⟩) n aG cG mI mX mR I5 X5 R5 I5 X5 R5) := S8.out.markX hm9 ho9
    clear u0 u1 l0 l1 l2 l3 ho9 hm9 S8
    obtain ⟨-, ⟨y0, y1, y2, y3⟩, -, ⟨v0, v1, v2, v3⟩, l0, l1, l2, l3, -⟩ := S9.out.cells
    have hneg : ¬ (1 + 3 * (n : Int) < 0) := by omega
    go_wp2_with fail
    refine (eqDictRes_yes ok5 id5 nx5 aG aS n5 cG cS I5 X5 R5 w9 S9.out.rG.rd S9.out.rS.rd hn').mono ?_
    rintro e w10 ⟨rfl, hb10⟩
    have S10 : Hid (LwS w w10 (.cells #[.int .i64 next, .slice a n c] 24) bW bX bG ok5 id5 nx5 next n n5 aS cS (some ⟨g4, 0, none⟩) n aG cG mI mX mR I5 X5 R5 I5 X5 R5) := S9.out.keep hb10
    clear y0 y1 y2 y3 v0 v1 v2 v3 l0 l1 l2 l3 hb10 S9
    obtain ⟨-, -, -, ⟨v0, v1, v2, v3⟩, l0, l1, l2, l3, -⟩ := S10.out.cells
    go_wp2_with fail
    refine (markDictRes_any (w.heap.size + 1) ok5 id5 nx5 aG n5 cG I5 X5 R5 w10 S10.out.rG (by omega)).mono ?_
    rintro e w11 ⟨rfl, ho11, hm11⟩
    have S11 : Hid (LwS w w11 (.cells #[.int .i64 next, .slice a n c] 24) bW bX bG ok5 id5 nx5 next n n5 aS cS (some ⟨g4, 0, none⟩) n aG cG mI mX mR I5 X5 R5 mI mX mR) := S10.out.markG hm11 ho11
    clear v0 v1 v2 v3 l0 l1 l2 l3 ho11 hm11 S10
    obtain ⟨-, -, -, ⟨v0, v1, v2, v3⟩, l0, l1, l2, l3, -⟩ := S11.out.cells
    go_wp2_with fail
    refine (heldDictRes_any (w.heap.size + 1) ok5 id5 nx5 aG n5 cG w11 S11.out.rG (by omega)).mono ?_
    rintro e w12 ⟨rfl, hb12⟩
    have S12 : Hid (LwS w w12 (.cells #[.int .i64 next, .slice a n c] 24) bW bX bG ok5 id5 nx5 next n n5 aS cS (some ⟨g4, 0, none⟩) n aG cG mI mX mR I5 X5 R5 mI mX mR) := S11.out.keep hb12
    clear v0 v1 v2 v3 l0 l1 l2 l3 hb12 S11
    obtain ⟨⟨x0, x1⟩, -, -, -, l0, l1, l2, l3, B12⟩ := S12.out.cells
    have HB12 : Hid (Below w.heap.size w w12) := B12
    clear B12
    have hneg2 : ¬ (1 + 3 * (n5 : Int) < 0) := by omega
    have hbb : (1 + 3 * (n5 : Int) != 1 + 3 * (n5 : Int)) = false := by simp
    go_wp2_with fail
    refine (toDict_any next a n c I X R w12 (HA.out.below HB12.out) hn1).mono ?_
    rintro e w13 ⟨g13, rfl, hg13, hr13, hb13⟩
    have S13 : Hid (LwS w w13 (.cells #[.int .i64 next, .slice a n c] 24) bW bX bG ok5 id5 nx5 next n n5 aS cS (some ⟨g4, 0, none⟩) n aG cG mI mX mR I5 X5 R5 mI mX mR ∧ rowIn w13 g13 51 (n * 3) (termCell I X R)) := ⟨S12.out.keep hb13, hr13⟩
    clear x0 x1 l0 l1 l2 l3 hr13 hb13 hg13 S12 HB12
    go_wp2_with fail
    refine (implRelease next (some ⟨g13, 0, none⟩) n n I X R x w13 (rdT_row S13.out.2) hn1).mono ?_
    rintro e w14 ⟨ok6, id6, nx6, n6, I6, X6, R6, hans, aH, cH, rfl, ho14, hb14⟩
    obtain ⟨rfl, rfl, rfl, rfl, rfl, rfl, rfl⟩ := hans.same HANS.out
    have S14 : Hid (LwS w (w14.alloc (.cells #[.bool ok6, .int .i64 id6, .int .i64 nx6, .slice aH n6 cH] 30)) (.cells #[.int .i64 next, .slice a n c] 24) bW bX bG ok6 id6 nx6 next n n6 aS cS (some ⟨g4, 0, none⟩) n aG cG mI mX mR I6 X6 R6 mI mX mR ∧ Bx (w14.alloc (.cells #[.bool ok6, .int .i64 id6, .int .i64 nx6, .slice aH n6 cH] 30)) w14.heap.size #[.bool ok6, .int .i64 id6, .int .i64 nx6, .slice aH n6 cH] 30 ∧ RdT (w14.alloc (.cells #[.bool ok6, .int .i64 id6, .int .i64 nx6, .slice aH n6 cH] 30)) aH n6 I6 X6 R6) := ⟨(S13.out.1.keep hb14).keep (below_alloc _ _), Bx.new _ _ _, ho14.rd.below (below_alloc _ _)⟩
    clear ho14 hb14 hans S13
    go_upto_region 25 with fail
    generalize w14.alloc (.cells #[.bool ok6, .int .i64 id6, .int .i64 nx6, .slice aH n6 cH] 30) = W14 at S14 ⊢
    generalize w14.heap.size = bH at S14 ⊢
    obtain ⟨-, ⟨y0, y1, y2, y3⟩, -, -, l0, l1, l2, l3, B14⟩ := S14.out.1.cells
    have HB14 : Hid (Below w.heap.size w W14) := B14
    have v0 : W14.cell? ⟨bH, 0, none⟩ = some (.bool ok6) := by rw [S14.out.2.1.cell]; rfl
    have v1 : W14.cell? ⟨bH, 1, none⟩ = some (.int .i64 id6) := by rw [S14.out.2.1.cell]; rfl
    have v2 : W14.cell? ⟨bH, 2, none⟩ = some (.int .i64 nx6) := by rw [S14.out.2.1.cell]; rfl
    have v3 : W14.cell? ⟨bH, 3, none⟩ = some (.slice aH n6 cH) := by rw [S14.out.2.1.cell]; rfl
    clear B14
    go_wp2_with fail
    refine (eqDictRes_yes ok6 id6 nx6 aH aS n6 cH cS I6 X6 R6 W14 S14.out.2.2 S14.out.1.rS.rd hn').mono ?_
    rintro e w15 ⟨rfl, hb15⟩
    have HE : Hid (Below w.heap.size w w15) := HB14.out.trans (hb15.mono HB14.out.size)
    clear hb15 v0 v1 v2 v3 y0 y1 y2 y3 l0 l1 l2 l3
    go_wp2
    go_ret
    exact ⟨rfl, HE.out⟩
end Go.Proofs.Ytfecgececffdoaa
