import Derived.Test.YtcnollkkigiobaaMc1
import Derived.OpenShut
import Derived.Lib.SmallJoins
import Derived.ProofKit
import Derived.Test.YtcnollkkigiobaaMc4
namespace Go.Proofs.Ytcnollkkigiobaa
open Go.ChangeShapes Go.WideShapes Go.ChangeAt Go.RowKit Go.Deep Go.Joins

/-- Four numbers. -/
def IsQuad (v : Value) : Prop := ∃ a b c d : Int, v = .agg #[.int .i64 a, .int .i64 b, .int .i64 c, .int .i64 d]

section
variable {H : Type} {enc : TypeId × Value → H} {W : World}

set_option maxRecDepth 100000 in
theorem openQuad {r : Reach} {b0 : Nat} {v : Value} {d : DataW H} {p : List MemPlace} (hv : Value.okWide Try.prog W r b0 34 v) (h : DataW.Trod enc Try.prog W 0 (fun _ => true) true 34 v d p) : IsQuad v := by
  obtain ⟨v0, v1, v2, v3, y0, y1, y2, y3, n, rfl, _, _, h0, h1, h2, h3⟩ := open_agg4 Try.underlying34 (by kernel_rfl) (by kernel_rfl) hv h
  obtain ⟨a, e0, _, _⟩ := DataW.trod_int Try.underlying2 h0
  obtain ⟨b, e1, _, _⟩ := DataW.trod_int Try.underlying2 h1
  obtain ⟨c, e2, _, _⟩ := DataW.trod_int Try.underlying2 h2
  obtain ⟨d, e3, _, _⟩ := DataW.trod_int Try.underlying2 h3
  simp at e0 e1 e2 e3
  subst e0 e1 e2 e3
  exact ⟨a, b, c, d, rfl⟩
end

end Go.Proofs.Ytcnollkkigiobaa


namespace Go.Proofs.Ytcnollkkigiobaa
open Go.RowKit Go.Deep
set_option linter.unusedVariables false
set_option maxRecDepth 100000

/-- The law's two boxes, and its third: an index of its own. -/
def Kx (w : World) (a : Option Addr) (n c : Nat) (p : Qd) (M : Nat → Nat) (T : Nat → Nat → Tn) (b g : Nat) (W : World) : Prop := Kp w a n c p W ∧ RdIx W (some ⟨g, 0, none⟩) n M T ∧ Bx W b 29 #[.slice (some ⟨g, 0, none⟩) n n]
theorem Kx.kp {w W : World} {a : Option Addr} {n c : Nat} {p : Qd} {M : Nat → Nat} {T : Nat → Nat → Tn} {b g : Nat} (h : Kx w a n c p M T b g W) : Kp w a n c p W := h.1
theorem Kx.rd {w W : World} {a : Option Addr} {n c : Nat} {p : Qd} {M : Nat → Nat} {T : Nat → Nat → Tn} {b g : Nat} (h : Kx w a n c p M T b g W) : RdIx W (some ⟨g, 0, none⟩) n M T := h.2.1
theorem Kx.next {w W W' : World} {a : Option Addr} {n c : Nat} {p : Qd} {M : Nat → Nat} {T : Nat → Nat → Tn} {b g : Nat} (h : Kx w a n c p M T b g W) (hb : Below W.heap.size W W') : Kx w a n c p M T b g W' := ⟨h.1.next hb, h.2.1.below hb, (hb.block _ h.2.2.lt).trans h.2.2⟩
theorem Kx.drew {w W : World} {a : Option Addr} {n c : Nat} {p : Qd} {M : Nat → Nat} {T : Nat → Nat → Tn} {b g : Nat} (h : Kx w a n c p M T b g W) : Kx w a n c p M T b g W.drew := h.next ((Below.refl _ _).drew)
theorem Kx.new {w W : World} {a : Option Addr} {n c : Nat} {p : Qd} {M : Nat → Nat} {T : Nat → Nat → Tn} {g : Nat} (k : Kp w a n c p W) (r : RdIx W (some ⟨g, 0, none⟩) n M T) : Kx w a n c p M T W.heap.size g (W.alloc (.cells #[.slice (some ⟨g, 0, none⟩) n n] 29)) := ⟨k.next (below_alloc _ _), r.below (below_alloc _ _), Bx.new W _ _⟩
theorem Kx.cells {w W : World} {a : Option Addr} {n c : Nat} {p : Qd} {M : Nat → Nat} {T : Nat → Nat → Tn} {b g : Nat} (h : Kx w a n c p M T b g W) : W.cell? ⟨b, 0, none⟩ = some (.slice (some ⟨g, 0, none⟩) n n) ∧ W.cell? ⟨w.heap.size, 0, none⟩ = some (.slice a n c) ∧ W.cell? ⟨w.heap.size + 1, 0, none⟩ = some (.int .i64 p.s) ∧ W.cell? ⟨w.heap.size + 1, 1, none⟩ = some (.int .i64 p.p) ∧ W.cell? ⟨w.heap.size + 1, 2, none⟩ = some (.int .i64 p.o) ∧ W.cell? ⟨w.heap.size + 1, 3, none⟩ = some (.int .i64 p.g) := ⟨h.2.2.cell 0, h.1.cells⟩
set_option maxHeartbeats 4000000 in
theorem cqLaw (a : Option Addr) (n c : Nat) (M : Nat → Nat) (T : Nat → Nat → Tn) (p : Qd) (perm : Int) (w : World) (ha : RdIx w a n M T) (hX : ∀ i, i < n → M i ≤ maxLen ∧ ∀ j, j < M i → TnBig (T i j)) (hn : n ≤ maxLen) :
    Calls Try.prog 4 #[.agg #[.slice a n c], qv p, .int .i64 perm] w fun e w' => e = .returned (.bool true) ∧ Below w.heap.size w w' := by
  obtain ⟨B, hE, hO⟩ := elig2 perm p
  obtain ⟨L, hL⟩ := cq_ex n M T p perm B hO
  obtain ⟨l, hl⟩ : ∃ l, l = L.length := ⟨_, rfl⟩
  have HA : Hid (RdIx w a n M T) := ha
  have HXs : Hid (∀ i, i < n → M i ≤ maxLen ∧ ∀ j, j < M i → TnBig (T i j)) := hX
  have HSz : Hid (∀ W, Kp w a n c p W → Calls Try.prog 5 #[.agg #[.slice a n c], .int .i64 1048576] W fun e w' => ∃ r : Int, e = .returned (.int .i64 r) ∧ (r = -1 ∨ (0 ≤ r ∧ n + sumI M T n ≤ 1048576)) ∧ Below W.heap.size W w') := fun W k => szIndex_sum a n c M T W (ha.below k.below) hn hX
  have HTq : Hid (∀ W : World, Calls Try.prog 11 #[.agg #[.int .i64 p.s, .int .i64 p.p, .int .i64 p.o, .int .i64 p.g]] W fun e w' => e = .returned (.agg #[.int .i64 p.s, .int .i64 p.p, .int .i64 p.o, .int .i64 p.g]) ∧ Below W.heap.size W w') := fun W => toQuad_any _ _ _ _ W
  have HTi : Hid (n ≤ 1048576 → IxFit n M T → ∀ W, Kp w a n c p W → Calls Try.prog 7 #[.agg #[.slice a n c]] W fun e w' => ∃ g, e = .returned (.agg #[.slice (some ⟨g, 0, none⟩) n n]) ∧ RdIx w' (some ⟨g, 0, none⟩) n M T ∧ Below W.heap.size W w') := fun h1 h2 W k => (toIndex_any a n c M T W (ha.below k.below) h1 h2).mono fun e w' ⟨g, q1, _, q3, q4⟩ => ⟨g, q1, q3.rd, q4⟩
  have HSp : Hid (n ≤ 1048576 → IxFit n M T → ∀ W a, RdIx W a n M T → Calls Try.prog 10 #[.agg #[.slice a n n], .agg #[.int .i64 p.s, .int .i64 p.p, .int .i64 p.o, .int .i64 p.g], .int .i64 perm] W fun e w' => e = .returned (.int .i64 (l : Int)) ∧ Below W.heap.size W w') := fun h1 h2 W a h => by rw [hl]; exact specCQ a n n M T p perm B L W h h1 h2 (fun w => (hE w).1) hL
  have HIm : Hid (n ≤ 1048576 → IxFit n M T → ∀ W a, RdIx W a n M T → Calls Try.prog 12 #[.agg #[.slice a n n], .agg #[.int .i64 p.s, .int .i64 p.p, .int .i64 p.o, .int .i64 p.g], .int .i64 perm] W fun e w' => e = .returned (.int .i64 (l : Int)) ∧ Below W.heap.size W w') := fun h1 h2 W a h => by rw [hl]; exact implCQ a n n M T p perm B L W h h1 h2 (fun w => (hE w).2) hO hL
  have k0 : Kp w a n c p ((w.alloc (.cells #[.slice a n c] 24)).alloc (.cells #[.int .i64 p.s, .int .i64 p.p, .int .i64 p.o, .int .i64 p.g] 34)) := Below.refl _ _
  have K0 : Hid (Kp w a n c p ((w.alloc (.cells #[.slice a n c] 24)).alloc (.cells #[.int .i64 p.s, .int .i64 p.p, .int .i64 p.o, .int .i64 p.g] 34))) := k0
  clear ha hX hE hO hL hl k0
  unfold qv
  go_enter Try.func4, Try.ntmps4
  go_wp2_with fail
  (with_reducible refine (HSz.out _ K0.out).mono ?_)
  rintro e w1 ⟨r, rfl, hr, hb1⟩
  have K1 : Hid (Kp w a n c p w1) := K0.out.next hb1
  clear hb1 HSz
  rcases hr with rfl | ⟨hr0, hsum⟩
  · go_wp2
    go_ret
    exact ⟨rfl, K1.out.below⟩
  have hr1 : ¬ r < 0 := by omega
  have hn1 : n ≤ 1048576 := by omega
  have HTi2 : Hid (∀ W, Kp w a n c p W → Calls Try.prog 7 #[.agg #[.slice a n c]] W fun e w' => ∃ g, e = .returned (.agg #[.slice (some ⟨g, 0, none⟩) n n]) ∧ RdIx w' (some ⟨g, 0, none⟩) n M T ∧ Below W.heap.size W w') := HTi.out hn1 (ixFit_of hsum)
  have HSp2 : Hid (∀ W a, RdIx W a n M T → Calls Try.prog 10 #[.agg #[.slice a n n], .agg #[.int .i64 p.s, .int .i64 p.p, .int .i64 p.o, .int .i64 p.g], .int .i64 perm] W fun e w' => e = .returned (.int .i64 (l : Int)) ∧ Below W.heap.size W w') := HSp.out hn1 (ixFit_of hsum)
  have HIm2 : Hid (∀ W a, RdIx W a n M T → Calls Try.prog 12 #[.agg #[.slice a n n], .agg #[.int .i64 p.s, .int .i64 p.p, .int .i64 p.o, .int .i64 p.g], .int .i64 perm] W fun e w' => e = .returned (.int .i64 (l : Int)) ∧ Below W.heap.size W w') := HIm.out hn1 (ixFit_of hsum)
  have HFt : Hid (IxFit n M T) := ixFit_of hsum
  clear hn hsum HTi HSp HIm
  obtain ⟨x0, q0, q1, q2, q3⟩ := K1.out.cells
  have kd : Hid (Kp w a n c p w1.drew) := K1.out.next ((Below.refl _ _).drew)
  go_wp2
  go_region_with (first
    | (go_at_call 7; (with_reducible refine (HTi2.out _ kd.out).mono ?_); rintro e w2 ⟨g2, rfl, r2, b2⟩; have kd : Hid (Kp w a n c p w2) := kd.out.next b2; have r2 : Hid (RdIx w2 (some ⟨g2, 0, none⟩) n M T) := r2; obtain ⟨x0, q0, q1, q2, q3⟩ := kd.out.cells; clear b2)
    | (go_at_call 11; (with_reducible refine (HTq.out _).mono ?_); rintro e w3 ⟨rfl, b3⟩; have kd : Hid (Kp w a n c p w3) := kd.out.next b3; (try have r2 : Hid (RdIx w3 (some ⟨g2, 0, none⟩) n M T) := r2.out.below b3); obtain ⟨x0, q0, q1, q2, q3⟩ := kd.out.cells; clear b3)
    | (go_at_call 10; (with_reducible refine (HSp2.out _ _ r2.out).mono ?_); rintro e w4 ⟨rfl, b4⟩; have kd : Hid (Kp w a n c p w4) := kd.out.next b4; clear b4))
  all_goals
    clear x0 q0 q1 q2 q3 HSp2
    obtain ⟨x0, q0, q1, q2, q3⟩ := kd.out.cells
    go_wp2_with fail
    (with_reducible refine (HTi2.out _ kd.out).mono ?_)
    rintro e w5 ⟨g5, rfl, r5, b5⟩
    have K6 : Hid (Kx w a n c p M T w5.heap.size g5 (w5.alloc (.cells #[.slice (some ⟨g5, 0, none⟩) n n] 29))) := Kx.new (kd.out.next b5) r5
    obtain ⟨W6, hW6⟩ : ∃ W6, W6 = w5.alloc (.cells #[.slice (some ⟨g5, 0, none⟩) n n] 29) := ⟨_, rfl⟩
    go_upto_region 7 with fail
    rw [← hW6] at K6 ⊢
    obtain ⟨b6, hb6⟩ : ∃ b6, b6 = w5.heap.size := ⟨_, rfl⟩
    rw [← hb6] at K6 ⊢
    clear hW6 hb6 b5 r5 x0 q0 q1 q2 q3 kd
    have kd : Hid (Kx w a n c p M T b6 g5 W6.drew) := K6.out.drew
    obtain ⟨x9, x0, q0, q1, q2, q3⟩ := K6.out.cells
    clear K6
    go_region_with (first
      | (go_at_call 11; (with_reducible refine (HTq.out _).mono ?_); rintro e w7 ⟨rfl, b7⟩; have kd : Hid (Kx w a n c p M T b6 g5 w7) := kd.out.next b7; clear b7 x9 x0 q0 q1 q2 q3; obtain ⟨x9, x0, q0, q1, q2, q3⟩ := kd.out.cells)
      | (go_at_call 12; (with_reducible refine (HIm2.out _ _ kd.out.rd).mono ?_); rintro e w8 ⟨rfl, b8⟩; have kd : Hid (Kx w a n c p M T b6 g5 w8) := kd.out.next b8; clear b8 x9 x0 q0 q1 q2 q3; obtain ⟨x9, x0, q0, q1, q2, q3⟩ := kd.out.cells))
    all_goals
      have K8 : Hid (Kx w a n c p M T b6 g5 w8.drew) := kd.out.drew
      clear kd
      have hll : (!((l : Int) == (l : Int))) = false := by simp
      go_wp2
      go_region_with (first
        | (go_at_call 7; (with_reducible refine (HTi2.out _ K8.out.kp).mono ?_); rintro e wa ⟨ga, rfl, ra, ba⟩; have KA : Hid (Kx w a n c p M T b6 g5 wa) := K8.out.next ba; clear ba x9 x0 q0 q1 q2 q3; obtain ⟨x9, x0, q0, q1, q2, q3⟩ := KA.out.cells; have RA : Hid (RdIx wa (some ⟨ga, 0, none⟩) n M T) := ra; clear ra)
        | (go_at_call 9; (with_reducible refine (eqIndex_yes (some ⟨g5, 0, none⟩) (some ⟨ga, 0, none⟩) n n n M T _ KA.out.rd RA.out hn1 HFt.out).mono ?_); rintro e wb ⟨rfl, bb⟩))
      all_goals
        have HZ : Hid (Below w.heap.size w wb) := (KA.out.kp.next bb).below
        clear bb x9 x0 q0 q1 q2 q3
        go_wp2
        go_ret
        exact ⟨rfl, HZ.out⟩
end Go.Proofs.Ytcnollkkigiobaa

namespace Go.Proofs.Ytcnollkkigiobaa
open Go.RowKit Go.Deep

theorem cqLawV (vi vq : Value) (perm : Int) (w : World) (h1 : IsIndex w vi) (h2 : IsQuad vq) (_ : (Lit.int .i64 perm).wf = true) : Calls Try.prog 4 #[vi, vq, .int .i64 perm] w fun e w' => e = .returned (.bool true) ∧ Below w.heap.size w w' := by
  obtain ⟨a, n, c, M, T, rfl, ha, hX, hn⟩ := h1
  obtain ⟨s, p, o, g, rfl⟩ := h2
  exact cqLaw a n c M T ⟨s, p, o, g⟩ perm w ha hX hn
end Go.Proofs.Ytcnollkkigiobaa
