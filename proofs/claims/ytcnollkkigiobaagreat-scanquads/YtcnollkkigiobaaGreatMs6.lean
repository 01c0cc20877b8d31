import Derived.Test.YtcnollkkigiobaaGreatMc1
import Derived.OpenShut
import Derived.Lib.SmallJoins
import Derived.ProofKit
import Derived.Test.YtcnollkkigiobaaGreatMs4
import Derived.Test.YtcnollkkigiobaaGreatMs5
import Derived.Deep.CutRange
namespace Go.Proofs.YtcnollkkigiobaaGreat
open Go.ChangeShapes Go.WideShapes Go.ChangeAt Go.RowKit Go.Deep Go.Joins

/-- Four numbers. -/
def IsQuad (v : Value) : Prop := ∃ a b c d : Int, v = .agg #[.int .i64 a, .int .i64 b, .int .i64 c, .int .i64 d]

section
variable {H : Type} {enc : TypeId × Value → H} {W : World}

set_option maxRecDepth 100000 in
theorem openQuad {r : Reach} {b0 : Nat} {v : Value} {d : DataW H} {p : List MemPlace} (hv : Value.okWide Tryz.prog W r b0 26 v) (h : DataW.Trod enc Tryz.prog W 0 (fun _ => true) true 26 v d p) : IsQuad v := by
  obtain ⟨v0, v1, v2, v3, y0, y1, y2, y3, n, rfl, _, _, h0, h1, h2, h3⟩ := open_agg4 Tryz.underlying26 (by kernel_rfl) (by kernel_rfl) hv h
  obtain ⟨a, e0, _, _⟩ := DataW.trod_int Tryz.underlying2 h0
  obtain ⟨b, e1, _, _⟩ := DataW.trod_int Tryz.underlying2 h1
  obtain ⟨c, e2, _, _⟩ := DataW.trod_int Tryz.underlying2 h2
  obtain ⟨d, e3, _, _⟩ := DataW.trod_int Tryz.underlying2 h3
  simp at e0 e1 e2 e3
  subst e0 e1 e2 e3
  exact ⟨a, b, c, d, rfl⟩
end

end Go.Proofs.YtcnollkkigiobaaGreat


namespace Go.Proofs.YtcnollkkigiobaaGreat
open Go.RowKit Go.Deep
set_option linter.unusedVariables false
set_option maxRecDepth 100000

/-- The law's two boxes are as they were. -/
def Kp (w : World) (a : Option Addr) (n c : Nat) (p : Qd) (W : World) : Prop := Below (w.heap.size + 2) ((w.alloc (.cells #[.slice a n c] 24)).alloc (.cells #[.int .i64 p.s, .int .i64 p.p, .int .i64 p.o, .int .i64 p.g] 26)) W
theorem Kp.size {w W : World} {a : Option Addr} {n c : Nat} {p : Qd} (h : Kp w a n c p W) : w.heap.size + 2 ≤ W.heap.size := by
  have := Below.size h
  simpa using this
theorem Kp.next {w W W' : World} {a : Option Addr} {n c : Nat} {p : Qd} (h : Kp w a n c p W) (hb : Below W.heap.size W W') : Kp w a n c p W' := Below.trans h (hb.mono h.size)
theorem Kp.below {w W : World} {a : Option Addr} {n c : Nat} {p : Qd} (h : Kp w a n c p W) : Below w.heap.size w W := ((below_alloc _ _).alloc (by simp) _).trans (Below.mono h (by omega))
theorem Kp.cells {w W : World} {a : Option Addr} {n c : Nat} {p : Qd} (h : Kp w a n c p W) : W.cell? ⟨w.heap.size, 0, none⟩ = some (.slice a n c) ∧ W.cell? ⟨w.heap.size + 1, 0, none⟩ = some (.int .i64 p.s) ∧ W.cell? ⟨w.heap.size + 1, 1, none⟩ = some (.int .i64 p.p) ∧ W.cell? ⟨w.heap.size + 1, 2, none⟩ = some (.int .i64 p.o) ∧ W.cell? ⟨w.heap.size + 1, 3, none⟩ = some (.int .i64 p.g) := by
  have b1 := (Bx.new w #[.slice a n c] 24).alloc (.cells #[.int .i64 p.s, .int .i64 p.p, .int .i64 p.o, .int .i64 p.g] 26)
  have b2 := Bx.new (w.alloc (.cells #[.slice a n c] 24)) #[.int .i64 p.s, .int .i64 p.p, .int .i64 p.o, .int .i64 p.g] 26
  simp only [World.size_alloc] at b2
  have c1 : Bx W w.heap.size 24 #[.slice a n c] := (Below.block h _ (by omega)).trans b1
  have c2 : Bx W (w.heap.size + 1) 26 #[.int .i64 p.s, .int .i64 p.p, .int .i64 p.o, .int .i64 p.g] := (Below.block h _ (by omega)).trans b2
  exact ⟨c1.cell 0, c2.cell 0, c2.cell 1, c2.cell 2, c2.cell 3⟩
/-- What ScanQuads answers. -/
theorem sq_ex (n : Nat) (M : Nat → Nat) (T : Nat → Nat → Tn) (p : Qd) (perm : Int) (B : Bool) (hO : B = true → ∃ j : Nat, j < 6 ∧ perm = (j : Int) ∧ okTo (ptO j p) 4) : ∃ L : List Qd, L.length ≤ 300 ∧ ((¬ (VI n M T ∧ B = true) ∧ L = []) ∨ (VI n M T ∧ B = true ∧ ∃ j : Nat, j < 6 ∧ perm = (j : Int) ∧ ∃ t, VTt (M j) (T j) t ∧ L = ((keysR 21 t).map (quadOf j)).filter (fun q => fitB q p))) := by
  by_cases h : VI n M T ∧ B = true
  · obtain ⟨j, hj, e, _⟩ := hO h.2
    obtain ⟨t, ht, hl, _⟩ := h.1.2.1 j hj
    exact ⟨_, Nat.le_trans (List.length_filter_le _ _) (by rw [List.length_map]; exact hl), .inr ⟨h.1, h.2, j, hj, e, t, ht, rfl⟩⟩
  · exact ⟨[], by simp, .inl ⟨h, rfl⟩⟩
theorem OwQ.down {w : World} {B B' n : Nat} {a : Option Addr} {X : Nat → Int} (h : OwQ w B a n X) (hB : B' ≤ B) : OwQ w B' a n X := by
  rcases h with h | ⟨g, e, hg, hr⟩
  · exact .inl h
  · exact .inr ⟨g, e, Nat.le_trans hB hg, hr⟩
theorem OwQ.rdl {w : World} {B l : Nat} {a : Option Addr} {L : List Qd} (h : OwQ w B a l (qcF L)) (hl : l = L.length) : RdQ w a L := by
  subst hl
  exact h.rd
/-- A row of quads handed back, all of it new. -/
def RetSl (W : World) (l : Nat) (L : List Qd) (e : Ending) (w' : World) : Prop := ∃ a' c', e = .returned (.slice a' l c') ∧ OwQ w' W.heap.size a' l (qcF L) ∧ Below W.heap.size W w'
theorem RetSc.l {W w' : World} {l : Nat} {L : List Qd} {e : Ending} (h : RetSc W L e w') (hl : l = L.length) : RetSl W l L e w' := by
  obtain ⟨a', c', h1, h2, h3⟩ := h
  subst hl
  exact ⟨a', c', h1, own_owq h2, h3⟩
/-- The second index of the law: its box, its rows, what stands behind it. -/
structure Ks (w : World) (a : Option Addr) (n c : Nat) (p : Qd) (M : Nat → Nat) (T : Nat → Nat → Tn) (L : List Qd) (a8 : Option Addr) (wk W6 : World) (b g : Nat) (R : Nat → Nat) : Prop where
  kp : Kp w a n c p wk
  q8 : RdQ wk a8 L
  bel : Below wk.heap.size wk W6
  own : OwnIr W6 (g + 1) g n 0 n M T R
  box : Bx W6 b 32 #[.slice (some ⟨g, 0, none⟩) n n]
  low : wk.heap.size ≤ g
  hib : R n ≤ b
section
variable {w wk W5 W6 W : World} {a a8 : Option Addr} {n c : Nat} {p : Qd} {M : Nat → Nat} {T : Nat → Nat → Tn} {L : List Qd} {b g : Nat} {R : Nat → Nat}
theorem Ks.new (k : Kp w a n c p wk) (q : RdQ wk a8 L) (hg : wk.heap.size ≤ g) (ho : OwnIr W5 (g + 1) g n 0 n M T R) (hb : Below wk.heap.size wk W5) : Ks w a n c p M T L a8 wk (W5.alloc (.cells #[.slice (some ⟨g, 0, none⟩) n n] 32)) W5.heap.size g R :=
  ⟨k, q, hb.trans ((below_alloc _ _).mono hb.size), ho.below (below_alloc _ _), Bx.new _ _ _, hg, ho.2.2.1⟩
theorem Ks.all (k : Ks w a n c p M T L a8 wk W6 b g R) (hb : Below W6.heap.size W6 W) : Below wk.heap.size wk W := k.bel.trans (hb.mono k.bel.size)
theorem Ks.cells (k : Ks w a n c p M T L a8 wk W6 b g R) (hb : Below W6.heap.size W6 W) : W.cell? ⟨b, 0, none⟩ = some (.slice (some ⟨g, 0, none⟩) n n) ∧ W.cell? ⟨w.heap.size, 0, none⟩ = some (.slice a n c) ∧ W.cell? ⟨w.heap.size + 1, 0, none⟩ = some (.int .i64 p.s) ∧ W.cell? ⟨w.heap.size + 1, 1, none⟩ = some (.int .i64 p.p) ∧ W.cell? ⟨w.heap.size + 1, 2, none⟩ = some (.int .i64 p.o) ∧ W.cell? ⟨w.heap.size + 1, 3, none⟩ = some (.int .i64 p.g) := ⟨(k.box.below hb).cell 0, (k.kp.next (k.all hb)).cells⟩
theorem Ks.rdi (k : Ks w a n c p M T L a8 wk W6 b g R) (hb : Below W6.heap.size W6 W) : RdIx W (some ⟨g, 0, none⟩) n M T := k.own.rd.below hb
theorem Ks.ownW (k : Ks w a n c p M T L a8 wk W6 b g R) (hb : Below W6.heap.size W6 W) : OwnIr W (g + 1) g n 0 n M T R := k.own.below hb
theorem Ks.q8W (k : Ks w a n c p M T L a8 wk W6 b g R) (hb : Below wk.heap.size wk W) : RdQ W a8 L := k.q8.below hb
theorem Ks.kpW (k : Ks w a n c p M T L a8 wk W6 b g R) (hb : Below wk.heap.size wk W) : Kp w a n c p W := k.kp.next hb
/-- What marking the index leaves. -/
theorem Ks.marked {W' : World} {a10 : Option Addr} {l : Nat} {X : Nat → Int} (k : Ks w a n c p M T L a8 wk W6 b g R) (hb : Below W6.heap.size W6 W) (ho : OwQ W W6.heap.size a10 l X) (hw : WiT (R 0) (R n) W W') : OwQ W' W6.heap.size a10 l X ∧ Below wk.heap.size wk W' ∧ W6.heap.size ≤ W'.heap.size := by
  have h1 := k.own.2.1
  have h2 := k.low
  have h3 := k.hib
  have h4 := k.box.lt
  have h5 := hb.size
  have h6 := k.bel.size
  have h7 := k.own.2.2.2.1 0 n (Nat.zero_le _) (Nat.le_refl _)
  refine ⟨ho.keep (fun b' b1 b2 => hw.2.2.2.2 b' b2 (.inr (by omega))), (k.all hb).trans ((hw.below (by omega)).mono (by omega)), Nat.le_trans h5 hw.2.2.2.1⟩
end

set_option maxHeartbeats 4000000 in
theorem sqLaw (a : Option Addr) (n c : Nat) (M : Nat → Nat) (T : Nat → Nat → Tn) (p : Qd) (perm : Int) (w : World) (ha : RdIx w a n M T) (hX : ∀ i, i < n → M i ≤ maxLen ∧ ∀ j, j < M i → TnBig (T i j)) (hn : n ≤ maxLen) :
    Calls Tryz.prog 3 #[.agg #[.slice a n c], qv p, .int .i64 perm] w fun e w' => e = .returned (.bool true) ∧ Below w.heap.size w w' := by
  obtain ⟨B, hE, hO⟩ := elig2 perm p
  obtain ⟨L, hl3, hL⟩ := sq_ex n M T p perm B hO
  obtain ⟨l, hl⟩ : ∃ l, l = L.length := ⟨_, rfl⟩
  have HL : Hid (l = L.length) := hl
  have hlm : l ≤ 300 := by rw [hl]; exact hl3
  have HSz : Hid (∀ W, Kp w a n c p W → Calls Tryz.prog 7 #[.agg #[.slice a n c], .int .i64 1048576] W fun e w' => ∃ r : Int, e = .returned (.int .i64 r) ∧ (r = -1 ∨ (0 ≤ r ∧ n + sumI M T n ≤ 1048576)) ∧ Below W.heap.size W w') := fun W k => szIndex_sum a n c M T W (ha.below k.below) hn hX
  have HTq : Hid (∀ W : World, Calls Tryz.prog 10 #[.agg #[.int .i64 p.s, .int .i64 p.p, .int .i64 p.o, .int .i64 p.g]] W fun e w' => e = .returned (.agg #[.int .i64 p.s, .int .i64 p.p, .int .i64 p.o, .int .i64 p.g]) ∧ Below W.heap.size W w') := fun W => toQuad_any _ _ _ _ W
  have HTi : Hid (n ≤ 1048576 → IxFit n M T → ∀ W, Kp w a n c p W → Calls Tryz.prog 9 #[.agg #[.slice a n c]] W fun e w' => ∃ g R, e = .returned (.agg #[.slice (some ⟨g, 0, none⟩) n n]) ∧ W.heap.size ≤ g ∧ OwnIr w' (g + 1) g n 0 n M T R ∧ Below W.heap.size W w') := fun h1 h2 W k => toIndexR_any a n c M T W (ha.below k.below) h1 h2
  have HSp : Hid (n ≤ 1048576 → IxFit n M T → ∀ W a, RdIx W a n M T → Calls Tryz.prog 8 #[.agg #[.slice a n n], .agg #[.int .i64 p.s, .int .i64 p.p, .int .i64 p.o, .int .i64 p.g], .int .i64 perm] W (RetSl W l L)) := fun h1 h2 W a h => (specSQ a n n M T p perm B L W h h1 h2 (fun w => (hE w).1) hL).mono fun e w' q => q.l hl
  have HIm : Hid (n ≤ 1048576 → IxFit n M T → ∀ W a, RdIx W a n M T → Calls Tryz.prog 11 #[.agg #[.slice a n n], .agg #[.int .i64 p.s, .int .i64 p.p, .int .i64 p.o, .int .i64 p.g], .int .i64 perm] W (RetSl W l L)) := fun h1 h2 W a h => (implSQ a n n M T p perm B L W h h1 h2 (fun w => (hE w).2) hO hL).mono fun e w' q => q.l hl
  have k0 : Kp w a n c p ((w.alloc (.cells #[.slice a n c] 24)).alloc (.cells #[.int .i64 p.s, .int .i64 p.p, .int .i64 p.o, .int .i64 p.g] 26)) := Below.refl _ _
  have K0 : Hid (Kp w a n c p ((w.alloc (.cells #[.slice a n c] 24)).alloc (.cells #[.int .i64 p.s, .int .i64 p.p, .int .i64 p.o, .int .i64 p.g] 26))) := k0
  clear ha hX hE hO hL hl hl3 k0
  unfold qv
  go_enter Tryz.func3, Tryz.ntmps3
  go_wp2_with fail
  (with_reducible refine (HSz.out _ K0.out).mono ?_)
  rintro e w1 ⟨r, rfl, hr, hb1⟩
  have K1 : Hid (Kp w a n c p w1) := K0.out.next hb1
  clear hb1 HSz K0
  rcases hr with rfl | ⟨hr0, hsum⟩
  · go_wp2
    go_ret
    exact ⟨rfl, K1.out.below⟩
  have hr1 : ¬ r < 0 := by omega
  have hn1 : n ≤ 1048576 := by omega
  have HTi2 : Hid (∀ W, Kp w a n c p W → Calls Tryz.prog 9 #[.agg #[.slice a n c]] W fun e w' => ∃ g R, e = .returned (.agg #[.slice (some ⟨g, 0, none⟩) n n]) ∧ W.heap.size ≤ g ∧ OwnIr w' (g + 1) g n 0 n M T R ∧ Below W.heap.size W w') := HTi.out hn1 (ixFit_of hsum)
  have HSp2 : Hid (∀ W a, RdIx W a n M T → Calls Tryz.prog 8 #[.agg #[.slice a n n], .agg #[.int .i64 p.s, .int .i64 p.p, .int .i64 p.o, .int .i64 p.g], .int .i64 perm] W (RetSl W l L)) := HSp.out hn1 (ixFit_of hsum)
  have HIm2 : Hid (∀ W a, RdIx W a n M T → Calls Tryz.prog 11 #[.agg #[.slice a n n], .agg #[.int .i64 p.s, .int .i64 p.p, .int .i64 p.o, .int .i64 p.g], .int .i64 perm] W (RetSl W l L)) := HIm.out hn1 (ixFit_of hsum)
  have HFt : Hid (IxFit n M T ∧ n + sumI M T n ≤ 1048576) := ⟨ixFit_of hsum, hsum⟩
  clear hn hsum HTi HSp HIm
  obtain ⟨x0, q0, q1, q2, q3⟩ := K1.out.cells
  have kd : Hid (Kp w a n c p w1.drew) := K1.out.next ((Below.refl _ _).drew)
  go_wp2
  go_cut [8] from 20 to 25 (fun s8 wx => ∃ a8 c8, s8 = .slice a8 l c8 ∧ RdQ wx a8 L ∧ Kp w a n c p wx)
  case first =>
    go_region_with (first
      | (go_at_call 9; (with_reducible refine (HTi2.out _ kd.out).mono ?_); rintro e w2 ⟨g2, R2, rfl, h2, r2, b2⟩; have kd : Hid (Kp w a n c p w2) := kd.out.next b2; have r2 : Hid (RdIx w2 (some ⟨g2, 0, none⟩) n M T) := r2.rd; clear b2 x0 q0 q1 q2 q3; obtain ⟨x0, q0, q1, q2, q3⟩ := kd.out.cells)
      | (go_at_call 10; (with_reducible refine (HTq.out _).mono ?_); rintro e w3 ⟨rfl, b3⟩; have kd : Hid (Kp w a n c p w3) := kd.out.next b3; (try have r2 : Hid (RdIx w3 (some ⟨g2, 0, none⟩) n M T) := r2.out.below b3); clear b3 x0 q0 q1 q2 q3; obtain ⟨x0, q0, q1, q2, q3⟩ := kd.out.cells)
      | (go_at_call 8; (with_reducible refine (HSp2.out _ _ r2.out).mono ?_); rintro e w4 ⟨a4, c4, rfl, o4, b4⟩; have HF : Hid (RdQ w4 a4 L ∧ Kp w a n c p w4) := ⟨o4.rdl HL.out, kd.out.next b4⟩; clear b4 o4 x0 q0 q1 q2 q3))
    all_goals
      go_wp2
      go_meet
      case rel => exact ⟨_, _, rfl, HF.out⟩
  case rest =>
  obtain ⟨wk, rfl⟩ : ∃ x, x = wc := ⟨_, rfl⟩
  obtain ⟨a8, c8, rfl, hq8, hk8⟩ := hcut
  have K8 : Hid (Kp w a n c p wk ∧ RdQ wk a8 L) := ⟨hk8, hq8⟩
  clear hk8 hq8 x0 q0 q1 q2 q3 kd K1 HSp2
  obtain ⟨x0, q0, q1, q2, q3⟩ := K8.out.1.cells
  go_wp2_with fail
  (with_reducible refine (HTi2.out _ K8.out.1).mono ?_)
  rintro e w5 ⟨g5, R5, rfl, h5, o5, b5⟩
  have K6 : Hid (Ks w a n c p M T L a8 wk (w5.alloc (.cells #[.slice (some ⟨g5, 0, none⟩) n n] 32)) w5.heap.size g5 R5) := Ks.new K8.out.1 K8.out.2 h5 o5 b5
  obtain ⟨W6, hW6⟩ : ∃ W6, W6 = w5.alloc (.cells #[.slice (some ⟨g5, 0, none⟩) n n] 32) := ⟨_, rfl⟩
  go_upto_region 7 with fail
  rw [← hW6] at K6 ⊢
  obtain ⟨b6, hb6⟩ : ∃ b6, b6 = w5.heap.size := ⟨_, rfl⟩
  rw [← hb6] at K6 ⊢
  clear hW6 hb6 b5 o5 h5 x0 q0 q1 q2 q3 K8
  have kd : Hid (Below W6.heap.size W6 W6.drew) := (Below.refl _ _).drew
  obtain ⟨x9, x0, q0, q1, q2, q3⟩ := K6.out.cells (Below.refl _ _)
  go_cut [10] from 28 to 32 (fun s10 wx => ∃ a10 c10, s10 = .slice a10 l c10 ∧ OwQ wx W6.heap.size a10 l (qcF L) ∧ Below W6.heap.size W6 wx)
  case first =>
    go_region_with (first
      | (go_at_call 10; (with_reducible refine (HTq.out _).mono ?_); rintro e w7 ⟨rfl, b7⟩; have kd : Hid (Below W6.heap.size W6 w7) := kd.out.trans (b7.mono kd.out.size); clear b7 x9 x0 q0 q1 q2 q3; obtain ⟨x9, x0, q0, q1, q2, q3⟩ := K6.out.cells kd.out)
      | (go_at_call 11; (with_reducible refine (HIm2.out _ _ (K6.out.rdi kd.out)).mono ?_); rintro e w8 ⟨a10, c10, rfl, o10, b10⟩; have HF : Hid (OwQ w8 W6.heap.size a10 l (qcF L) ∧ Below W6.heap.size W6 w8) := ⟨o10.down kd.out.size, kd.out.trans (b10.mono kd.out.size)⟩; clear b10 o10 x9 x0 q0 q1 q2 q3))
    all_goals
      go_wp2
      go_meet
      case rel => exact ⟨_, _, rfl, HF.out⟩
  case rest =>
  obtain ⟨wm, rfl⟩ : ∃ x, x = wc := ⟨_, rfl⟩
  obtain ⟨a10, c10, rfl, ho10, hb10⟩ := hcut
  have K10 : Hid (OwQ wm W6.heap.size a10 l (qcF L) ∧ Below W6.heap.size W6 wm) := ⟨ho10, hb10⟩
  clear ho10 hb10 x9 x0 q0 q1 q2 q3 kd
  have HEq : Hid (∀ (W : World) (a' : Option Addr) (c' : Nat), RdQ W a' L → RdQ W a8 L → Calls Tryz.prog 12 #[.slice a' l c', .slice a8 l c8] W fun e w' => e = .returned (.bool true) ∧ Below W.heap.size W w') := fun W a' c' h1 h2 => eqQuadS_yes a' a8 l c' c8 L W h1 h2 HL.out (by omega)
  go_wp2_with fail
  (with_reducible refine (HEq.out _ _ _ (K10.out.1.rdl HL.out) (K6.out.q8W (K6.out.all K10.out.2))).mono ?_)
  rintro e w9 ⟨rfl, b9⟩
  have K9 : Hid (OwQ w9 W6.heap.size a10 l (qcF L) ∧ Below W6.heap.size W6 w9) := ⟨K10.out.1.below b9, K10.out.2.trans (b9.mono K10.out.2.size)⟩
  clear b9 K10
  obtain ⟨x9, x0, q0, q1, q2, q3⟩ := K6.out.cells K9.out.2
  go_wp2
  have kd : Hid (Below W6.heap.size W6 w9.drew) := K9.out.2.drew
  go_cut [41] from 37 to 41 (fun s41 wx => s41 = .bool false ∧ OwQ wx W6.heap.size a10 l (qcF L) ∧ Below W6.heap.size W6 wx)
  case first =>
    go_region_with (first
      | (go_at_call 9; (with_reducible refine (HTi2.out _ (K6.out.kpW (K6.out.all kd.out))).mono ?_); rintro e wa ⟨ga, Ra, rfl, ha, oa, ba⟩; have KA : Hid (Below W6.heap.size W6 wa ∧ OwQ wa W6.heap.size a10 l (qcF L)) := ⟨kd.out.trans (ba.mono kd.out.size), K9.out.1.below (below_undrew ba)⟩; have RA : Hid (RdIx wa (some ⟨ga, 0, none⟩) n M T) := oa.rd; clear ha oa ba x9 x0 q0 q1 q2 q3; obtain ⟨x9, x0, q0, q1, q2, q3⟩ := K6.out.cells KA.out.1)
      | (go_at_call 13; (with_reducible refine (eqIndex_yes (some ⟨g5, 0, none⟩) (some ⟨ga, 0, none⟩) n n n M T _ (K6.out.rdi KA.out.1) RA.out hn1 HFt.out.1).mono ?_); rintro e wb ⟨rfl, bb⟩; have HF : Hid (OwQ wb W6.heap.size a10 l (qcF L) ∧ Below W6.heap.size W6 wb) := ⟨KA.out.2.below bb, KA.out.1.trans (bb.mono KA.out.1.size)⟩; clear bb x9 x0 q0 q1 q2 q3))
    all_goals
      go_wp2
      go_meet
      case rel => exact ⟨rfl, HF.out⟩
  case rest =>
  obtain ⟨wm2, rfl⟩ : ∃ x, x = wc := ⟨_, rfl⟩
  obtain ⟨rfl, ho11, hb11⟩ := hcut
  have K11 : Hid (OwQ wm2 W6.heap.size a10 l (qcF L) ∧ Below W6.heap.size W6 wm2) := ⟨ho11, hb11⟩
  clear ho11 hb11 x9 x0 q0 q1 q2 q3 kd K9
  obtain ⟨x9, x0, q0, q1, q2, q3⟩ := K6.out.cells K11.out.2
  go_wp2_with fail
  (with_reducible refine (markIndex_any (g5 + 1) g5 n n M T R5 _ (K6.out.ownW K11.out.2) HFt.out.2).mono ?_)
  rintro e w13 ⟨pk, rfl, hw13⟩
  have K13 : Hid (OwQ w13 W6.heap.size a10 l (qcF L) ∧ Below wk.heap.size wk w13 ∧ W6.heap.size ≤ w13.heap.size) := K6.out.marked K11.out.2 K11.out.1 hw13
  have hpk : ¬ (pk : Int) < 0 := by omega
  have hpk' : decide ((pk : Int) < 0) = false := decide_eq_false hpk
  clear hw13 x9 x0 q0 q1 q2 q3 K11
  go_wp2_with fail
  (with_reducible refine (HEq.out _ _ _ (K13.out.1.rdl HL.out) (K6.out.q8W K13.out.2.1)).mono ?_)
  rintro e w14 ⟨rfl, b14⟩
  have K14 : Hid (OwQ w14 W6.heap.size a10 l (qcF L) ∧ Below wk.heap.size wk w14 ∧ W6.heap.size ≤ w14.heap.size) := by
    have := K13.out.2.1.size
    exact ⟨K13.out.1.below b14, K13.out.2.1.trans (b14.mono this), Nat.le_trans K13.out.2.2 b14.size⟩
  clear b14 K13
  obtain ⟨z, hz⟩ : ∃ z, z = 1 + 4 * l := ⟨_, rfl⟩
  have HMk : Hid (Calls Tryz.prog 15 #[.slice a10 l c10, .int .i64 1] w14 fun e w' => e = .returned (.int .i64 (z : Int)) ∧ OwQ w' W6.heap.size a10 l (fun i => ((1 + i : Nat) : Int)) ∧ Below W6.heap.size w14 w') := by
    rw [hz]
    exact markQuadS_any W6.heap.size a10 l c10 (qcF L) w14 K14.out.1 (by omega)
  have HHd : Hid (∀ W : World, OwQ W W6.heap.size a10 l (fun i => ((1 + i : Nat) : Int)) → Calls Tryz.prog 16 #[.slice a10 l c10, .int .i64 1] W fun e w' => e = .returned (.int .i64 (z : Int)) ∧ w' = W) := fun W h => by
    rw [hz]
    exact heldQuadS_any W6.heap.size a10 l c10 W h (by omega)
  have hz0 : ¬ (z : Int) < 0 := by omega
  have hz0' : decide ((z : Int) < 0) = false := decide_eq_false hz0
  have hz1 : ((z : Int) != (z : Int)) = false := by simp
  clear hz
  go_wp2_with fail
  (with_reducible refine HMk.out.mono ?_)
  rintro e w17 ⟨rfl, o17, b17⟩
  have K17 : Hid (OwQ w17 W6.heap.size a10 l (fun i => ((1 + i : Nat) : Int)) ∧ Below wk.heap.size wk w17) := ⟨o17, K14.out.2.1.trans (b17.mono K6.out.bel.size)⟩
  clear o17 b17 HMk K14
  go_wp2_with fail
  (with_reducible refine (HHd.out _ K17.out.1).mono ?_)
  rintro e w18 ⟨rfl, e18⟩
  subst e18
  obtain ⟨x0, q0, q1, q2, q3⟩ := (K6.out.kpW K17.out.2).cells
  have kd : Hid (Below wk.heap.size wk w18.drew) := K17.out.2.drew
  clear HHd
  go_wp2
  go_cut [14] from 64 to 69 (fun s14 wx => ∃ a14 c14, s14 = .slice a14 l c14 ∧ RdQ wx a14 L ∧ Below wk.heap.size wk wx)
  case first =>
    go_region_with (first
      | (go_at_call 9; (with_reducible refine (HTi2.out _ (K6.out.kpW kd.out)).mono ?_); rintro e w2 ⟨g2, R2, rfl, h2, r2, b2⟩; have kd : Hid (Below wk.heap.size wk w2) := kd.out.trans (b2.mono kd.out.size); have r2 : Hid (RdIx w2 (some ⟨g2, 0, none⟩) n M T) := r2.rd; clear b2 x0 q0 q1 q2 q3; obtain ⟨x0, q0, q1, q2, q3⟩ := (K6.out.kpW kd.out).cells)
      | (go_at_call 10; (with_reducible refine (HTq.out _).mono ?_); rintro e w3 ⟨rfl, b3⟩; have kd : Hid (Below wk.heap.size wk w3) := kd.out.trans (b3.mono kd.out.size); (try have r2 : Hid (RdIx w3 (some ⟨g2, 0, none⟩) n M T) := r2.out.below b3); clear b3 x0 q0 q1 q2 q3; obtain ⟨x0, q0, q1, q2, q3⟩ := (K6.out.kpW kd.out).cells)
      | (go_at_call 11; (with_reducible refine (HIm2.out _ _ r2.out).mono ?_); rintro e w4 ⟨a4, c4, rfl, o4, b4⟩; have HF : Hid (RdQ w4 a4 L ∧ Below wk.heap.size wk w4) := ⟨o4.rdl HL.out, kd.out.trans (b4.mono kd.out.size)⟩; clear b4 o4 x0 q0 q1 q2 q3))
    all_goals
      go_wp2
      go_meet
      case rel => exact ⟨_, _, rfl, HF.out⟩
  case rest =>
  obtain ⟨wn, rfl⟩ : ∃ x, x = wc := ⟨_, rfl⟩
  obtain ⟨a14, c14, rfl, hq14, hb14⟩ := hcut
  have K20 : Hid (RdQ wn a14 L ∧ Below wk.heap.size wk wn) := ⟨hq14, hb14⟩
  clear hq14 hb14 x0 q0 q1 q2 q3 kd K17
  go_wp2_with fail
  (with_reducible refine (HEq.out _ _ _ K20.out.1 (K6.out.q8W K20.out.2)).mono ?_)
  rintro e w25 ⟨rfl, b25⟩
  have HZ : Hid (Below w.heap.size w w25) := ((K6.out.kpW K20.out.2).next b25).below
  clear b25
  go_wp2
  go_ret
  exact ⟨rfl, HZ.out⟩
end Go.Proofs.YtcnollkkigiobaaGreat

namespace Go.Proofs.YtcnollkkigiobaaGreat
open Go.RowKit Go.Deep

theorem sqLawV (vi vq : Value) (perm : Int) (w : World) (h1 : IsIndex w vi) (h2 : IsQuad vq) (_ : (Lit.int .i64 perm).wf = true) : Calls Tryz.prog 3 #[vi, vq, .int .i64 perm] w fun e w' => e = .returned (.bool true) ∧ Below w.heap.size w w' := by
  obtain ⟨a, n, c, M, T, rfl, ha, hX, hn⟩ := h1
  obtain ⟨s, p, o, g, rfl⟩ := h2
  exact sqLaw a n c M T ⟨s, p, o, g⟩ perm w ha hX hn
end Go.Proofs.YtcnollkkigiobaaGreat
