import Derived.Test.YtcnollkkigiobaaGreatXcF
import Derived.Test.YtcnollkkigiobaaGreatMc3
import Derived.Test.YtcnollkkigiobaaGreatMc1
import Derived.Test.YtcnollkkigiobaaGreatXiR
import Derived.Test.YtcnollkkigiobaaGreatVtLaw
namespace Go.Proofs.YtcnollkkigiobaaGreat
open Go.RowKit Go.Deep
set_option linter.unusedVariables false
set_option maxRecDepth 100000

/-- What hands back a new row of quads. -/
def RetSc (w : World) (L : List Qd) (e : Ending) (w' : World) : Prop :=
  ∃ a' c', e = .returned (.slice a' L.length c') ∧ w'.ownsRow w.heap.size 34 4 (.slice a' L.length c') L.length (quadL L) ∧ Below w.heap.size w w'

theorem own_down {w : World} {B B' : Nat} {e : TypeId} {size : Nat} {v : Value} {n : Nat} {xs : List Value} (h : w.ownsRow B e size v n xs) (hB : B' ≤ B) : w.ownsRow B' e size v n xs := ⟨h.1, h.2.imp id (fun ⟨g, cap, cur, q1, q2, q3⟩ => ⟨g, cap, cur, q1, Nat.le_trans hB q2, q3⟩)⟩
theorem rdq_ex1 {b : Nat} {w w' : World} {a : Option Addr} {L : List Qd} (h : RdQ w a L) (he : Ex1 b w w') (hne : ∀ o, w.cell? ⟨b, o, none⟩ = none) : RdQ w' a L := by
  rcases h with q | ⟨g, rfl, hc⟩
  · exact .inl q
  · refine .inr ⟨g, rfl, fun i hi => ?_⟩
    obtain ⟨h0, h1, h2, h3⟩ := hc i hi
    have hl := World.block_lt_of_cell? _ _ h0
    have hg : g ≠ b := by
      rintro rfl
      rw [hne] at h0
      cases h0
    have e := fun o => World.cell?_of_block (a := ⟨g, o, none⟩) (he.2.2.2.2 g hl hg)
    exact ⟨by rw [e]; exact h0, by rw [e]; exact h1, by rw [e]; exact h2, by rw [e]; exact h3⟩
theorem take_more' {L : List Qd} {k : Nat} (h : k < L.length) : L.take (k + 1) = L.take k ++ [L[k]] := by
  rw [List.take_add_one, List.getElem?_eq_getElem h]
  rfl
/-- The memory of ScanQuads before its loop. -/
structure ScS (w W : World) (a : Option Addr) (n c : Nat) (p : Qd) : Prop where
  ib : Bx W w.heap.size 32 #[.slice a n c]
  pb : Bx W (w.heap.size + 1) 34 #[.int .i64 p.s, .int .i64 p.p, .int .i64 p.o, .int .i64 p.g]
  ob : W.ownsRow (w.heap.size + 2) 34 4 (.slice (some ⟨w.heap.size + 2, 0, none⟩) 0 0) 0 []
  lt : w.heap.size + 2 < W.heap.size
  eb : ∀ o, W.cell? ⟨w.heap.size + 2, o, none⟩ = none
  bel : Below w.heap.size w W
theorem ScS.keep {w W W' : World} {a : Option Addr} {n c : Nat} {p : Qd} (h : ScS w W a n c p) (hb : Below W.heap.size W W') : ScS w W' a n c p :=
  ⟨(hb.block _ h.ib.lt).trans h.ib, (hb.block _ h.pb.lt).trans h.pb, own_below h.ob hb, Nat.lt_of_lt_of_le h.lt hb.size, fun o => by rw [hb.cell (show w.heap.size + 2 < W.heap.size from h.lt)]; exact h.eb o, h.bel.trans (hb.mono h.bel.size)⟩
theorem scs_new (w : World) (a : Option Addr) (n c : Nat) (p : Qd) : ScS w (((w.alloc (.cells #[.slice a n c] 32)).alloc (.cells #[.int .i64 p.s, .int .i64 p.p, .int .i64 p.o, .int .i64 p.g] 34)).alloc (.cells #[] 34)) a n c p := by
  have b1 := Bx.new w #[.slice a n c] 32
  have b2 := Bx.new (w.alloc (.cells #[.slice a n c] 32)) #[.int .i64 p.s, .int .i64 p.p, .int .i64 p.o, .int .i64 p.g] 34
  have q := own_empty ((w.alloc (.cells #[.slice a n c] 32)).alloc (.cells #[.int .i64 p.s, .int .i64 p.p, .int .i64 p.o, .int .i64 p.g] 34)) 34 (w.heap.size + 2) 4 (by simp)
  have b3 := Bx.new ((w.alloc (.cells #[.slice a n c] 32)).alloc (.cells #[.int .i64 p.s, .int .i64 p.p, .int .i64 p.o, .int .i64 p.g] 34)) #[] 34
  simp only [World.size_alloc] at b2 b3 q
  exact ⟨(b1.alloc _).alloc _, b2.alloc _, q, by simp, fun o => by rw [Bx.cell b3 o]; rfl, ((below_alloc _ _).alloc (by simp) _).alloc (by simp; omega) _⟩

set_option maxHeartbeats 8000000 in
theorem specSQ (a : Option Addr) (n c : Nat) (M : Nat → Nat) (T : Nat → Nat → Tn) (p : Qd) (perm : Int) (B : Bool) (L : List Qd) (w : World) (h : RdIx w a n M T) (hn : n ≤ 1048576) (hN : IxFit n M T)
    (hE : ∀ w, Calls Tryz.prog 29 #[.int .i64 perm, qv p] w fun e w' => e = .returned (.bool B) ∧ Below w.heap.size w w')
    (hL : (¬ (VI n M T ∧ B = true) ∧ L = []) ∨ (VI n M T ∧ B = true ∧ ∃ j : Nat, j < 6 ∧ perm = (j : Int) ∧ ∃ t, VTt (M j) (T j) t ∧ L = ((keysR 21 t).map (quadOf j)).filter (fun q => fitB q p))) :
    Calls Tryz.prog 8 #[.agg #[.slice a n c], qv p, .int .i64 perm] w (RetSc w L) := by
  have HV : Hid (∀ W : World, Below w.heap.size w W → Calls Tryz.prog 25 #[.agg #[.slice a n c]] W (AnsN W (VI n M T))) := fun W hb => specVI a n c M T W (h.below hb) hn hN
  unfold qv at hE
  have HE : Hid (∀ w, Calls Tryz.prog 29 #[.int .i64 perm, .agg #[.int .i64 p.s, .int .i64 p.p, .int .i64 p.o, .int .i64 p.g]] w fun e w' => e = .returned (.bool B) ∧ Below w.heap.size w w') := hE
  have HR : Hid (RdIx w a n M T ∧ IxFit n M T) := ⟨h, hN⟩
  have HL := hL
  have HLL : Hid ((¬ (VI n M T ∧ B = true) ∧ L = []) ∨ (VI n M T ∧ B = true ∧ ∃ j : Nat, j < 6 ∧ perm = (j : Int) ∧ ∃ t, VTt (M j) (T j) t ∧ L = ((keysR 21 t).map (quadOf j)).filter (fun q => fitB q p))) := hL
  clear h hN hE hL HL
  unfold qv
  go_enter Tryz.func8, Tryz.ntmps8
  have S0 : Hid (ScS w (((w.alloc (.cells #[.slice a n c] 32)).alloc (.cells #[.int .i64 p.s, .int .i64 p.p, .int .i64 p.o, .int .i64 p.g] 34)).alloc (.cells #[] 34)) a n c p) := scs_new w a n c p
  obtain ⟨i0, hi0, hz0, hz1, hz2⟩ := info_parts Tryz.info34
  have HI : Hid (Tryz.prog.info? 34 = some i0 ∧ i0.zero = some (.agg #[.int .i64 0, .int .i64 0, .int .i64 0, .int .i64 0]) ∧ i0.size = 4 ∧ i0.bytes = 32) := ⟨hi0, hz0, hz1, hz2⟩
  clear hi0 hz0 hz1 hz2
  go_wp2_with fail
  (with_reducible refine (HV.out _ S0.out.bel).mono ?_)
  rintro e w1 ⟨bv, rfl, hbv, hb1⟩
  have HBv : Hid (bv = true ↔ VI n M T) := hbv
  have S1 : Hid (ScS w w1 a n c p) := S0.out.keep hb1
  clear hbv hb1 S0 HV
  cases bv with
  | false =>
    have HF : Hid (L = []) := by
      rcases HLL.out with ⟨_, q⟩ | ⟨q, _⟩
      · exact q
      · have := HBv.out.2 q
        cases this
    go_wp2
    go_ret
    refine ⟨some ⟨w.heap.size + 2, 0, none⟩, 0, ?_, ?_, S1.out.bel⟩
    · rw [HF.out]; rfl
    · rw [HF.out]
      exact own_down S1.out.ob (by omega)
  | true =>
  have c0 := S1.out.pb.cell 0
  have c1 := S1.out.pb.cell 1
  have c2 := S1.out.pb.cell 2
  have c3 := S1.out.pb.cell 3
  simp at c0 c1 c2 c3
  go_wp2_with fail
  (with_reducible refine (HE.out _).mono ?_)
  rintro e w2 ⟨rfl, hb2⟩
  have S2 : Hid (ScS w w2 a n c p) := S1.out.keep hb2
  clear hb2 S1 HE c0 c1 c2 c3
  cases B with
  | false =>
    have HF : Hid (L = []) := by
      rcases HLL.out with ⟨_, q⟩ | ⟨_, q, _⟩
      · exact q
      · cases q
    go_wp2
    go_ret
    refine ⟨some ⟨w.heap.size + 2, 0, none⟩, 0, ?_, ?_, S2.out.bel⟩
    · rw [HF.out]; rfl
    · rw [HF.out]
      exact own_down S2.out.ob (by omega)
  | true =>
  obtain ⟨hvi, j, hj, ep, t, hvt, eL⟩ : VI n M T ∧ ∃ j : Nat, j < 6 ∧ perm = (j : Int) ∧ ∃ t, VTt (M j) (T j) t ∧ L = ((keysR 21 t).map (quadOf j)).filter (fun q => fitB q p) := by
    rcases HLL.out with ⟨q, _⟩ | ⟨q1, _, q2⟩
    · exact absurd ⟨HBv.out.1 trivial, rfl⟩ q
    · exact ⟨q1, q2⟩
  subst ep
  have e6 : n = 6 := hvi.1
  subst e6
  obtain ⟨LL, hLL⟩ : ∃ LL, LL = (keysR 21 t).map (quadOf j) := ⟨_, rfl⟩
  have HLq : Hid (L = LL.filter (fun q => fitB q p)) := by rw [hLL]; exact eL
  have b0 := S2.out.ib.cell 0
  simp at b0
  rcases HR.out.1.below S2.out.bel with q | ⟨bb, oo, ea, hc⟩
  · omega
  obtain ⟨aj, cj, s0, hrd⟩ := hc j hj
  have hfit := HR.out.2 j hj
  obtain ⟨m, hm⟩ : ∃ m, m = M j := ⟨_, rfl⟩
  obtain ⟨ll, hll⟩ : ∃ ll, ll = LL.length := ⟨_, rfl⟩
  have hl3 : ll ≤ 300 := by
    obtain ⟨t2, ht2, hl2, _⟩ := hvi.2.1 j hj
    have e := vtt1 ht2 hvt
    subst e
    rw [hll, hLL, List.length_map]
    exact hl2
  have HQs : Hid (Calls Tryz.prog 33 #[.agg #[.slice aj m cj], .int .i64 (j : Int)] w2 fun e w' => ∃ a' c', e = .returned (.slice a' LL.length c') ∧ RdQ w' a' LL ∧ Below w2.heap.size w2 w') := by
    obtain ⟨t2, ht2, hl2, hg2⟩ := hvi.2.1 j hj
    have e := vtt1 ht2 hvt
    subst e
    rw [hm]
    exact l5Quads_any j hj aj (M j) cj (T j) t2 w2 hrd hvt hfit.2 (fun k hk => (hg2 k hk).1) hl2 LL hLL
  rw [← hm] at s0
  have j0 : (0 : Int) ≤ (j : Int) := by omega
  have j1 : (j : Int) < 6 := by omega
  subst ea
  clear hc hrd hfit hm hvi hvt eL hLL HLL HBv
  go_wp2_with fail
  (with_reducible refine HQs.out.mono ?_)
  rintro e w3 ⟨a3, c3, rfl, hrq, hb3⟩
  have S3 : Hid (ScS w w3 (some ⟨bb, oo, none⟩) 6 c p ∧ RdQ w3 a3 LL ∧ ll = LL.length) := ⟨S2.out.keep hb3, hrq, hll⟩
  rw [← hll]
  clear hb3 hrq hll HQs b0 s0 S2 HR
  go_wp2
  go_loopw [7, 9] (fun out i wr => ∃ (k : Nat) (R : List Qd), k ≤ ll ∧ i = .int .i64 k ∧ R = (LL.take k).filter (fun q => fitB q p) ∧ wr.ownsRow (w.heap.size + 2) 34 4 out R.length (quadL R) ∧ Ex1 (w.heap.size + 2) w3 wr ∧ (∀ g, out.ownBlock = some g → g = w.heap.size + 2 ∨ w3.heap.size ≤ g)) (fun _ i _ => ll - (intOf i).toNat)
  case atStart => exact ⟨0, [], Nat.zero_le _, rfl, rfl, S3.out.1.ob, Ex1.refl _ _, fun g e => .inl (by simp [Value.ownBlock] at e; omega)⟩
  case round =>
    obtain ⟨k, R, hk, rfl, hR, hown, hex, hblk⟩ := hrel
    obtain ⟨ar, cr, er, _⟩ := own_form hown
    subst er
    have hRl : R.length ≤ k := by
      rw [hR]
      exact Nat.le_trans (List.length_filter_le _ _) (by rw [List.length_take]; omega)
    have HQ : Hid (wr.ownsRow (w.heap.size + 2) 34 4 (.slice ar R.length cr) R.length (quadL R) ∧ Ex1 (w.heap.size + 2) w3 wr ∧ R = (LL.take k).filter (fun q => fitB q p) ∧ (∀ g, (Value.slice ar R.length cr).ownBlock = some g → g = w.heap.size + 2 ∨ w3.heap.size ≤ g)) := ⟨hown, hex, hR, hblk⟩
    clear hown hex hR hblk
    obtain ⟨rl, hrl⟩ : ∃ rl, rl = R.length := ⟨_, rfl⟩
    have HRl : Hid (rl = R.length) := hrl
    rw [← hrl] at HQ hRl ⊢
    clear hrl
    have k0 : (0 : Int) ≤ (k : Int) := by omega
    have hzr := HQ.out.2.1.2.2.2.1
    have hz3 := S3.out.1.lt
    by_cases hlt : k < ll
    · have k1 : (k : Int) < (ll : Int) := by omega
      have hkL : k < LL.length := by rw [← S3.out.2.2]; exact hlt
      rcases rdq_ex1 S3.out.2.1 HQ.out.2.1 S3.out.1.eb with h0 | ⟨b, ea, hc⟩
      · omega
      obtain ⟨s0, s1, s2, s3⟩ := hc k hkL
      obtain ⟨x, hx⟩ : ∃ x, x = LL[k] := ⟨_, rfl⟩
      have HXk : Hid (LL[k] = x) := hx.symm
      rw [← hx] at s0 s1 s2 s3
      have pbr : Bx wr (w.heap.size + 1) 34 #[.int .i64 p.s, .int .i64 p.p, .int .i64 p.o, .int .i64 p.g] := (HQ.out.2.1.2.2.2.2 _ S3.out.1.pb.lt (by omega)).trans S3.out.1.pb
      have y0 := pbr.cell 0
      have y1 := pbr.cell 1
      have y2 := pbr.cell 2
      have y3 := pbr.cell 3
      simp at y0 y1 y2 y3
      have HFt : Hid (∀ W : World, Calls Tryz.prog 34 #[.agg #[.int .i64 x.s, .int .i64 x.p, .int .i64 x.o, .int .i64 x.g], .agg #[.int .i64 p.s, .int .i64 p.p, .int .i64 p.o, .int .i64 p.g]] W fun e w' => e = .returned (.bool (fitB x p)) ∧ Below W.heap.size W w') := fun W => l5Fits_any x p W
      subst ea
      clear hc hx pbr
      go_wp2
      go_region_with (go_at_call 34; refine (HFt.out _).mono ?_; rintro e w5 ⟨rfl, hb5⟩)
      all_goals
        have hbr : Below wr.heap.size wr w5 := below_undrew hb5
        have t0 := (hbr.cell (World.block_lt_of_cell? _ _ s0)).trans s0
        have t1 := (hbr.cell (World.block_lt_of_cell? _ _ s1)).trans s1
        have t2 := (hbr.cell (World.block_lt_of_cell? _ _ s2)).trans s2
        have t3 := (hbr.cell (World.block_lt_of_cell? _ _ s3)).trans s3
        have hz5 := hbr.size
        have H5 : Hid (w5.ownsRow (w.heap.size + 2) 34 4 (.slice ar rl cr) rl (quadL R) ∧ Ex1 (w.heap.size + 2) w3 w5) := ⟨own_below HQ.out.1 hbr, HQ.out.2.1.below hbr⟩
        clear hb5 hbr s0 s1 s2 s3 y0 y1 y2 y3
        cases hf : fitB x p with
        | false =>
          have HN : Hid (R = (LL.take (k + 1)).filter (fun q => fitB q p)) := by
            show R = _
            rw [take_more' hkL, List.filter_append, ← HQ.out.2.2.1, HXk.out, List.filter_cons, hf]
            simp
          go_wp2
          go_roundw
          case rel => exact ⟨k + 1, R, by omega, by go_num, HN.out, by rw [← HRl.out]; exact H5.out.1, H5.out.2, HQ.out.2.2.2⟩
          case measure => simp [intOf]; omega
        | true =>
          have HN : Hid (R ++ [x] = (LL.take (k + 1)).filter (fun q => fitB q p)) := by
            show R ++ [x] = _
            rw [take_more' hkL, List.filter_append, ← HQ.out.2.2.1, HXk.out, List.filter_cons, hf]
            simp
          have HO6 : Hid ((w5.alloc (.cells #[.int .i64 x.s, .int .i64 x.p, .int .i64 x.o, .int .i64 x.g] 34)).ownsRow (w.heap.size + 2) 34 4 (.slice ar rl cr) rl (quadL R) ∧ Ex1 (w.heap.size + 2) w3 (w5.alloc (.cells #[.int .i64 x.s, .int .i64 x.p, .int .i64 x.o, .int .i64 x.g] 34)) ∧ (∀ j u, (quadL [x])[j]? = some u → (w5.alloc (.cells #[.int .i64 x.s, .int .i64 x.p, .int .i64 x.o, .int .i64 x.g] 34)).cell? ⟨w5.heap.size, j, none⟩ = some u)) := by
            refine ⟨own_below H5.out.1 (below_alloc _ _), H5.out.2.below (below_alloc _ _), fun j u hj => ?_⟩
            rw [(Bx.new w5 #[.int .i64 x.s, .int .i64 x.p, .int .i64 x.o, .int .i64 x.g] 34).cell j]
            simpa [quadL] using hj
          go_wp2_with (at_builtin; refine wpList_append_own_at _ rfl _ _ 28 rfl (w.heap.size + 2) 34 i0 _ 4 32 Tryz.underlying28 HI.out.1 HI.out.2.1 HI.out.2.2.1 HI.out.2.2.2 rfl (by decide) (.slice ar rl cr) rl (quadL R) rfl HO6.out.1 ⟨w5.heap.size, 0, none⟩ 1 1 (quadL [x]) rfl rfl (fun j u hj => by rw [Addr.add_lit, Nat.zero_add]; exact HO6.out.2.2 j u hj) (by intro u hu; simp [quadL] at hu; rcases hu with rfl | rfl | rfl | rfl <;> rfl) (by unfold maxLen; omega) (by omega) (by simp; omega) ?_)
          intro v7 w7 ho7 hg7 _ hat7
          have H7 : Hid (w7.ownsRow (w.heap.size + 2) 34 4 v7 (R ++ [x]).length (quadL (R ++ [x])) ∧ Ex1 (w.heap.size + 2) w3 w7 ∧ (∀ g, v7.ownBlock = some g → g = w.heap.size + 2 ∨ w3.heap.size ≤ g)) := by
            refine ⟨by rw [quadL_app, List.length_append, ← HRl.out]; exact ho7, HO6.out.2.1.grown hg7 HQ.out.2.2.2, fun g e => ?_⟩
            rcases hat7 with q | q
            · exact HQ.out.2.2.2 g (by rw [← q]; exact e)
            · rw [q] at e
              injection e with e
              exact .inr (by omega)
          obtain ⟨a7, c7, e7, _⟩ := own_form ho7
          subst e7
          clear ho7 hg7 hat7 HO6
          go_wp2
          go_roundw
          case rel => exact ⟨k + 1, R ++ [x], by omega, by go_num, HN.out, H7.out⟩
          case measure => simp [intOf]; omega
    · obtain rfl : k = ll := by omega
      have k1 : ¬ (k : Int) < (k : Int) := by omega
      have HF : Hid (rl = L.length ∧ wr.ownsRow w.heap.size 34 4 (.slice ar L.length cr) L.length (quadL L) ∧ Below w.heap.size w wr) := by
        have e : R = L := by rw [HQ.out.2.2.1, HLq.out, S3.out.2.2, List.take_length]
        have ho := HQ.out.1
        rw [HRl.out, e] at ho
        exact ⟨by rw [← e]; exact HRl.out, own_down ho (by omega), S3.out.1.bel.trans (HQ.out.2.1.bel S3.out.1.bel.size (by omega))⟩
      go_wp2
      go_ret
      exact ⟨ar, cr, by rw [← HF.out.1]; rfl, HF.out.2⟩

set_option maxHeartbeats 1000000 in
theorem specCQ (a : Option Addr) (n c : Nat) (M : Nat → Nat) (T : Nat → Nat → Tn) (p : Qd) (perm : Int) (B : Bool) (L : List Qd) (w : World) (h : RdIx w a n M T) (hn : n ≤ 1048576) (hN : IxFit n M T)
    (hE : ∀ w, Calls Tryz.prog 29 #[.int .i64 perm, qv p] w fun e w' => e = .returned (.bool B) ∧ Below w.heap.size w w')
    (hL : (¬ (VI n M T ∧ B = true) ∧ L = []) ∨ (VI n M T ∧ B = true ∧ ∃ j : Nat, j < 6 ∧ perm = (j : Int) ∧ ∃ t, VTt (M j) (T j) t ∧ L = ((keysR 21 t).map (quadOf j)).filter (fun q => fitB q p))) :
    Calls Tryz.prog 31 #[.agg #[.slice a n c], qv p, .int .i64 perm] w fun e w' => e = .returned (.int .i64 (L.length : Int)) ∧ Below w.heap.size w w' := by
  have HC : Hid (∀ W : World, Below w.heap.size w W → Calls Tryz.prog 8 #[.agg #[.slice a n c], .agg #[.int .i64 p.s, .int .i64 p.p, .int .i64 p.o, .int .i64 p.g], .int .i64 perm] W (RetSc W L)) := fun W hb => specSQ a n c M T p perm B L W (h.below hb) hn hN hE hL
  have HB : Hid (∀ O1 O2 : Obj, Below w.heap.size w ((w.alloc O1).alloc O2)) := fun _ _ => (below_alloc _ _).alloc (by simp) _
  clear h hN hE hL
  unfold qv
  go_enter Tryz.func31, Tryz.ntmps31
  go_wp2_with fail
  (with_reducible refine (HC.out _ (HB.out _ _)).mono ?_)
  rintro e w1 ⟨a1, c1, rfl, _, hb1⟩
  have H1 : Hid (Below w.heap.size w w1) := (HB.out _ _).trans (hb1.mono (by simp; omega))
  clear hb1
  go_wp2
  go_ret
  exact ⟨rfl, H1.out⟩
end Go.Proofs.YtcnollkkigiobaaGreat

namespace Go.Proofs.YtcnollkkigiobaaGreat
open Go.RowKit Go.Deep
set_option linter.unusedVariables false
set_option maxRecDepth 100000

theorem fil_span {j : Nat} (hj : j < 6) {p : Qd} {m : Nat} (hm : Lead (ptO j p) m) (hok : okTo (ptO j p) 4) {K : List ByteArray} (hK : ∀ k, k ∈ K → k.size = 16) : fil (spL (ptO j p) m) (spH (ptO j p) m) K = K.filter (fun k => fitB (quadOf j k) p) := by
  cases m with
  | zero =>
    show fil { data := #[] } { data := #[] } K = _
    rw [fil_all, List.filter_eq_self.2]
    intro k _
    exact (fit_lead hj hm hok k).2 (fun i hi => absurd hi (Nat.not_lt_zero _))
  | succ m =>
    have hq : (spH (ptO j p) (m + 1)).toList.isEmpty = false := by
      rw [ByteArray.toList_eq, spH_data]
      cases spLl (ptO j p) m <;> rfl
    unfold fil
    refine List.filter_congr (fun k hk => ?_)
    have h := span_fit hj hm hok (hK k hk)
    unfold inR
    rw [hq, Bool.false_or]
    cases hf : fitB (quadOf j k) p with
    | true =>
      obtain ⟨h1, h2⟩ := h.2 hf
      rw [h1, h2]
      rfl
    | false =>
      cases h1 : Op.bytesLess k.toList (spL (ptO j p) (m + 1)).toList with
      | true => rfl
      | false =>
        cases h2 : Op.bytesLess k.toList (spH (ptO j p) (m + 1)).toList with
        | false => rfl
        | true => exact absurd (h.1 ⟨h1, h2⟩) (by rw [hf]; decide)

set_option maxHeartbeats 8000000 in
theorem scan_any (j : Nat) (hj : j < 6) (p : Qd) (hok : okTo (ptO j p) 4) (b o : Nat) (w : World) (n : Nat) (t : Ro n) (v : Value) (hh : Nat) (hc0 : w.cell? ⟨b, o, none⟩ = some (.func (.func (layF j)) #[] #[])) (hc1 : w.cell? ⟨b, o + 1, none⟩ = some v)
    (ht : TAt (fun bb => bb < w.heap.size) w n t v) (hb : BalR n true t hh) (hasc : Asc (keysR n t)) (hlen : (keysR n t).length ≤ 300) (hK : ∀ k, k ∈ keysR n t → k.size = 16) (L : List Qd) (hL : L = ((keysR n t).map (quadOf j)).filter (fun q => fitB q p)) :
    Calls Tryz.prog 37 #[.pointer (some ⟨b, o, none⟩), qv p] w (RetSc w L) := by
  obtain ⟨m, hm⟩ := lead_ex (ptO j p)
  have hsp : ∀ W : World, Calls Tryz.prog 72 #[.func (.func (layF j)) #[] #[], .agg #[.int .i64 p.s, .int .i64 p.p, .int .i64 p.o, .int .i64 p.g]] W fun e w' => e = .returned (.tuple #[.string (spL (ptO j p) m), .string (spH (ptO j p) m)]) ∧ Below W.heap.size W w' := fun W => span_any j hj p m hm (fun i hi => (hok i hi).1) W
  have hfil := fil_span hj hm hok hK
  obtain ⟨lo, hlo⟩ : ∃ lo, lo = spL (ptO j p) m := ⟨_, rfl⟩
  obtain ⟨hi, hhi⟩ : ∃ hi, hi = spH (ptO j p) m := ⟨_, rfl⟩
  rw [← hlo, ← hhi] at hfil
  simp only [← hlo, ← hhi] at hsp
  have HSp : Hid (∀ W : World, Calls Tryz.prog 72 #[.func (.func (layF j)) #[] #[], .agg #[.int .i64 p.s, .int .i64 p.p, .int .i64 p.o, .int .i64 p.g]] W fun e w' => e = .returned (.tuple #[.string lo, .string hi]) ∧ Below W.heap.size W w') := hsp
  have hga := gather_any lo hi w.heap.size w n t v true hh ht hb hasc (by omega)
  obtain ⟨K, hKK⟩ : ∃ K, K = fil lo hi (keysR n t) := ⟨_, rfl⟩
  have HKx : Hid ((∀ k, k ∈ K → k.size = 16) ∧ L = K.map (quadOf j)) := by
    refine ⟨fun k hk => hK k ?_, ?_⟩
    · rw [hKK, hfil] at hk
      exact (List.mem_filter.1 hk).1
    · rw [hL, hKK, hfil, List.filter_map]
      rfl
  have hKl : K.length ≤ 300 := by
    rw [hKK]
    exact Nat.le_trans (List.length_filter_le _ _) hlen
  have hl0 := World.block_lt_of_cell? _ _ hc0
  have HT : Hid (∀ W : World, Below w.heap.size w W → W.cell? ⟨b, o, none⟩ = some (.func (.func (layF j)) #[] #[]) ∧ W.cell? ⟨b, o + 1, none⟩ = some v) := fun W hW => ⟨by rw [hW.cell (show b < w.heap.size from hl0)]; exact hc0, by rw [hW.cell (show b < w.heap.size from hl0)]; exact hc1⟩
  have HJ : Hid (j < 6) := hj
  obtain ⟨i0, hi0, hz0, hz1, hz2⟩ := info_parts Tryz.info34
  have HI : Hid (Tryz.prog.info? 34 = some i0 ∧ i0.zero = some (.agg #[.int .i64 0, .int .i64 0, .int .i64 0, .int .i64 0]) ∧ i0.size = 4 ∧ i0.bytes = 32) := ⟨hi0, hz0, hz1, hz2⟩
  have hkl2 : (keysR n t).length ≤ 1048576 := by omega
  clear hi0 hz0 hz1 hz2 hj hok hc0 hc1 ht hb hasc hK hL hm hsp hfil hlo hhi hl0
  rcases hga with ⟨pp, rfl, hcall⟩ | ⟨pp, rfl, hcall⟩
  · have HC : Hid (∀ W : World, Below w.heap.size w W → Calls Tryz.prog 203 #[.pointer (some pp), .slice none 0 0, .string lo, .string hi] W (RetGa w.heap.size W K)) := fun W hW => by
      have := hcall W none 0 0 [] hW hW.size (World.ownsRow_nil _ _ _ _) rfl (by omega)
      rw [List.nil_append, ← hKK] at this
      exact this
    clear hcall hkl2 hKK hlen
    unfold qv
    obtain ⟨c0, c1⟩ := HT.out _ (below_alloc w (.cells #[.int .i64 p.s, .int .i64 p.p, .int .i64 p.o, .int .i64 p.g] 34))
    have pb := Bx.new w #[.int .i64 p.s, .int .i64 p.p, .int .i64 p.o, .int .i64 p.g] 34
    have y0 := pb.cell 0
    have y1 := pb.cell 1
    have y2 := pb.cell 2
    have y3 := pb.cell 3
    simp at y0 y1 y2 y3
    go_enter Tryz.func37, Tryz.ntmps37
    go_wp2
    go_region_with (go_at_call 72; refine (HSp.out _).mono ?_; rintro e w2 ⟨rfl, hb2⟩)
    all_goals
      have H2 : Hid (Below w.heap.size w w2) := ((below_alloc w (.cells #[.int .i64 p.s, .int .i64 p.p, .int .i64 p.o, .int .i64 p.g] 34)).drew).trans (hb2.mono (by simp))
      obtain ⟨d0, d1⟩ := HT.out w2 H2.out
      clear hb2 c0 c1 y0 y1 y2 y3 pb HSp
      go_wp2_with fail
      (with_reducible refine (HC.out _ H2.out).mono ?_)
      rintro e w3 ⟨a3, c3, rfl, ho3, hb3⟩
      obtain ⟨kl, hkl⟩ : ∃ kl, kl = K.length := ⟨_, rfl⟩
      have HKL : Hid (kl = K.length) := hkl
      have S3 : Hid (RdS w3 a3 kl (gt K) ∧ Below w.heap.size w w3) := by
        obtain ⟨a6, c6, e6, q, _⟩ := ownS_strL ho3 rfl
        injection e6 with e6 _ _
        subst e6
        exact ⟨by rw [hkl]; exact q.rd, H2.out.trans hb3⟩
      rw [← hkl] at hKl ⊢
      clear hkl ho3 hb3 HC d0 d1 H2
      go_wp2
      go_loopw [5, 9, 27] (fun out _ i wr => ∃ (k : Nat) (R : List Qd), k ≤ kl ∧ i = .int .i64 k ∧ R = (K.take k).map (quadOf j) ∧ wr.ownsRow w3.heap.size 34 4 out R.length (quadL R) ∧ Below w3.heap.size w3 wr) (fun _ _ i _ => kl - (intOf i).toNat)
      case atStart => exact ⟨0, [], Nat.zero_le _, rfl, rfl, World.ownsRow_nil _ _ _ _, Below.refl _ _⟩
      case round =>
        obtain ⟨k, R, hk, rfl, hR, hown, hbel⟩ := hrel
        obtain ⟨ar, cr, er, _⟩ := own_form hown
        subst er
        have hRl : R.length = k := by rw [hR, List.length_map, List.length_take, ← HKL.out]; omega
        have HQ : Hid (wr.ownsRow w3.heap.size 34 4 (.slice ar R.length cr) R.length (quadL R) ∧ Below w3.heap.size w3 wr ∧ R = (K.take k).map (quadOf j) ∧ R.length = k) := ⟨hown, hbel, hR, hRl⟩
        clear hown hbel hR hRl
        obtain ⟨rl, hrl⟩ : ∃ rl, rl = R.length := ⟨_, rfl⟩
        have HRl : Hid (rl = R.length) := hrl
        have hrlk : rl = k := hrl.trans HQ.out.2.2.2
        have hrlk1 : rl ≤ k := by omega
        rw [← hrl] at HQ ⊢
        clear hrl hrlk
        have k0 : (0 : Int) ≤ (k : Int) := by omega
        have HBw : Hid (Below w.heap.size w wr) := S3.out.2.trans (HQ.out.2.1.mono S3.out.2.size)
        by_cases hlt : k < kl
        · have k1 : (k : Int) < (kl : Int) := by omega
          have hkK : k < K.length := by rw [← HKL.out]; exact hlt
          obtain ⟨bb, oo, ea2, s1⟩ := (S3.out.1.below HQ.out.2.1).cellOf k hlt
          obtain ⟨key, hkey⟩ : ∃ key, key = gt K k := ⟨_, rfl⟩
          rw [← hkey] at s1
          have HKy : Hid (key = K[k] ∧ key ∈ K) := by
            have e : key = K[k] := by rw [hkey, gt_in hkK]
            exact ⟨e, by rw [e]; exact List.getElem_mem hkK⟩
          obtain ⟨l0, _⟩ := HT.out wr HBw.out
          clear hkey
          subst ea2
          have HQd : Hid (Calls Tryz.prog 73 #[.func (.func (layF j)) #[] #[], .string key] wr fun e w' => e = .returned (qv (quadOf j key)) ∧ Below wr.heap.size wr w') := quad_any j HJ.out key (HKx.out.1 key HKy.out.2) wr
          go_wp2_with fail
          (with_reducible refine HQd.out.mono ?_)
          rintro e w5 ⟨rfl, hb5⟩
          obtain ⟨qd, hqd⟩ : ∃ qd, qd = quadOf j key := ⟨_, rfl⟩
          have HQq : Hid (qd = quadOf j key) := hqd
          rw [← hqd]
          clear hqd
          unfold qv
          have hz5 := hb5.size
          have hz3 := HQ.out.2.1.size
          have HO6 : Hid (w5.ownsRow w3.heap.size 34 4 (.slice ar rl cr) rl (quadL R) ∧ Below w3.heap.size w3 w5 ∧ Below w.heap.size w w5) := by
            have q2 : Below w3.heap.size w3 w5 := HQ.out.2.1.trans (hb5.mono hz3)
            exact ⟨own_below HQ.out.1 hb5, q2, S3.out.2.trans (q2.mono S3.out.2.size)⟩
          have hz3r : w3.heap.size ≤ w5.heap.size := by omega
          have HO7 : Hid ((w5.alloc (.cells #[.int .i64 qd.s, .int .i64 qd.p, .int .i64 qd.o, .int .i64 qd.g] 34)).ownsRow w3.heap.size 34 4 (.slice ar rl cr) rl (quadL R) ∧ (∀ j u, (quadL [qd])[j]? = some u → (w5.alloc (.cells #[.int .i64 qd.s, .int .i64 qd.p, .int .i64 qd.o, .int .i64 qd.g] 34)).cell? ⟨w5.heap.size, j, none⟩ = some u)) := by
            refine ⟨own_below HO6.out.1 (below_alloc _ _), fun j u hj => ?_⟩
            rw [(Bx.new w5 #[.int .i64 qd.s, .int .i64 qd.p, .int .i64 qd.o, .int .i64 qd.g] 34).cell j]
            simpa [quadL] using hj
          clear hb5 HQd l0 s1
          go_wp2_with (at_builtin; refine wpList_append_own_at _ rfl _ _ 28 rfl w3.heap.size 34 i0 _ 4 32 Tryz.underlying28 HI.out.1 HI.out.2.1 HI.out.2.2.1 HI.out.2.2.2 rfl (by decide) (.slice ar rl cr) rl (quadL R) rfl HO7.out.1 ⟨w5.heap.size, 0, none⟩ 1 1 (quadL [qd]) rfl rfl (fun j u hj => by rw [Addr.add_lit, Nat.zero_add]; exact HO7.out.2 j u hj) (by intro u hu; simp [quadL] at hu; rcases hu with rfl | rfl | rfl | rfl <;> rfl) (by unfold maxLen; omega) (by omega) (by simp; omega) ?_)
          intro v7 w7 ho7 hg7 _ hat7
          have H7 : Hid (w7.ownsRow w3.heap.size 34 4 v7 (R ++ [qd]).length (quadL (R ++ [qd])) ∧ Below w3.heap.size w3 w7) := by
            refine ⟨by rw [quadL_app, List.length_append, ← HRl.out]; exact ho7, ?_⟩
            exact (HO6.out.2.1.trans ((below_alloc _ _).mono hz3r)).grown hg7 (by simp; omega) (fun g e => (own_lt HQ.out.1 g e).1)
          have HN : Hid (R ++ [qd] = (K.take (k + 1)).map (quadOf j)) := by
            show R ++ [qd] = _
            rw [List.take_add_one, List.getElem?_eq_getElem hkK, List.map_append, ← HQ.out.2.2.1, HQq.out, HKy.out.1]
            rfl
          obtain ⟨a7, c7, e7, _⟩ := own_form ho7
          subst e7
          clear ho7 hg7 hat7 HO7
          go_wp2
          go_roundw
          case rel => exact ⟨k + 1, R ++ [qd], by omega, by go_num, HN.out, H7.out⟩
          case measure => simp [intOf]; omega
        · obtain rfl : k = kl := by omega
          have k1 : ¬ (k : Int) < (k : Int) := by omega
          have HF : Hid (rl = L.length ∧ wr.ownsRow w.heap.size 34 4 (.slice ar L.length cr) L.length (quadL L) ∧ Below w.heap.size w wr) := by
            have e : R = L := by rw [HQ.out.2.2.1, HKx.out.2, HKL.out, List.take_length]
            have ho := HQ.out.1
            rw [HRl.out, e] at ho
            exact ⟨by rw [← e]; exact HRl.out, own_down ho S3.out.2.size, HBw.out⟩
          go_wp2
          go_ret
          exact ⟨ar, cr, by rw [← HF.out.1]; rfl, HF.out.2⟩
  · have HC : Hid (∀ W : World, Below w.heap.size w W → Calls Tryz.prog 186 #[.pointer (some pp), .slice none 0 0, .string lo, .string hi] W (RetGa w.heap.size W K)) := fun W hW => by
      have := hcall W none 0 0 [] hW hW.size (World.ownsRow_nil _ _ _ _) rfl (by simp; omega)
      rw [List.nil_append, ← hKK] at this
      exact this
    clear hcall hkl2 hKK hlen
    unfold qv
    obtain ⟨c0, c1⟩ := HT.out _ (below_alloc w (.cells #[.int .i64 p.s, .int .i64 p.p, .int .i64 p.o, .int .i64 p.g] 34))
    have pb := Bx.new w #[.int .i64 p.s, .int .i64 p.p, .int .i64 p.o, .int .i64 p.g] 34
    have y0 := pb.cell 0
    have y1 := pb.cell 1
    have y2 := pb.cell 2
    have y3 := pb.cell 3
    simp at y0 y1 y2 y3
    go_enter Tryz.func37, Tryz.ntmps37
    go_wp2
    go_region_with (go_at_call 72; refine (HSp.out _).mono ?_; rintro e w2 ⟨rfl, hb2⟩)
    all_goals
      have H2 : Hid (Below w.heap.size w w2) := ((below_alloc w (.cells #[.int .i64 p.s, .int .i64 p.p, .int .i64 p.o, .int .i64 p.g] 34)).drew).trans (hb2.mono (by simp))
      obtain ⟨d0, d1⟩ := HT.out w2 H2.out
      clear hb2 c0 c1 y0 y1 y2 y3 pb HSp
      go_wp2_with fail
      (with_reducible refine (HC.out _ H2.out).mono ?_)
      rintro e w3 ⟨a3, c3, rfl, ho3, hb3⟩
      obtain ⟨kl, hkl⟩ : ∃ kl, kl = K.length := ⟨_, rfl⟩
      have HKL : Hid (kl = K.length) := hkl
      have S3 : Hid (RdS w3 a3 kl (gt K) ∧ Below w.heap.size w w3) := by
        obtain ⟨a6, c6, e6, q, _⟩ := ownS_strL ho3 rfl
        injection e6 with e6 _ _
        subst e6
        exact ⟨by rw [hkl]; exact q.rd, H2.out.trans hb3⟩
      rw [← hkl] at hKl ⊢
      clear hkl ho3 hb3 HC d0 d1 H2
      go_wp2
      go_loopw [5, 9, 27] (fun out _ i wr => ∃ (k : Nat) (R : List Qd), k ≤ kl ∧ i = .int .i64 k ∧ R = (K.take k).map (quadOf j) ∧ wr.ownsRow w3.heap.size 34 4 out R.length (quadL R) ∧ Below w3.heap.size w3 wr) (fun _ _ i _ => kl - (intOf i).toNat)
      case atStart => exact ⟨0, [], Nat.zero_le _, rfl, rfl, World.ownsRow_nil _ _ _ _, Below.refl _ _⟩
      case round =>
        obtain ⟨k, R, hk, rfl, hR, hown, hbel⟩ := hrel
        obtain ⟨ar, cr, er, _⟩ := own_form hown
        subst er
        have hRl : R.length = k := by rw [hR, List.length_map, List.length_take, ← HKL.out]; omega
        have HQ : Hid (wr.ownsRow w3.heap.size 34 4 (.slice ar R.length cr) R.length (quadL R) ∧ Below w3.heap.size w3 wr ∧ R = (K.take k).map (quadOf j) ∧ R.length = k) := ⟨hown, hbel, hR, hRl⟩
        clear hown hbel hR hRl
        obtain ⟨rl, hrl⟩ : ∃ rl, rl = R.length := ⟨_, rfl⟩
        have HRl : Hid (rl = R.length) := hrl
        have hrlk : rl = k := hrl.trans HQ.out.2.2.2
        have hrlk1 : rl ≤ k := by omega
        rw [← hrl] at HQ ⊢
        clear hrl hrlk
        have k0 : (0 : Int) ≤ (k : Int) := by omega
        have HBw : Hid (Below w.heap.size w wr) := S3.out.2.trans (HQ.out.2.1.mono S3.out.2.size)
        by_cases hlt : k < kl
        · have k1 : (k : Int) < (kl : Int) := by omega
          have hkK : k < K.length := by rw [← HKL.out]; exact hlt
          obtain ⟨bb, oo, ea2, s1⟩ := (S3.out.1.below HQ.out.2.1).cellOf k hlt
          obtain ⟨key, hkey⟩ : ∃ key, key = gt K k := ⟨_, rfl⟩
          rw [← hkey] at s1
          have HKy : Hid (key = K[k] ∧ key ∈ K) := by
            have e : key = K[k] := by rw [hkey, gt_in hkK]
            exact ⟨e, by rw [e]; exact List.getElem_mem hkK⟩
          obtain ⟨l0, _⟩ := HT.out wr HBw.out
          clear hkey
          subst ea2
          have HQd : Hid (Calls Tryz.prog 73 #[.func (.func (layF j)) #[] #[], .string key] wr fun e w' => e = .returned (qv (quadOf j key)) ∧ Below wr.heap.size wr w') := quad_any j HJ.out key (HKx.out.1 key HKy.out.2) wr
          go_wp2_with fail
          (with_reducible refine HQd.out.mono ?_)
          rintro e w5 ⟨rfl, hb5⟩
          obtain ⟨qd, hqd⟩ : ∃ qd, qd = quadOf j key := ⟨_, rfl⟩
          have HQq : Hid (qd = quadOf j key) := hqd
          rw [← hqd]
          clear hqd
          unfold qv
          have hz5 := hb5.size
          have hz3 := HQ.out.2.1.size
          have HO6 : Hid (w5.ownsRow w3.heap.size 34 4 (.slice ar rl cr) rl (quadL R) ∧ Below w3.heap.size w3 w5 ∧ Below w.heap.size w w5) := by
            have q2 : Below w3.heap.size w3 w5 := HQ.out.2.1.trans (hb5.mono hz3)
            exact ⟨own_below HQ.out.1 hb5, q2, S3.out.2.trans (q2.mono S3.out.2.size)⟩
          have hz3r : w3.heap.size ≤ w5.heap.size := by omega
          have HO7 : Hid ((w5.alloc (.cells #[.int .i64 qd.s, .int .i64 qd.p, .int .i64 qd.o, .int .i64 qd.g] 34)).ownsRow w3.heap.size 34 4 (.slice ar rl cr) rl (quadL R) ∧ (∀ j u, (quadL [qd])[j]? = some u → (w5.alloc (.cells #[.int .i64 qd.s, .int .i64 qd.p, .int .i64 qd.o, .int .i64 qd.g] 34)).cell? ⟨w5.heap.size, j, none⟩ = some u)) := by
            refine ⟨own_below HO6.out.1 (below_alloc _ _), fun j u hj => ?_⟩
            rw [(Bx.new w5 #[.int .i64 qd.s, .int .i64 qd.p, .int .i64 qd.o, .int .i64 qd.g] 34).cell j]
            simpa [quadL] using hj
          clear hb5 HQd l0 s1
          go_wp2_with (at_builtin; refine wpList_append_own_at _ rfl _ _ 28 rfl w3.heap.size 34 i0 _ 4 32 Tryz.underlying28 HI.out.1 HI.out.2.1 HI.out.2.2.1 HI.out.2.2.2 rfl (by decide) (.slice ar rl cr) rl (quadL R) rfl HO7.out.1 ⟨w5.heap.size, 0, none⟩ 1 1 (quadL [qd]) rfl rfl (fun j u hj => by rw [Addr.add_lit, Nat.zero_add]; exact HO7.out.2 j u hj) (by intro u hu; simp [quadL] at hu; rcases hu with rfl | rfl | rfl | rfl <;> rfl) (by unfold maxLen; omega) (by omega) (by simp; omega) ?_)
          intro v7 w7 ho7 hg7 _ hat7
          have H7 : Hid (w7.ownsRow w3.heap.size 34 4 v7 (R ++ [qd]).length (quadL (R ++ [qd])) ∧ Below w3.heap.size w3 w7) := by
            refine ⟨by rw [quadL_app, List.length_append, ← HRl.out]; exact ho7, ?_⟩
            exact (HO6.out.2.1.trans ((below_alloc _ _).mono hz3r)).grown hg7 (by simp; omega) (fun g e => (own_lt HQ.out.1 g e).1)
          have HN : Hid (R ++ [qd] = (K.take (k + 1)).map (quadOf j)) := by
            show R ++ [qd] = _
            rw [List.take_add_one, List.getElem?_eq_getElem hkK, List.map_append, ← HQ.out.2.2.1, HQq.out, HKy.out.1]
            rfl
          obtain ⟨a7, c7, e7, _⟩ := own_form ho7
          subst e7
          clear ho7 hg7 hat7 HO7
          go_wp2
          go_roundw
          case rel => exact ⟨k + 1, R ++ [qd], by omega, by go_num, HN.out, H7.out⟩
          case measure => simp [intOf]; omega
        · obtain rfl : k = kl := by omega
          have k1 : ¬ (k : Int) < (k : Int) := by omega
          have HF : Hid (rl = L.length ∧ wr.ownsRow w.heap.size 34 4 (.slice ar L.length cr) L.length (quadL L) ∧ Below w.heap.size w wr) := by
            have e : R = L := by rw [HQ.out.2.2.1, HKx.out.2, HKL.out, List.take_length]
            have ho := HQ.out.1
            rw [HRl.out, e] at ho
            exact ⟨by rw [← e]; exact HRl.out, own_down ho S3.out.2.size, HBw.out⟩
          go_wp2
          go_ret
          exact ⟨ar, cr, by rw [← HF.out.1]; rfl, HF.out.2⟩
end Go.Proofs.YtcnollkkigiobaaGreat

namespace Go.Proofs.YtcnollkkigiobaaGreat
open Go.RowKit Go.Deep
set_option linter.unusedVariables false
set_option maxRecDepth 100000

set_option maxHeartbeats 4000000 in
theorem implSQ (a : Option Addr) (n c : Nat) (M : Nat → Nat) (T : Nat → Nat → Tn) (p : Qd) (perm : Int) (B : Bool) (L : List Qd) (w : World) (h : RdIx w a n M T) (hn : n ≤ 1048576) (hN : IxFit n M T)
    (hE : ∀ w, Calls Tryz.prog 28 #[.int .i64 perm, qv p] w fun e w' => e = .returned (.bool B) ∧ Below w.heap.size w w')
    (hO : B = true → ∃ j : Nat, j < 6 ∧ perm = (j : Int) ∧ okTo (ptO j p) 4)
    (hL : (¬ (VI n M T ∧ B = true) ∧ L = []) ∨ (VI n M T ∧ B = true ∧ ∃ j : Nat, j < 6 ∧ perm = (j : Int) ∧ ∃ t, VTt (M j) (T j) t ∧ L = ((keysR 21 t).map (quadOf j)).filter (fun q => fitB q p))) :
    Calls Tryz.prog 11 #[.agg #[.slice a n c], qv p, .int .i64 perm] w (RetSc w L) := by
  have HC : Hid (∀ W : World, Below w.heap.size w W → Calls Tryz.prog 36 #[.agg #[.slice a n c]] W (RetIx W a n c M T)) := fun W hb => readIndex_any a n c M T W (h.below hb) hn hN
  have HB : Hid (∀ O1 O2 : Obj, Below w.heap.size w ((w.alloc O1).alloc O2)) := fun _ _ => (below_alloc _ _).alloc (by simp) _
  unfold qv at hE
  have HE : Hid (∀ w, Calls Tryz.prog 28 #[.int .i64 perm, .agg #[.int .i64 p.s, .int .i64 p.p, .int .i64 p.o, .int .i64 p.g]] w fun e w' => e = .returned (.bool B) ∧ Below w.heap.size w w') := hE
  have HO : Hid (B = true → ∃ j : Nat, j < 6 ∧ perm = (j : Int) ∧ okTo (ptO j p) 4) := hO
  have HLL : Hid ((¬ (VI n M T ∧ B = true) ∧ L = []) ∨ (VI n M T ∧ B = true ∧ ∃ j : Nat, j < 6 ∧ perm = (j : Int) ∧ ∃ t, VTt (M j) (T j) t ∧ L = ((keysR 21 t).map (quadOf j)).filter (fun q => fitB q p))) := hL
  clear h hN hE hO hL
  unfold qv
  obtain ⟨W0, hW0⟩ : ∃ W0, W0 = (w.alloc (.cells #[.slice a n c] 32)).alloc (.cells #[.int .i64 p.s, .int .i64 p.p, .int .i64 p.o, .int .i64 p.g] 34) := ⟨_, rfl⟩
  have P0 : Hid (Bx W0 (w.heap.size + 1) 34 #[.int .i64 p.s, .int .i64 p.p, .int .i64 p.o, .int .i64 p.g] ∧ Below w.heap.size w W0 ∧ W0.heap.size = w.heap.size + 2) := by
    have b2 := Bx.new (w.alloc (.cells #[.slice a n c] 32)) #[.int .i64 p.s, .int .i64 p.p, .int .i64 p.o, .int .i64 p.g] 34
    simp only [World.size_alloc] at b2
    rw [hW0]
    exact ⟨b2, HB.out _ _, by simp⟩
  go_enter Tryz.func11, Tryz.ntmps11
  go_wp2_with fail
  rw [← hW0]
  clear hW0
  (with_reducible refine (HC.out W0 P0.out.2.1).mono ?_)
  rintro e w1 hr
  rcases hr with ⟨rfl, hno, hb⟩ | ⟨rfl, hv, A, hI⟩
  · have HF : Hid (L = [] ∧ Below w.heap.size w w1) := by
      refine ⟨?_, P0.out.2.1.trans (hb.mono P0.out.2.1.size)⟩
      rcases HLL.out with ⟨_, q⟩ | ⟨q, _⟩
      · exact q
      · exact absurd q hno
    clear hno hb
    go_wp2
    go_ret
    exact ⟨none, 0, by rw [HF.out.1]; rfl, by rw [HF.out.1]; exact World.ownsRow_nil _ _ _ _, HF.out.2⟩
  have e6 : n = 6 := hv.1
  subst e6
  have H1 : Hid (VI 6 M T ∧ IS W0 w1 a c M T 6 A ∧ Below w.heap.size w w1) := ⟨hv, hI, P0.out.2.1.trans (hI.bel.mono P0.out.2.1.size)⟩
  have pb : Bx w1 (w.heap.size + 1) 34 #[.int .i64 p.s, .int .i64 p.p, .int .i64 p.o, .int .i64 p.g] := (hI.bel.block _ (by rw [P0.out.2.2]; omega)).trans P0.out.1
  have y0 := pb.cell 0
  have y1 := pb.cell 1
  have y2 := pb.cell 2
  have y3 := pb.cell 3
  simp at y0 y1 y2 y3
  have PB : Hid (Bx w1 (w.heap.size + 1) 34 #[.int .i64 p.s, .int .i64 p.p, .int .i64 p.o, .int .i64 p.g]) := pb
  clear hv hI pb HC
  go_wp2_with fail
  (with_reducible refine (HE.out _).mono ?_)
  rintro e w2 ⟨rfl, hb2⟩
  have H2 : Hid (IS W0 w2 a c M T 6 A ∧ Below w.heap.size w w2) := ⟨H1.out.2.1.keep hb2, H1.out.2.2.trans (hb2.mono H1.out.2.2.size)⟩
  have pb : Bx w2 (w.heap.size + 1) 34 #[.int .i64 p.s, .int .i64 p.p, .int .i64 p.o, .int .i64 p.g] := (hb2.block _ PB.out.lt).trans PB.out
  have x0 := pb.cell 0
  have x1 := pb.cell 1
  have x2 := pb.cell 2
  have x3 := pb.cell 3
  simp at x0 x1 x2 x3
  clear hb2 y0 y1 y2 y3 pb PB HE
  cases B with
  | false =>
    have HF : Hid (L = []) := by
      rcases HLL.out with ⟨_, q⟩ | ⟨_, q, _⟩
      · exact q
      · cases q
    go_wp2
    go_ret
    exact ⟨none, 0, by rw [HF.out]; rfl, by rw [HF.out]; exact World.ownsRow_nil _ _ _ _, H2.out.2⟩
  | true =>
  obtain ⟨j, hj, ep, hok⟩ := HO.out rfl
  subst ep
  have HCt : Hid (Calls Tryz.prog 37 #[.pointer (some ⟨W0.heap.size + 1, j * 2, none⟩), .agg #[.int .i64 p.s, .int .i64 p.p, .int .i64 p.o, .int .i64 p.g]] w2.drew (RetSc w2.drew L)) := by
    have hD := H2.out.1.keep ((Below.refl w2.heap.size w2).drew)
    obtain ⟨h0, t, t', hh, v, q1, q2, q3, q4, q5, q6, q7⟩ := hD.xt j hj
    obtain ⟨s, hs, hl, hg⟩ := H1.out.1.2.1 j hj
    have es := vtt1 hs q1
    subst es
    rw [q2] at hl hg
    refine scan_any j hj p hok (W0.heap.size + 1) (j * 2) w2.drew (M j) t v hh (by rw [hD.xb.cell]; exact h0) (by rw [hD.xb.cell]; exact q7) (q6.mono (Nat.le_refl _) (fun b _ hlt => ⟨hlt, rfl⟩)) q3 (by rw [← q2]; exact asc_of_ascK q1.2.2.2.2.1) hl (fun k hk => (hg k hk).1) L ?_
    rcases HLL.out with ⟨q, _⟩ | ⟨_, _, j', _, ej, t0, hv0, hL0⟩
    · exact absurd ⟨H1.out.1, rfl⟩ q
    · have e : j' = j := by omega
      subst e
      have e0 := vtt1 hv0 q1
      subst e0
      rw [hL0, q2]
  have j0 : (0 : Int) ≤ (j : Int) := by omega
  have j1 : (j : Int) < 6 := by omega
  clear hok HLL
  go_wp2
  go_region_with (go_at_call 37; (with_reducible refine HCt.out.mono ?_); rintro e w5 ⟨a5, c5, rfl, ho5, hb5⟩)
  all_goals
    have H5 : Hid (w5.ownsRow w.heap.size 34 4 (.slice a5 L.length c5) L.length (quadL L) ∧ Below w.heap.size w w5) := ⟨own_down ho5 H2.out.2.drew.size, H2.out.2.drew.trans (hb5.mono H2.out.2.drew.size)⟩
    clear hb5 ho5
    go_wp2
    go_ret
    exact ⟨a5, c5, rfl, H5.out⟩
end Go.Proofs.YtcnollkkigiobaaGreat

namespace Go.Proofs.YtcnollkkigiobaaGreat
open Go.RowKit Go.Deep
set_option linter.unusedVariables false
set_option maxRecDepth 100000

theorem Tryz.info59 : (Tryz.prog.info? 59).map (fun i => (i.zero, i.size, i.bytes)) = some (some (.agg #[.slice none 0 0]), 1, 24) := by kernel_rfl

theorem OwnTn.und {w w' : World} {B g n : Nat} {N : Nat → Tn} {KA DA : Nat → Option Addr} {KC DC : Nat → Nat} (h : OwnTn w B g n N KA DA KC DC) (hb : Below w.heap.size w w') : OwnTn w' B g n N KA DA KC DC :=
  ⟨h.le, h.row.of_block (hb.block g h.row.lt), fun i hi => (h.keys i hi).below hb, fun i hi => (h.kids i hi).below hb, h.apartK, h.apartD⟩

theorem OwnIx.put {w w1 : World} {B g n k : Nat} {M : Nat → Nat} {T : Nat → Nat → Tn} (h : OwnIx w B g n k M T) (hB : B ≤ w.heap.size) (hk : k < n) (hb : Below w.heap.size w w1) {gk : Nat} {KA DA : Nat → Option Addr} {KC DC : Nat → Nat} (ho : OwnTn w1 w.heap.size gk (M k) (T k) KA DA KC DC) : OwnIx (w1.setCell ⟨g, k, none⟩ (.slice (some ⟨gk, 0, none⟩) (M k) (M k))) B g n (k + 1) M T := by
  obtain ⟨hg, cur, h1, h2, h3⟩ := h
  have h1' : Bx w1 g 59 cur := (show Bx w g 59 cur from h1).below hb
  have hs := h1'.set k (.slice (some ⟨gk, 0, none⟩) (M k) (M k))
  refine ⟨hg, _, hs, by simpa using h2, fun i hi => ?_⟩
  by_cases e : i = k
  · subst e
    refine ⟨gk, KA, DA, KC, DC, by simp [h2, hk], ?_⟩
    have q := ho.setO (p := ⟨g, i, none⟩) (by show g < w.heap.size; omega) (.slice (some ⟨gk, 0, none⟩) (M i) (M i))
    have hle := q.le
    exact ⟨by omega, q.row, fun j hj => (q.keys j hj).mono (by omega), fun j hj => (q.kids j hj).mono (by omega), q.apartK, q.apartD⟩
  · obtain ⟨gi, KA', DA', KC', DC', q1, q2⟩ := h3 i (by omega)
    refine ⟨gi, KA', DA', KC', DC', ?_, (q2.und hb).setO (p := ⟨g, k, none⟩) hg _⟩
    rw [Array.getElem?_setIfInBounds_ne (by omega)]
    exact q1
theorem OwnIx.setO {w : World} {B g n : Nat} {M : Nat → Nat} {T : Nat → Nat → Tn} (h : OwnIx w B g n n M T) {p : Addr} (hp : p.block < g) (v : Value) : OwnIx (w.setCell p v) B g n n M T := by
  obtain ⟨hg, cur, h1, h2, h3⟩ := h
  refine ⟨hg, cur, by rw [Below.heap_setCell _ _ _ _ (show g ≠ p.block by omega)]; exact h1, h2, fun i hi => ?_⟩
  obtain ⟨gi, KA', DA', KC', DC', q1, q2⟩ := h3 i hi
  exact ⟨gi, KA', DA', KC', DC', q1, q2.setO (by omega) _⟩

set_option maxHeartbeats 2000000 in
theorem toTreeS_any (a : Option Addr) (m c : Nat) (M : Nat → Nat) (T : Nat → Nat → Tn) (w : World) (h : RdIx w a m M T) (hm : m ≤ 1048576) (hN : IxFit m M T) :
    Calls Tryz.prog 35 #[.slice a m c] w fun e w' => e = .returned (.slice (some ⟨w.heap.size, 0, none⟩) m m) ∧ OwnIx w' (w.heap.size + 1) w.heap.size m m M T ∧ Below w.heap.size w w' := by
  have hmk : ∀ w : World, (Instr.makeSlice 30 (.int .i64 (m : Int)) (.int .i64 (m : Int))).run Tryz.prog w = .ok (.slice (some ⟨w.heap.size, 0, none⟩) m m) (w.alloc (.cells (madeCells #[.slice none 0 0] m) 59)) := by
    intro w
    obtain ⟨i0, hi, hz0, hz1, hz2⟩ := info_parts Tryz.info59
    have := run_make (P := Tryz.prog) w 30 59 i0 _ Tryz.underlying30 hi hz0 .i64 .i64 m m (by omega) (by omega) (by rw [hz2]; omega) (by omega)
    rw [hz1, show (Value.agg #[.slice none 0 0]).cells = #[.slice none 0 0] from rfl, Nat.mul_one] at this
    simpa using this
  have H0 : Hid (OwnIx (w.alloc (.cells (madeCells #[.slice none 0 0] m) 59)) (w.heap.size + 1) w.heap.size m 0 M T) := ⟨by omega, _, Bx.new w _ 59, by simp [madeCells], fun i hi => absurd hi (Nat.not_lt_zero _)⟩
  have HR : Hid (RdIx w a m M T ∧ IxFit m M T) := ⟨h, hN⟩
  clear h hN
  go_enter Tryz.func35, Tryz.ntmps35
  go_wp2
  go_loopw [4] (fun i wr => ∃ (k : Nat), k ≤ m ∧ i = .int .i64 k ∧ OwnIx wr (w.heap.size + 1) w.heap.size m k M T ∧ Below w.heap.size w wr) (fun i _ => m - (intOf i).toNat)
  case atStart => exact ⟨0, Nat.zero_le _, rfl, H0.out, below_alloc _ _⟩
  case round =>
    obtain ⟨k, hk, rfl, hown, hbel⟩ := hrel
    clear H0
    by_cases hlt : k < m
    · have hne : ¬ m = 0 := by omega
      have h' := HR.out.1.below hbel
      have HB : Hid (Below w.heap.size w wr) := hbel
      have HO : Hid (OwnIx wr (w.heap.size + 1) w.heap.size m k M T) := hown
      have hsz := hbel.size
      rcases h' with h' | ⟨b, o, rfl, hc⟩
      · exact absurd h' hne
      obtain ⟨ai, ci, c0, c4⟩ := hc k hlt
      have HL := HR.out.2 k hlt
      have HK : Hid (RdTn wr ai (M k) (T k)) := c4
      clear hc hbel hown hmk c4
      go_wp2_with fail
      refine (toTree_any ai (M k) ci (T k) _ HK.out HL.1 HL.2).mono ?_
      rintro e w1 ⟨gk, KA, DA, KC, DC, rfl, hgk, ho1, hb1⟩
      obtain ⟨_, cur, q1, q2, _⟩ := HO.out
      have hgl : w.heap.size < wr.heap.size := (Array.getElem?_eq_some_iff.1 q1).1
      have q3 : Bx w1 w.heap.size 59 cur := (show Bx wr w.heap.size 59 cur from q1).below hb1
      obtain ⟨u0, hu0⟩ : ∃ u0, cur[k]? = some u0 := ⟨_, Array.getElem?_eq_getElem (by omega)⟩
      have hc1 : w1.cell? ⟨w.heap.size, k, none⟩ = some u0 := by rw [q3.cell k]; exact hu0
      have hf1 := q3.frozen k
      have hl1 := q3.lt
      have HX : Hid (OwnIx (w1.setCell ⟨w.heap.size, k, none⟩ (.slice (some ⟨gk, 0, none⟩) (M k) (M k))) (w.heap.size + 1) w.heap.size m (k + 1) M T ∧ Below w.heap.size w (w1.setCell ⟨w.heap.size, k, none⟩ (.slice (some ⟨gk, 0, none⟩) (M k) (M k)))) := ⟨HO.out.put (by omega) hlt hb1 ho1, (HB.out.trans (hb1.mono hsz)).setCell (Nat.le_refl _) _⟩
      clear ho1 hb1 HO HB c0 q1 q2 q3 hu0
      go_wp2
      go_roundw
      case rel => exact ⟨k + 1, by omega, by go_num, HX.out⟩
      case measure => simp [intOf]; omega
    · have e : k = m := by omega
      subst e
      have HO : Hid (OwnIx wr (w.heap.size + 1) w.heap.size k k M T) := hown
      clear hown
      go_wp2
      go_ret
      exact ⟨rfl, HO.out, hbel⟩

set_option maxHeartbeats 400000 in
theorem toIndex_any (a : Option Addr) (m c : Nat) (M : Nat → Nat) (T : Nat → Nat → Tn) (w : World) (h : RdIx w a m M T) (hm : m ≤ 1048576) (hN : IxFit m M T) :
    Calls Tryz.prog 9 #[.agg #[.slice a m c]] w fun e w' => ∃ g, e = .returned (.agg #[.slice (some ⟨g, 0, none⟩) m m]) ∧ w.heap.size ≤ g ∧ OwnIx w' (g + 1) g m m M T ∧ Below w.heap.size w w' := by
  have HH : Hid ((∀ o1 o2 o3, Below w.heap.size w (((w.alloc o1).alloc o2).alloc o3)) ∧ (∀ o1 o2 o3, (((w.alloc o1).alloc o2).alloc o3).heap.size = w.heap.size + 3) ∧ RdIx w a m M T ∧ IxFit m M T) := ⟨fun o1 o2 o3 => (((below_alloc _ _).alloc (by simp) _).alloc (by simp; omega) _), fun o1 o2 o3 => by simp, h, hN⟩
  clear h hN
  go_enter Tryz.func9, Tryz.ntmps9
  go_wp2_with fail
  refine (toTreeS_any a m c M T _ (HH.out.2.2.1.below (HH.out.1 _ _ _)) hm HH.out.2.2.2).mono ?_
  rintro e w1 ⟨rfl, ho1, hb1⟩
  rw [HH.out.2.1] at ho1 hb1 ⊢
  have hz : w.heap.size + 2 < w1.heap.size := by have := hb1.size; rw [HH.out.2.1] at this; omega
  have hc : ∀ b o, b < w.heap.size + 3 → w1.cell? ⟨b, o, none⟩ = _ := fun b o hb => hb1.cell (p := ⟨b, o, none⟩) hb
  have hfz : ∀ b o, b < w.heap.size + 3 → w1.frozen? ⟨b, o, none⟩ = _ := fun b o hb => hb1.frozen (p := ⟨b, o, none⟩) hb
  have HE : Hid (OwnIx w1 (w.heap.size + 3 + 1) (w.heap.size + 3) m m M T ∧ Below w.heap.size w w1) := ⟨ho1, (HH.out.1 _ _ _).trans (hb1.mono (by omega))⟩
  clear ho1 hb1
  go_wp2
  refine bodyPost_ret (v := .agg #[.slice (some ⟨w.heap.size + 3, 0, none⟩) m m]) (by simp [results, Tryz.results9, go_sem, hc]) rfl ⟨_, rfl, by omega, ?_, ?_⟩
  · exact (HE.out.1.setO (p := ⟨w.heap.size + 2, 0, none⟩) (by simp) _).setO (p := ⟨w.heap.size + 1, 0, none⟩) (by simp) _
  · exact (HE.out.2.setCell (by simp; try omega) _).setCell (by simp; try omega) _

section
open Go.ChangeShapes Go.WideShapes Go.ChangeAt Go.Joins
variable {H : Type} {enc : TypeId × Value → H} {W : World}
set_option maxRecDepth 100000 in
theorem trees_of {fuel : Nat} {cs : List Value} {x : DataW H × List MemPlace} (h : DataW.trod enc Tryz.prog W 0 (fun _ => true) true fuel 22 cs = some x) :
    ∃ a n c M T, cs = [.slice a n c] ∧ RdIx W a n M T ∧ (∀ i, i < n → M i ≤ maxLen ∧ ∀ j, j < M i → TnBig (T i j)) ∧ n ≤ maxLen := by
  rcases open_slice (P := Tryz.prog) (t := 22) (e := 106) (by kernel_rfl) h with ⟨hcs, _⟩ | ⟨a, len, cap, m, fu, D, Pl, hcs, _, hl, hm, hmm, _, hx⟩
  · exact ⟨none, 0, 0, fun _ => 0, fun _ _ => ⟨false, 0, fun _ => { data := #[] }, 0, fun _ => 0, 0⟩, hcs, Or.inl rfl, fun i hi => absurd hi (Nat.not_lt_zero _), Nat.zero_le _⟩
  · have hlm : len ≤ m := by rw [hmm]; split <;> omega
    have each : ∀ i, i < len → ∃ q : Nat × (Nat → Tn) × Option Addr × Nat, W.cell? (a.add i) = some (.slice q.2.2.1 q.1 q.2.2.2) ∧ RdTn W q.2.2.1 q.1 q.2.1 ∧ q.1 ≤ maxLen ∧ ∀ j, j < q.1 → TnBig (q.2.1 j) := by
      intro i hi
      obtain ⟨cs', h1, h2⟩ := hx i (by omega)
      rw [show Tryz.prog.cellsOf 106 = 1 by kernel_rfl] at h1
      obtain ⟨_, hlen, hcell⟩ := World.cells?_some h1
      obtain ⟨xs, k, hk, hxy, _, hxl, hf⟩ := DataW.trod_struct (P := Tryz.prog) Tryz.underlying106 h2
      have g0 := hf 0 _ rfl
      rw [show Tryz.prog.cellsOf _ = 1 by kernel_rfl] at g0
      match xs, hxl, cs', hlen with
      | [y0], _, [v0], _ =>
        simp at g0
        obtain ⟨ai, n', c', N, e1, hr, hX, hn⟩ := tnodes_of g0
        simp at e1
        subst e1
        have c0 := hcell 0 (by omega)
        rw [Addr.add_add] at c0
        exact ⟨(n', N, ai, c'), by simpa using c0, hr, hn, hX⟩
    haveI : Inhabited (Nat × (Nat → Tn) × Option Addr × Nat) := ⟨(0, fun _ => ⟨false, 0, fun _ => { data := #[] }, 0, fun _ => 0, 0⟩, none, 0)⟩
    obtain ⟨q, hq⟩ := choose_lt each
    refine ⟨some a, len, cap, fun i => (q i).1, fun i => (q i).2.1, hcs, ?_, fun i hi => (hq i hi).2.2, by omega⟩
    by_cases h0 : len = 0
    · exact Or.inl h0
    · obtain ⟨b, off, spot⟩ := a
      have hs := spotT_of (a := ⟨b, off, spot⟩) (by simpa using (hq 0 (by omega)).1)
      simp at hs
      subst hs
      refine Or.inr ⟨b, off, rfl, fun i hi => ?_⟩
      obtain ⟨k0, k1, _⟩ := hq i hi
      rw [addT_eq] at k0
      exact ⟨_, _, k0, k1⟩
/-- What the walk is told of an index that came in. -/
def IsIndex (w : World) (v : Value) : Prop :=
  ∃ a n c M T, v = .agg #[.slice a n c] ∧ RdIx w a n M T ∧ (∀ i, i < n → M i ≤ maxLen ∧ ∀ j, j < M i → TnBig (T i j)) ∧ n ≤ maxLen
set_option maxRecDepth 100000 in
theorem openIndex {r : Reach} {b0 : Nat} {v : Value} {d : DataW H} {p : List MemPlace} (hv : Value.okWide Tryz.prog W r b0 24 v) (h : DataW.Trod enc Tryz.prog W 0 (fun _ => true) true 24 v d p) : IsIndex W v := by
  obtain ⟨cs, rfl, hsz⟩ := okWide_struct (P := Tryz.prog) Tryz.underlying24 hv
  have h1 : cs.size = 1 := hsz.trans (by kernel_rfl)
  obtain ⟨l⟩ := cs
  match l, h1 with
  | [c0], _ =>
    obtain ⟨fuel, hf⟩ := h
    obtain ⟨xs, k, hk, hxy, _, hxl, hff⟩ := DataW.trod_struct (P := Tryz.prog) Tryz.underlying24 hf
    have g0 := hff 0 _ rfl
    rw [show Tryz.prog.cellsOf _ = 1 by kernel_rfl] at g0
    match xs, hxl with
    | [y0], _ =>
      simp [Value.cells] at g0
      obtain ⟨a, n', c, M, T, e1, hr, hX, hn⟩ := trees_of g0
      simp at e1
      subst e1
      exact ⟨a, n', c, M, T, rfl, hr, hX, hn⟩
end
end Go.Proofs.YtcnollkkigiobaaGreat

namespace Go.Proofs.YtcnollkkigiobaaGreat
open Go.RowKit Go.Deep
set_option linter.unusedVariables false
set_option maxRecDepth 100000

end Go.Proofs.YtcnollkkigiobaaGreat
