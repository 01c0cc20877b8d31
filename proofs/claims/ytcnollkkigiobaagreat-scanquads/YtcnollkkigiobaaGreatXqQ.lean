import Derived.Test.YtcnollkkigiobaaGreatXqV
namespace Go.Proofs.YtcnollkkigiobaaGreat
open Go.RowKit Go.Deep
set_option linter.unusedVariables false
set_option maxRecDepth 100000

theorem RdS.cellOf {w : World} {a : Option Addr} {n : Nat} {X : Nat → ByteArray} (h : RdS w a n X) (i : Nat) (hi : i < n) : ∃ b o, a = some ⟨b, o, none⟩ ∧ w.cell? ⟨b, o + i, none⟩ = some (.string (X i)) := by
  rcases h with q | ⟨b, o, rfl, hc⟩
  · omega
  · exact ⟨b, o, rfl, hc i hi⟩
theorem gt_in {L : List ByteArray} {i : Nat} (h : i < L.length) : gt L i = L[i] := by
  unfold gt
  rw [List.getD_eq_getElem?_getD, List.getElem?_eq_getElem h]
  rfl

/-- Of the old blocks at most this one has turned. -/
def Ex1 (b : Nat) (w w' : World) : Prop := w'.os = w.os ∧ w'.tape = w.tape ∧ w'.output = w.output ∧ w.heap.size ≤ w'.heap.size ∧ ∀ k, k < w.heap.size → k ≠ b → w'.heap[k]? = w.heap[k]?
theorem Ex1.refl (b : Nat) (w : World) : Ex1 b w w := ⟨rfl, rfl, rfl, Nat.le_refl _, fun _ _ _ => rfl⟩
theorem Ex1.below {b : Nat} {w w1 w2 : World} (h : Ex1 b w w1) (hb : Below w1.heap.size w1 w2) : Ex1 b w w2 := ⟨hb.os.trans h.1, hb.tape.trans h.2.1, hb.output.trans h.2.2.1, Nat.le_trans h.2.2.2.1 hb.size, fun k hk hn => (hb.block k (Nat.lt_of_lt_of_le hk h.2.2.2.1)).trans (h.2.2.2.2 k hk hn)⟩
theorem Ex1.grown {b : Nat} {w w1 w2 : World} {r : Option Nat} (h : Ex1 b w w1) (hg : w1.grownBy w2 r) (hr : ∀ g, r = some g → g = b ∨ w.heap.size ≤ g) : Ex1 b w w2 := ⟨hg.os.trans h.1, hg.tape.trans h.2.1, hg.output.trans h.2.2.1, Nat.le_trans h.2.2.2.1 hg.size, fun k hk hn => (hg.block k (Nat.lt_of_lt_of_le hk h.2.2.2.1) (fun e => by rcases hr k e.symm with q | q <;> omega)).trans (h.2.2.2.2 k hk hn)⟩
theorem Ex1.bel {b B : Nat} {w w' : World} (h : Ex1 b w w') (hB : B ≤ w.heap.size) (hb : B ≤ b) : Below B w w' := ⟨h.1, h.2.1, h.2.2.1, h.2.2.2.1, fun k hk => h.2.2.2.2 k (by omega) (by omega)⟩
theorem RdS.ex1 {b : Nat} {w w' : World} {a : Option Addr} {n : Nat} {X : Nat → ByteArray} (h : RdS w a n X) (he : Ex1 b w w') (hne : ∀ g o, a = some ⟨g, o, none⟩ → g ≠ b) : RdS w' a n X := by
  rcases h with q | ⟨g, o, rfl, hc⟩
  · exact .inl q
  · refine .inr ⟨g, o, rfl, fun i hi => ?_⟩
    have hl := World.block_lt_of_cell? _ _ (hc i hi)
    rw [World.cell?_of_block (a := ⟨g, o + i, none⟩) (he.2.2.2.2 g hl (hne g o rfl))]
    exact hc i hi

set_option maxHeartbeats 4000000 in
theorem l5Quads_any (perm : Nat) (hp : perm < 6) (a : Option Addr) (n c : Nat) (N : Nat → Tn) (t : Ro 21) (w : World) (h : RdTn w a n N) (hv : VTt n N t) (hf : ∀ i, i < n → TnFit (N i)) (hk : ∀ k, k ∈ keysR 21 t → k.size = 16) (hl : (keysR 21 t).length ≤ 300) (L : List Qd) (hL : L = (keysR 21 t).map (quadOf perm)) :
    Calls Tryz.prog 33 #[.agg #[.slice a n c], .int .i64 (perm : Int)] w fun e w' => ∃ a' c', e = .returned (.slice a' L.length c') ∧ RdQ w' a' L ∧ Below w.heap.size w w' := by
  have hn5 := hv.2.1
  have hend := nestR_end hv.2.2.1
  have HR : Hid (RdTn w a n N ∧ VTt n N t ∧ (∀ i, i < n → TnFit (N i)) ∧ (∀ k, k ∈ keysR 21 t → k.size = 16) ∧ L = (keysR 21 t).map (quadOf perm) ∧ nodesR 21 t ≤ 5000 ∧ perm < 6) := ⟨h, hv, hf, hk, hL, by omega, hp⟩
  have HB0 : Hid (∀ O1 O2 : Obj, Below w.heap.size w ((w.alloc O1).alloc O2)) := fun _ _ => (below_alloc _ _).alloc (by simp) _
  have HOf : Hid (∀ W, Below w.heap.size w W → Calls Tryz.prog 57 #[.agg #[.slice a n c]] W (RetOf W n N)) := fun W hW => of_any a n c N W (h.below hW) (by omega) hf
  obtain ⟨i0, hi0, hz0, hz1, hz2⟩ := info_parts Tryz.info34
  have HI : Hid (Tryz.prog.info? 34 = some i0 ∧ i0.zero = some (.agg #[.int .i64 0, .int .i64 0, .int .i64 0, .int .i64 0]) ∧ i0.size = 4 ∧ i0.bytes = 32) := ⟨hi0, hz0, hz1, hz2⟩
  clear h hv hf hk hL hp hend hi0 hz0 hz1 hz2
  go_enter Tryz.func33, Tryz.ntmps33
  go_wp2_with fail
  (with_reducible refine (HOf.out _ (HB0.out _ _)).mono ?_)
  rintro e w1 ⟨hb1, lf, ka, kn, kc, ca, cn, cc, ok, rfl, hr⟩
  have HO1 : Hid (w1.ownsRow (w.heap.size + 1) 34 4 (.slice (some ⟨w.heap.size + 1, 0, none⟩) 0 0) 0 [] ∧ Below w.heap.size w w1) := by
    have q := own_empty (w.alloc (.cells #[.slice a n c] 59)) 34 (w.heap.size + 1) 4 (by simp)
    rw [World.size_alloc] at q
    exact ⟨own_below q hb1, (HB0.out _ _).trans (hb1.mono (by simp; omega))⟩
  rcases hr with ⟨rfl, hno, _⟩ | ⟨rfl, t', hv', hna⟩
  · exact absurd ⟨t, HR.out.2.1⟩ hno
  have et : t' = t := by
    have q := hv'.2.2.1
    rw [HR.out.2.1.2.2.1] at q
    injection q with q
    injection q with q _
    exact q.symm
  subst et
  have HNA : Hid (NA w1 21 t' (.agg #[.bool lf, .slice ka kn kc, .slice ca cn cc])) := hna
  have HKeys : Hid (∀ W, Below w1.heap.size w1 W → Calls Tryz.prog 58 #[.agg #[.bool lf, .slice ka kn kc, .slice ca cn cc]] W (RetStrs W (keysR 21 t'))) := fun W hW => keys_any 21 t' _ W (HNA.out.below hW) HR.out.2.2.2.2.2.1 (by omega)
  have hz1 : w.heap.size + 2 ≤ w1.heap.size := by have := hb1.size; simpa using this
  clear hna hb1 hv' HOf HB0
  go_wp2_with fail
  (with_reducible refine (HKeys.out _ (below_alloc _ _)).mono ?_)
  rintro e w3 ⟨a3, c3, rfl, ho3, hb3, _, _⟩
  have hb13 : Below w1.heap.size w1 w3 := (below_alloc _ _).trans (hb3.mono (by simp))
  obtain ⟨kl, hkl⟩ : ∃ kl, kl = (keysR 21 t').length := ⟨_, rfl⟩
  have HKL : Hid (kl = (keysR 21 t').length) := hkl
  have S3 : Hid ((kl ≠ 0 → ∃ g, a3 = some ⟨g, 0, none⟩ ∧ g ≠ w.heap.size + 1) ∧ RdS w3 a3 kl (gt (keysR 21 t')) ∧ w3.ownsRow (w.heap.size + 1) 34 4 (.slice (some ⟨w.heap.size + 1, 0, none⟩) 0 0) 0 [] ∧ Below w.heap.size w w3 ∧ w.heap.size + 1 ≤ w3.heap.size) := by
    have q := HO1.out.2.trans (hb13.mono HO1.out.2.size)
    have qs := hb13.size
    refine ⟨fun h0 => ?_, by rw [hkl]; exact ho3.rd, own_below HO1.out.1 hb13, q, by omega⟩
    rcases ho3 with h' | ⟨g, e, hg, _⟩
    · omega
    · exact ⟨g, e, by simp at hg; omega⟩
  rw [← hkl] at hl ⊢
  clear hkl ho3 hb3 hb13 HO1 HKeys HNA
  go_wp2
  go_loopw [5, 9] (fun out i wr => ∃ (k : Nat) (R : List Qd), k ≤ kl ∧ i = .int .i64 k ∧ R = ((keysR 21 t').take k).map (quadOf perm) ∧ wr.ownsRow (w.heap.size + 1) 34 4 out R.length (quadL R) ∧ Ex1 (w.heap.size + 1) w3 wr ∧ (∀ g, out.ownBlock = some g → g = w.heap.size + 1 ∨ w3.heap.size ≤ g)) (fun _ i _ => kl - (intOf i).toNat)
  case atStart => exact ⟨0, [], Nat.zero_le _, rfl, rfl, S3.out.2.2.1, Ex1.refl _ _, fun g e => .inl (by simp [Value.ownBlock] at e; omega)⟩
  case round =>
    obtain ⟨k, R, hk, rfl, hR, hown, hex, hblk⟩ := hrel
    obtain ⟨ar, cr, er, _⟩ := own_form hown
    subst er
    have hRl : R.length = k := by rw [hR, List.length_map, List.length_take, ← HKL.out]; omega
    have HQ : Hid (wr.ownsRow (w.heap.size + 1) 34 4 (.slice ar R.length cr) R.length (quadL R) ∧ Ex1 (w.heap.size + 1) w3 wr ∧ R = ((keysR 21 t').take k).map (quadOf perm) ∧ (∀ g, (Value.slice ar R.length cr).ownBlock = some g → g = w.heap.size + 1 ∨ w3.heap.size ≤ g) ∧ R.length = k) := ⟨hown, hex, hR, hblk, hRl⟩
    clear hown hex hR hblk hRl
    obtain ⟨rl, hrl⟩ : ∃ rl, rl = R.length := ⟨_, rfl⟩
    have HRl : Hid (rl = R.length) := hrl
    have hrlk : rl = k := hrl.trans HQ.out.2.2.2.2
    have hrlk1 : rl ≤ k := by omega
    rw [← hrl] at HQ ⊢
    clear hrl
    have k0 : (0 : Int) ≤ (k : Int) := by omega
    by_cases hlt : k < kl
    · have k1 : (k : Int) < (kl : Int) := by omega
      have hkK : k < (keysR 21 t').length := by rw [← HKL.out]; exact hlt
      obtain ⟨gk, ea, hgne⟩ := S3.out.1 (by omega)
      have hrd : RdS wr a3 kl (gt (keysR 21 t')) := S3.out.2.1.ex1 HQ.out.2.1 (fun g o e => by
        rw [ea] at e
        injection e with e
        injection e with e
        omega)
      obtain ⟨bb, oo, ea2, s1⟩ := hrd.cellOf k hlt
      obtain ⟨key, hkey⟩ : ∃ key, key = gt (keysR 21 t') k := ⟨_, rfl⟩
      rw [← hkey] at s1
      have HKy : Hid (key = (keysR 21 t')[k] ∧ key.size = 16) := by
        have e : key = (keysR 21 t')[k] := by rw [hkey, gt_in hkK]
        exact ⟨e, by rw [e]; exact HR.out.2.2.2.1 _ (List.getElem_mem hkK)⟩
      have HQd : Hid (Calls Tryz.prog 59 #[.string key, .int .i64 (perm : Int)] wr fun e w' => e = .returned (qv (quadOf perm key)) ∧ Below wr.heap.size wr w') := l5Quad_any perm HR.out.2.2.2.2.2.2 key HKy.out.2 wr
      clear hkey hrd ea hrlk
      subst ea2
      go_wp2_with fail
      (with_reducible refine HQd.out.mono ?_)
      rintro e w5 ⟨rfl, hb5⟩
      obtain ⟨qd, hqd⟩ : ∃ qd, qd = quadOf perm key := ⟨_, rfl⟩
      have HQq : Hid (qd = quadOf perm key) := hqd
      rw [← hqd]
      unfold qv
      have HO5 : Hid ((w5.alloc (.cells #[.int .i64 qd.s, .int .i64 qd.p, .int .i64 qd.o, .int .i64 qd.g] 34)).ownsRow (w.heap.size + 1) 34 4 (.slice ar rl cr) rl (quadL R) ∧ Ex1 (w.heap.size + 1) w3 (w5.alloc (.cells #[.int .i64 qd.s, .int .i64 qd.p, .int .i64 qd.o, .int .i64 qd.g] 34)) ∧ (∀ j u, (quadL [qd])[j]? = some u → (w5.alloc (.cells #[.int .i64 qd.s, .int .i64 qd.p, .int .i64 qd.o, .int .i64 qd.g] 34)).cell? ⟨w5.heap.size, j, none⟩ = some u)) := by
        refine ⟨own_below (own_below HQ.out.1 hb5) (below_alloc _ _), (HQ.out.2.1.below hb5).below (below_alloc _ _), fun j u hj => ?_⟩
        rw [(Bx.new w5 #[.int .i64 qd.s, .int .i64 qd.p, .int .i64 qd.o, .int .i64 qd.g] 34).cell j]
        simpa [quadL] using hj
      have hz5 := hb5.size
      have hzr := HQ.out.2.1.2.2.2.1
      have hz3 := S3.out.2.2.2.2
      clear hb5 hqd HQd
      go_wp2_with (at_builtin; refine wpList_append_own_at _ rfl _ _ 28 rfl (w.heap.size + 1) 34 i0 _ 4 32 Tryz.underlying28 HI.out.1 HI.out.2.1 HI.out.2.2.1 HI.out.2.2.2 rfl (by decide) (.slice ar rl cr) rl (quadL R) rfl HO5.out.1 ⟨w5.heap.size, 0, none⟩ 1 1 (quadL [qd]) rfl rfl (fun j u hj => by rw [Addr.add_lit, Nat.zero_add]; exact HO5.out.2.2 j u hj) (by intro u hu; simp [quadL] at hu; rcases hu with rfl | rfl | rfl | rfl <;> rfl) (by unfold maxLen; omega) (by omega) (by simp; omega) ?_)
      intro v7 w7 ho7 hg7 _ hat7
      have H7 : Hid (w7.ownsRow (w.heap.size + 1) 34 4 v7 (R ++ [qd]).length (quadL (R ++ [qd])) ∧ Ex1 (w.heap.size + 1) w3 w7 ∧ (∀ g, v7.ownBlock = some g → g = w.heap.size + 1 ∨ w3.heap.size ≤ g)) := by
        refine ⟨by rw [quadL_app, List.length_append, ← HRl.out]; exact ho7, HO5.out.2.1.grown hg7 HQ.out.2.2.2.1, fun g e => ?_⟩
        rcases hat7 with q | q
        · exact HQ.out.2.2.2.1 g (by rw [← q]; exact e)
        · rw [q] at e
          injection e with e
          exact .inr (by omega)
      have HN : Hid (R ++ [qd] = ((keysR 21 t').take (k + 1)).map (quadOf perm)) := by
        show R ++ [qd] = _
        rw [List.take_add_one, List.getElem?_eq_getElem hkK, List.map_append, ← HQ.out.2.2.1, HQq.out, HKy.out.1]
        rfl
      obtain ⟨a7, c7, e7, _⟩ := own_form ho7
      subst e7
      clear ho7 hg7 hat7 HO5
      go_wp2
      go_roundw
      case rel => exact ⟨k + 1, R ++ [qd], by omega, by go_num, HN.out, H7.out⟩
      case measure => simp [intOf]; omega
    · obtain rfl : k = kl := by omega
      have k1 : ¬ (k : Int) < (k : Int) := by omega
      have HF : Hid (R = L ∧ RdQ wr ar L ∧ Below w.heap.size w wr ∧ rl = L.length) := by
        have e : R = L := by rw [HQ.out.2.2.1, HR.out.2.2.2.2.1, HKL.out, List.take_length]
        have ho := HQ.out.1
        rw [HRl.out] at ho
        refine ⟨e, by rw [← e]; exact own_rdq ho, S3.out.2.2.2.1.trans (HQ.out.2.1.bel S3.out.2.2.2.1.size (by omega)), by rw [← e]; exact HRl.out⟩
      clear hrlk
      go_wp2
      go_ret
      exact ⟨ar, ⟨cr, by rw [← HF.out.2.2.2]; rfl⟩, HF.out.2.1, HF.out.2.2.1⟩
end Go.Proofs.YtcnollkkigiobaaGreat
