import Derived.Test.YtfcffpgiijnmjaaPutVD
import Derived.Test.YtfcffpgiijnmjaaLess
import Derived.Test.YtfcffpgiijnmjaaLate
namespace Go.Proofs.Ytfcffpgiijnmjaa
open Go.RowKit Go.Deep Go.MapKept
set_option linter.unusedVariables false
set_option maxRecDepth 100000

/-- An operation whose guard keeps it from being done. -/
theorem late_skip0 {l : List Oper} {P : Program} {Q : Exit → Act → World → Prop} {S : World → Prop} {late : Nat} (i : Nat) {oi : Oper} (hp : Pick i l oi) {fuel : Nat} {listed : Array Bool} {a : Act} {w : World}
    (hs : Region.noSelect l.toArray = true) (hf : Region.free .any l.toArray listed i = true) (hr : (Region.ready .any l.toArray listed).contains i = true) (hwt : waitsB l.toArray listed i late (behind l.toArray i 8) = true)
    (hQ : ∀ c a w, Q (.panic c) (a.put oi.dst undef) w → Q (.panic c) a w) (hw : Region.wanted oi (yielded l.toArray a.tmps) = false) (hS : S w)
    (h : wpLate P .any l.toArray Q S late fuel (listed.setIfInBounds i true) (a.put oi.dst undef) w) : wpLate P .any l.toArray Q S late (fuel + 1) listed a w :=
  wpLate_take 8 hp.get hs hf hr hwt hQ (Or.inr ⟨hw, rfl⟩) hS h

/-- mayHold as a step. -/
theorem step_may {ops : Array Oper} {o : Oper} {a : Act} {w : World} {K : Act → World → Prop} {Q : Exit → Act → World → Prop} {E : Prop} {t u : TypeId} (hw : Region.wanted o (yielded ops a.tmps) = true) (x y : Nat)
    (ho : o.op = .call { callee := .value (.func 56), args := #[.tmp x, .tmp y], argTypes := #[t, u] }) (v v' : Value) (hx : a.tmps[x]?.getD undef = v) (hy : a.tmps[y]?.getD undef = v')
    (h : Calls Try.prog 56 #[v, v'] w fun e w' => ∃ u, e = .returned u ∧ K (a.put o.dst u) w') :
    if Region.wanted o (yielded ops a.tmps) = true then Oper.wp Try.prog o a w K Q else E := by
  rw [if_pos hw]
  unfold Oper.wp
  simp [execOp, ho, resolve, invoke, hx, hy, go_sem]
  refine h.mono ?_
  rintro e w' ⟨u, rfl, hk⟩
  exact hk

/-- What 'readDict' has made of the first k terms. -/
structure DSt (w wr : World) (dt : Obj) (next : Int) (I : Nat → Int) (X : Nat → ByteArray) (R : Nat → Int) (k : Nat) (V : Nat → Nat) : Prop where
  box : wr.heap[w.heap.size]? = some dt
  tab : TabAt wr (w.heap.size + 1 + 1 + 1) next (w.heap.size + 1) (w.heap.size + 1 + 1)
  m1 : MapAt wr (w.heap.size + 1) k (fun j => .string (X j)) (fun j => .pointer (some ⟨V j, 0, none⟩))
  m2 : MapAt wr (w.heap.size + 1 + 1) k (fun j => .int .i64 (I j)) (fun j => .pointer (some ⟨V j, 0, none⟩))
  each : ∀ j, j < k → TermAt wr (V j) (I j) (X j) (R j)
  below : Below w.heap.size w wr
  ge : ∀ j, j < k → w.heap.size ≤ V j

theorem DSt.start (w : World) (next : Int) (a : Option Addr) (n c : Nat) (I : Nat → Int) (X : Nat → ByteArray) (R : Nat → Int) (V : Nat → Nat) :
    DSt w ((((w.alloc (.cells #[.int .i64 next, .slice a n c] 24)).alloc (.map #[] 0)).alloc (.map #[] 0)).alloc (.cells #[.int .i64 next, .map (some (w.heap.size + 1)), .map (some (w.heap.size + 1 + 1))] 89)) (.cells #[.int .i64 next, .slice a n c] 24) next I X R 0 V := by
  have e1 : (w.alloc (.cells #[.int .i64 next, .slice a n c] 24)).heap.size = w.heap.size + 1 := by simp
  have e2 : ((w.alloc (.cells #[.int .i64 next, .slice a n c] 24)).alloc (.map #[] 0)).heap.size = w.heap.size + 1 + 1 := by simp
  have e3 : (((w.alloc (.cells #[.int .i64 next, .slice a n c] 24)).alloc (.map #[] 0)).alloc (.map #[] 0)).heap.size = w.heap.size + 1 + 1 + 1 := by simp
  have b0 := blk_alloc_new w (.cells #[.int .i64 next, .slice a n c] 24)
  have b1 := mapAt_new (w.alloc (.cells #[.int .i64 next, .slice a n c] 24)) (fun j => .string (X j)) (fun j => .pointer (some ⟨V j, 0, none⟩))
  have b2 := mapAt_new ((w.alloc (.cells #[.int .i64 next, .slice a n c] 24)).alloc (.map #[] 0)) (fun j => .int .i64 (I j)) (fun j => .pointer (some ⟨V j, 0, none⟩))
  have b3 := blk_alloc_new (((w.alloc (.cells #[.int .i64 next, .slice a n c] 24)).alloc (.map #[] 0)).alloc (.map #[] 0)) (.cells #[.int .i64 next, .map (some (w.heap.size + 1)), .map (some (w.heap.size + 1 + 1))] 89)
  rw [e1] at b1
  rw [e2] at b2
  rw [e3] at b3
  refine ⟨?_, b3, b1.kept ?_, b2.kept ((below_alloc _ _).block _ (by omega)), fun j hj => absurd hj (Nat.not_lt_zero _), (((below_alloc _ _).alloc (by simp) _).alloc (by simp; omega) _).alloc (by simp; omega) _, fun j hj => absurd hj (Nat.not_lt_zero _)⟩
  · exact ((below_alloc _ _).block _ (by omega)).trans (((below_alloc _ _).block _ (by omega)).trans (((below_alloc _ _).block _ (by omega)).trans b0))
  · exact ((below_alloc _ _).block _ (by omega)).trans ((below_alloc _ _).block _ (by omega))

theorem DSt.keep {w wr w' : World} {dt : Obj} {next : Int} {I : Nat → Int} {X : Nat → ByteArray} {R : Nat → Int} {k : Nat} {V : Nat → Nat} (h : DSt w wr dt next I X R k V) (hb : Below wr.heap.size wr w') : DSt w w' dt next I X R k V := by
  have hlt := (Array.getElem?_eq_some_iff.1 h.box).1
  exact ⟨(hb.block _ hlt).trans h.box, (hb.block _ h.tab.lt).trans h.tab, h.m1.kept (hb.block _ h.m1.lt), h.m2.kept (hb.block _ h.m2.lt), fun j hj => (hb.block _ (h.each j hj).lt).trans (h.each j hj), h.below.trans (hb.mono h.below.size), h.ge⟩

theorem DSt.next {w wr w' : World} {cs : Array Value} {t : TypeId} {fr : Nat × Nat} {next : Int} {I : Nat → Int} {X : Nat → ByteArray} {R : Nat → Int} {k p : Nat} {V : Nat → Nat} {e : Ending} (h : DSt w wr (.cells cs t fr) next I X R k V) (hp : TermAt wr p (I k) (X k) (R k)) (hpg : w.heap.size ≤ p)
    (hr : PutRet wr (w.heap.size + 1) (w.heap.size + 1 + 1) k p (I k) (X k) I X V e w') : DSt w w' (.cells cs t fr) next I X R (k + 1) (fun j => if j = k then p else V j) := by
  obtain ⟨_, ⟨w2, g1, g2⟩, m1, m2⟩ := hr
  have keep : ∀ b, b < wr.heap.size → b ≠ w.heap.size + 1 → b ≠ w.heap.size + 1 + 1 → w'.heap[b]? = wr.heap[b]? := fun b hb h1 h2 =>
    (g2.block b (Nat.lt_of_lt_of_le hb g1.size) (fun e => h2 (by injection e))).trans (g1.block b hb (fun e => h1 (by injection e)))
  have hlt := (Array.getElem?_eq_some_iff.1 h.box).1
  have ek : ∀ (T : Type) (u : Nat → T) (j : Nat), (if j = k then u k else u j) = u j := fun T u j => by split <;> simp_all
  refine ⟨(keep _ hlt (by omega) (by omega)).trans h.box, (keep _ h.tab.lt (by omega) (by omega)).trans h.tab, m1.congr (fun j _ => by rw [ek]) (fun _ _ => rfl), m2.congr (fun j _ => by rw [ek]) (fun _ _ => rfl), fun j hj => ?_, ?_, fun j hj => ?_⟩
  · by_cases e : j = k
    · subst e
      rw [if_pos rfl]
      exact (keep p hp.lt (h.m1.ne_cells hp) (h.m2.ne_cells hp)).trans hp
    · rw [if_neg e]
      have q := h.each j (by omega)
      exact (keep _ q.lt (h.m1.ne_cells q) (h.m2.ne_cells q)).trans q
  · exact ((h.below.drew.grown g1 h.below.size (fun b e => by injection e with e; omega)).drew).grown g2 (Nat.le_trans h.below.size g1.size) (fun b e => by injection e with e; omega)
  · by_cases e : j = k
    · subst e; rw [if_pos rfl]; exact hpg
    · rw [if_neg e]; exact h.ge j (by omega)

/-- What 'readDict' gives. -/
def ReadRet (w : World) (next : Int) (n : Nat) (I : Nat → Int) (X : Nat → ByteArray) (R : Nat → Int) (e : Ending) (w' : World) : Prop :=
  (¬ VDt next n I X R ∧ e = .returned (.tuple #[.pointer none, .bool false]) ∧ Below w.heap.size w w') ∨
  (VDt next n I X R ∧ ∃ V dt, e = .returned (.tuple #[.pointer (some ⟨w.heap.size + 1 + 1 + 1, 0, none⟩), .bool true]) ∧ DSt w w' dt next I X R n V)

theorem mayT_of {next : Int} {I : Nat → Int} {X : Nat → ByteArray} {R : Nat → Int} {k : Nat} : (MayT next k I (I k) (X k) (R k) ∧ (0 < k → Op.bytesLess (X (k - 1)).toList (X k).toList = true)) ↔ (GoodT next I X R k ∧ FreshT I k) := by
  unfold MayT GoodT FreshT txB nuB
  simp only [Bool.and_eq_true, decide_eq_true_eq]
  constructor
  · rintro ⟨⟨⟨h1, h2⟩, ⟨h3, h4⟩, h5, h6, h7⟩, h8⟩
    exact ⟨⟨⟨by omega, by omega⟩, ⟨h5, h6⟩, ⟨h3, h4⟩, h8⟩, h7⟩
  · rintro ⟨⟨⟨h1, h2⟩, ⟨h5, h6⟩, ⟨h3, h4⟩, h8⟩, h7⟩
    exact ⟨⟨⟨by omega, by omega⟩, ⟨h3, h4⟩, h5, h6, h7⟩, h8⟩

theorem mayHold_at (b : Bool) (tb B1 B2 k : Nat) (next i r : Int) (x : ByteArray) (I : Nat → Int) (V : Nat → Nat) (w : World) (ht : TabAt w tb next B1 B2) (hm : MapAt w B2 k (fun j => .int .i64 (I j)) (fun j => .pointer (some ⟨V j, 0, none⟩))) (hd : ∀ j, j < k → ∀ q, q < k → I j = I q → j = q) (hb : b = true ↔ MayT next k I i x r) :
    Calls Try.prog 56 #[.pointer (some ⟨tb, 0, none⟩), .agg #[.int .i64 i, .string x, .int .i64 r]] w fun e w' => e = .returned (.bool b) ∧ Below w.heap.size w w' := by
  refine (mayHold_any tb B1 B2 k next i r x I V w ht hm hd).mono ?_
  rintro e w' ⟨b', rfl, hiff, hbel⟩
  refine ⟨?_, hbel⟩
  have : b' = b := by rw [Bool.eq_iff_iff, hiff, hb]
  rw [this]

theorem fresh_inj {I : Nat → Int} {k : Nat} (h : ∀ m, m < k → FreshT I m) : ∀ j, j < k → ∀ q, q < k → I j = I q → j = q := by
  intro j hj q hq e
  rcases Nat.lt_trichotomy j q with h1 | h1 | h1
  · exact absurd e (h q hq j h1)
  · exact h1
  · exact absurd e.symm (h j hj q h1)

set_option maxHeartbeats 8000000 in
theorem readDict_any (next : Int) (a : Option Addr) (n c : Nat) (I : Nat → Int) (X : Nat → ByteArray) (R : Nat → Int) (w : World) (h : RdT w a n I X R) (hn : n ≤ 1048576) :
    Calls Try.prog 38 #[.agg #[.int .i64 next, .slice a n c]] w (ReadRet w next n I X R) := by
  have hmm := @run_makeMap Try.prog
  cases hnu : nuB next with
  | false =>
    go_enter Try.func38, Try.ntmps38
    go_wp2_with (first
      | (go_at_call 55; refine (isNu_at _ _ hnu _).mono ?_; rintro e w1 ⟨rfl, rfl⟩)
      | fail)
    refine bodyPost_ret (v := .tuple #[.pointer none, .bool false]) (by simp [results, Try.results38, go_sem]) rfl (.inl ⟨(fun q => by have := q.1; rw [hnu] at this; cases this), rfl, below_alloc _ _⟩)
  | true =>
  by_cases h12 : 1200 < (n : Int)
  · go_enter Try.func38, Try.ntmps38
    go_wp2_with (first
      | (go_at_call 55; refine (isNu_at _ _ hnu _).mono ?_; rintro e w1 ⟨rfl, rfl⟩)
      | fail)
    refine bodyPost_ret (v := .tuple #[.pointer none, .bool false]) (by simp [results, Try.results38, go_sem]) rfl (.inl ⟨(fun q => by have := q.2.1; omega), rfl, below_alloc _ _⟩)
  have H0 : Hid (DSt w ((((w.alloc (.cells #[.int .i64 next, .slice a n c] 24)).alloc (.map #[] 0)).alloc (.map #[] 0)).alloc (.cells #[.int .i64 next, .map (some (w.heap.size + 1)), .map (some (w.heap.size + 1 + 1))] 89)) (.cells #[.int .i64 next, .slice a n c] 24) next I X R 0 (fun _ => 0)) := DSt.start w next a n c I X R _
  go_enter Try.func38, Try.ntmps38
  go_wp2_with (first
    | (go_at_call 55; refine (isNu_at _ _ hnu _).mono ?_; rintro e w1 ⟨rfl, rfl⟩)
    | fail)
  go_loopw [26] (fun i wr => ∃ (k : Nat) (V : Nat → Nat), k ≤ n ∧ i = .int .i64 k ∧ (∀ m, m < k → GoodT next I X R m ∧ FreshT I m) ∧ DSt w wr (.cells #[.int .i64 next, .slice a n c] 24) next I X R k V) (fun i _ => n - (intOf i).toNat)
  case atStart => exact ⟨0, _, Nat.zero_le _, rfl, fun m hm => absurd hm (Nat.not_lt_zero _), H0.out⟩
  case round =>
    obtain ⟨k, V, hk, rfl, hgood, hst⟩ := hrel
    clear H0 hmm
    have HG : Hid (∀ m, m < k → GoodT next I X R m ∧ FreshT I m) := hgood
    have HN : Hid (nuB next = true) := hnu
    have HS : Hid (DSt w wr (.cells #[.int .i64 next, .slice a n c] 24) next I X R k V) := hst
    have HSZ : Hid (w.heap.size ≤ wr.heap.size) := hst.below.size
    clear hgood hnu
    by_cases hlt : k < n
    · have hne : ¬ n = 0 := by omega
      have HR : Hid (RdT wr a n I X R) := h.below hst.below
      have h' := h.below hst.below
      rcases h' with h' | ⟨b, o, rfl, hc⟩
      · exact absurd h' hne
      obtain ⟨c1, c2, c3⟩ := hc k hlt
      clear hc h hst
      go_wp2
      have HW : Hid (DSt w (wr.alloc (.cells #[.int .i64 (I k), .string (X k), .int .i64 (R k)] 57)) (.cells #[.int .i64 next, .slice (some ⟨b, o, none⟩) n c] 24) next I X R k V ∧ TermAt (wr.alloc (.cells #[.int .i64 (I k), .string (X k), .int .i64 (R k)] 57)) wr.heap.size (I k) (X k) (R k) ∧ RdT (wr.alloc (.cells #[.int .i64 (I k), .string (X k), .int .i64 (R k)] 57)) (some ⟨b, o, none⟩) n I X R) := ⟨HS.out.keep (below_alloc _ _), blk_alloc_new _ _, HR.out.below (below_alloc _ _)⟩
      clear c1 c2 c3 HS HR
      generalize (wr.alloc (.cells #[.int .i64 (I k), .string (X k), .int .i64 (R k)] 57)) = wt at HW ⊢
      have HTP : Hid (w.heap.size ≤ wr.heap.size) := HSZ.out
      clear HSZ
      generalize wr.heap.size = tp at HW HTP ⊢
      have HC : Hid (∀ w2, Below wt.drew.heap.size wt.drew w2 → DSt w w2 (.cells #[.int .i64 next, .slice (some ⟨b, o, none⟩) n c] 24) next I X R k V ∧ TermAt w2 tp (I k) (X k) (R k) ∧ RdT w2 (some ⟨b, o, none⟩) n I X R) := fun w2 hb0 => by
        have hb : Below wt.heap.size wt w2 := (Below.refl _ _).drew.trans hb0
        exact ⟨HW.out.1.keep hb, (hb.block _ HW.out.2.1.lt).trans HW.out.2.1, HW.out.2.2.below hb⟩
      obtain ⟨t0, t1, t2⟩ := HW.out.2.1.cells
      by_cases hmay : MayT next k I (I k) (X k) (R k)
      case neg =>
        have HBAD : Hid (¬ VDt next n I X R) := fun q => hmay (mayT_of.2 (q.2.2 k hlt)).1
        have HM : Hid (Calls Try.prog 56 #[.pointer (some ⟨w.heap.size + 1 + 1 + 1, 0, none⟩), .agg #[.int .i64 (I k), .string (X k), .int .i64 (R k)]] wt.drew fun e w' => e = .returned (.bool false) ∧ Below wt.drew.heap.size wt.drew w') := mayHold_at false _ _ _ k next (I k) (R k) (X k) I V wt.drew HW.out.1.tab HW.out.1.m2 (fresh_inj fun m hm => (HG.out m hm).2) (Iff.intro (fun e => by cases e) (fun p => absurd p hmay))
        refine wp_region_late (S := (fun w' => w'.cell? ⟨tp, 0, none⟩ = some (.int .i64 (I k)) ∧ w'.cell? ⟨tp, 1, none⟩ = some (.string (X k)) ∧ w'.cell? ⟨tp, 2, none⟩ = some (.int .i64 (R k)))) 19 (by kernel_rfl) ?_ (fun hHeld => ?_)
        · ((try dsimp only); go_keep)
        refine late_take 0 .zero (v := ?_) (by kernel_rfl) (by kernel_rfl) (by kernel_rfl) (by kernel_rfl) (fun _ _ _ h => h) (by rfl) ?_ (by assumption) ?_
        rotate_left
        · (intro w hSw; (try dsimp only at hSw); go_simp) <;> with_reducible rfl
        simp only [Act.put, List.setIfInBounds_toArray, List.set_cons_zero, List.set_cons_succ]
        refine late_take 1 (.succ .zero) (v := ?_) (by kernel_rfl) (by kernel_rfl) (by kernel_rfl) (by kernel_rfl) (fun _ _ _ h => h) (by rfl) ?_ (by assumption) ?_
        rotate_left
        · (intro w hSw; (try dsimp only at hSw); go_simp) <;> with_reducible rfl
        simp only [Act.put, List.setIfInBounds_toArray, List.set_cons_zero, List.set_cons_succ]
        refine late_one 2 (.succ (.succ .zero)) (by kernel_rfl) (fun K hK => ?_)
        (refine step_may (by rfl) 31 32 (by rfl) _ _ (by rfl) (by rfl) ?_; refine HM.out.mono ?_; rintro e w2 ⟨rfl, hb2⟩; refine ⟨_, rfl, ?_⟩; obtain ⟨z0, z1, z2⟩ := (HC.out w2 hb2).2.1.cells)
        refine hK.out _ _ ?_ (fun hHeld2 => ?_)
        · (intro _; (try dsimp only); go_keep)
        clear hK K
        replace hHeld := hHeld2 (by decide)
        clear hHeld2
        try simp only [Act.put, List.setIfInBounds_toArray, List.set_cons_zero, List.set_cons_succ]
        refine late_take 3 (.succ (.succ (.succ .zero))) (v := ?_) (by kernel_rfl) (by kernel_rfl) (by kernel_rfl) (by kernel_rfl) (fun _ _ _ h => h) (by rfl) ?_ (by assumption) ?_
        rotate_left
        · (intro w hSw; (try dsimp only at hSw); go_simp) <;> with_reducible rfl
        simp only [Act.put, List.setIfInBounds_toArray, List.set_cons_zero, List.set_cons_succ]
        refine late_take 4 (.succ (.succ (.succ (.succ .zero)))) (v := ?_) (by kernel_rfl) (by kernel_rfl) (by kernel_rfl) (by kernel_rfl) (fun _ _ _ h => h) (by rfl) ?_ (by assumption) ?_
        rotate_left
        · (intro w hSw; (try dsimp only at hSw); go_simp) <;> with_reducible rfl
        simp only [Act.put, List.setIfInBounds_toArray, List.set_cons_zero, List.set_cons_succ]
        refine late_skip0 5 (.succ (.succ (.succ (.succ (.succ .zero))))) (by kernel_rfl) (by kernel_rfl) (by kernel_rfl) (by kernel_rfl) (fun _ _ _ h => h) (by rfl) (by assumption) ?_
        simp only [Act.put, List.setIfInBounds_toArray, List.set_cons_zero, List.set_cons_succ]
        refine late_skip0 6 (.succ (.succ (.succ (.succ (.succ (.succ .zero)))))) (by kernel_rfl) (by kernel_rfl) (by kernel_rfl) (by kernel_rfl) (fun _ _ _ h => h) (by rfl) (by assumption) ?_
        simp only [Act.put, List.setIfInBounds_toArray, List.set_cons_zero, List.set_cons_succ]
        refine late_skip0 7 (.succ (.succ (.succ (.succ (.succ (.succ (.succ .zero))))))) (by kernel_rfl) (by kernel_rfl) (by kernel_rfl) (by kernel_rfl) (fun _ _ _ h => h) (by rfl) (by assumption) ?_
        simp only [Act.put, List.setIfInBounds_toArray, List.set_cons_zero, List.set_cons_succ]
        refine late_skip0 8 (.succ (.succ (.succ (.succ (.succ (.succ (.succ (.succ .zero)))))))) (by kernel_rfl) (by kernel_rfl) (by kernel_rfl) (by kernel_rfl) (fun _ _ _ h => h) (by rfl) (by assumption) ?_
        simp only [Act.put, List.setIfInBounds_toArray, List.set_cons_zero, List.set_cons_succ]
        refine late_skip0 9 (.succ (.succ (.succ (.succ (.succ (.succ (.succ (.succ (.succ .zero))))))))) (by kernel_rfl) (by kernel_rfl) (by kernel_rfl) (by kernel_rfl) (fun _ _ _ h => h) (by rfl) (by assumption) ?_
        simp only [Act.put, List.setIfInBounds_toArray, List.set_cons_zero, List.set_cons_succ]
        refine late_skip0 10 (.succ (.succ (.succ (.succ (.succ (.succ (.succ (.succ (.succ (.succ .zero)))))))))) (by kernel_rfl) (by kernel_rfl) (by kernel_rfl) (by kernel_rfl) (fun _ _ _ h => h) (by rfl) (by assumption) ?_
        simp only [Act.put, List.setIfInBounds_toArray, List.set_cons_zero, List.set_cons_succ]
        refine late_skip0 11 (.succ (.succ (.succ (.succ (.succ (.succ (.succ (.succ (.succ (.succ (.succ .zero))))))))))) (by kernel_rfl) (by kernel_rfl) (by kernel_rfl) (by kernel_rfl) (fun _ _ _ h => h) (by rfl) (by assumption) ?_
        simp only [Act.put, List.setIfInBounds_toArray, List.set_cons_zero, List.set_cons_succ]
        refine late_skip0 12 (.succ (.succ (.succ (.succ (.succ (.succ (.succ (.succ (.succ (.succ (.succ (.succ .zero)))))))))))) (by kernel_rfl) (by kernel_rfl) (by kernel_rfl) (by kernel_rfl) (fun _ _ _ h => h) (by rfl) (by assumption) ?_
        simp only [Act.put, List.setIfInBounds_toArray, List.set_cons_zero, List.set_cons_succ]
        refine late_skip0 13 (.succ (.succ (.succ (.succ (.succ (.succ (.succ (.succ (.succ (.succ (.succ (.succ (.succ .zero))))))))))))) (by kernel_rfl) (by kernel_rfl) (by kernel_rfl) (by kernel_rfl) (fun _ _ _ h => h) (by rfl) (by assumption) ?_
        simp only [Act.put, List.setIfInBounds_toArray, List.set_cons_zero, List.set_cons_succ]
        refine late_skip0 14 (.succ (.succ (.succ (.succ (.succ (.succ (.succ (.succ (.succ (.succ (.succ (.succ (.succ (.succ .zero)))))))))))))) (by kernel_rfl) (by kernel_rfl) (by kernel_rfl) (by kernel_rfl) (fun _ _ _ h => h) (by rfl) (by assumption) ?_
        simp only [Act.put, List.setIfInBounds_toArray, List.set_cons_zero, List.set_cons_succ]
        refine late_skip0 15 (.succ (.succ (.succ (.succ (.succ (.succ (.succ (.succ (.succ (.succ (.succ (.succ (.succ (.succ (.succ .zero))))))))))))))) (by kernel_rfl) (by kernel_rfl) (by kernel_rfl) (by kernel_rfl) (fun _ _ _ h => h) (by rfl) (by assumption) ?_
        simp only [Act.put, List.setIfInBounds_toArray, List.set_cons_zero, List.set_cons_succ]
        refine late_skip0 16 (.succ (.succ (.succ (.succ (.succ (.succ (.succ (.succ (.succ (.succ (.succ (.succ (.succ (.succ (.succ (.succ .zero)))))))))))))))) (by kernel_rfl) (by kernel_rfl) (by kernel_rfl) (by kernel_rfl) (fun _ _ _ h => h) (by rfl) (by assumption) ?_
        simp only [Act.put, List.setIfInBounds_toArray, List.set_cons_zero, List.set_cons_succ]
        refine late_skip0 17 (.succ (.succ (.succ (.succ (.succ (.succ (.succ (.succ (.succ (.succ (.succ (.succ (.succ (.succ (.succ (.succ (.succ .zero))))))))))))))))) (by kernel_rfl) (by kernel_rfl) (by kernel_rfl) (by kernel_rfl) (fun _ _ _ h => h) (by rfl) (by assumption) ?_
        simp only [Act.put, List.setIfInBounds_toArray, List.set_cons_zero, List.set_cons_succ]
        refine late_skip0 18 (.succ (.succ (.succ (.succ (.succ (.succ (.succ (.succ (.succ (.succ (.succ (.succ (.succ (.succ (.succ (.succ (.succ (.succ .zero)))))))))))))))))) (by kernel_rfl) (by kernel_rfl) (by kernel_rfl) (by kernel_rfl) (fun _ _ _ h => h) (by rfl) (by assumption) ?_
        simp only [Act.put, List.setIfInBounds_toArray, List.set_cons_zero, List.set_cons_succ]
        refine late_one 19 (.succ (.succ (.succ (.succ (.succ (.succ (.succ (.succ (.succ (.succ (.succ (.succ (.succ (.succ (.succ (.succ (.succ (.succ (.succ .zero))))))))))))))))))) (by kernel_rfl) (fun K hK => ?_)
        go_simp
        refine hK.out _ _ ?_ (fun hHeld2 => ?_)
        · (intro hne; exact absurd rfl hne)
        clear hK K hHeld2
        refine wpLate_done (by kernel_rfl) ?_ _
        have HX : Hid (DSt w w2 (.cells #[.int .i64 next, .slice (some ⟨b, o, none⟩) n c] 24) next I X R k V ∧ TermAt w2 tp (I k) (X k) (R k) ∧ RdT w2 (some ⟨b, o, none⟩) n I X R) := HC.out w2 hb2
        have HBW : Hid (Below w.heap.size w w2) := HX.out.1.below
        clear HC HM hb2 z0 z1 z2 t0 t1 t2
        go_wp2
        refine bodyPost_ret (v := .tuple #[.pointer none, .bool false]) (by simp [results, Try.results38, go_sem]) rfl (.inl ⟨HBAD.out, rfl, HBW.out⟩)
      case pos =>
      have HM : Hid (Calls Try.prog 56 #[.pointer (some ⟨w.heap.size + 1 + 1 + 1, 0, none⟩), .agg #[.int .i64 (I k), .string (X k), .int .i64 (R k)]] wt.drew fun e w' => e = .returned (.bool true) ∧ Below wt.drew.heap.size wt.drew w') := mayHold_at true _ _ _ k next (I k) (R k) (X k) I V wt.drew HW.out.1.tab HW.out.1.m2 (fresh_inj fun m hm => (HG.out m hm).2) (Iff.intro (fun _ => hmay) (fun _ => rfl))
      have HMAY : Hid (MayT next k I (I k) (X k) (R k)) := hmay
      clear hmay
      by_cases hk0 : k = 0
      · have HGK : Hid (GoodT next I X R k ∧ FreshT I k) := mayT_of.1 ⟨HMAY.out, fun h => by omega⟩
        have hdk : decide ((0 : Int) < (k : Int)) = false := by simp; omega
        have hdn : decide (0 < k) = false := by simp; omega
        clear hk0
        refine wp_region_late (S := (fun w' => w'.cell? ⟨tp, 0, none⟩ = some (.int .i64 (I k)) ∧ w'.cell? ⟨tp, 1, none⟩ = some (.string (X k)) ∧ w'.cell? ⟨tp, 2, none⟩ = some (.int .i64 (R k)))) 19 (by kernel_rfl) ?_ (fun hHeld => ?_)
        · ((try dsimp only); go_keep)
        refine late_take 0 .zero (v := ?_) (by kernel_rfl) (by kernel_rfl) (by kernel_rfl) (by kernel_rfl) (fun _ _ _ h => h) (by rfl) ?_ (by assumption) ?_
        rotate_left
        · (intro w hSw; (try dsimp only at hSw); go_simp) <;> with_reducible rfl
        simp only [Act.put, List.setIfInBounds_toArray, List.set_cons_zero, List.set_cons_succ]
        refine late_take 1 (.succ .zero) (v := ?_) (by kernel_rfl) (by kernel_rfl) (by kernel_rfl) (by kernel_rfl) (fun _ _ _ h => h) (by rfl) ?_ (by assumption) ?_
        rotate_left
        · (intro w hSw; (try dsimp only at hSw); go_simp) <;> with_reducible rfl
        simp only [Act.put, List.setIfInBounds_toArray, List.set_cons_zero, List.set_cons_succ]
        refine late_one 2 (.succ (.succ .zero)) (by kernel_rfl) (fun K hK => ?_)
        (refine step_may (by rfl) 31 32 (by rfl) _ _ (by rfl) (by rfl) ?_; refine HM.out.mono ?_; rintro e w2 ⟨rfl, hb2⟩; refine ⟨_, rfl, ?_⟩; obtain ⟨z0, z1, z2⟩ := (HC.out w2 hb2).2.1.cells)
        refine hK.out _ _ ?_ (fun hHeld2 => ?_)
        · (intro _; (try dsimp only); go_keep)
        clear hK K
        replace hHeld := hHeld2 (by decide)
        clear hHeld2
        try simp only [Act.put, List.setIfInBounds_toArray, List.set_cons_zero, List.set_cons_succ]
        refine late_take 3 (.succ (.succ (.succ .zero))) (v := ?_) (by kernel_rfl) (by kernel_rfl) (by kernel_rfl) (by kernel_rfl) (fun _ _ _ h => h) (by rfl) ?_ (by assumption) ?_
        rotate_left
        · (intro w hSw; (try dsimp only at hSw); go_simp) <;> with_reducible rfl
        simp only [Act.put, List.setIfInBounds_toArray, List.set_cons_zero, List.set_cons_succ]
        refine late_take 4 (.succ (.succ (.succ (.succ .zero)))) (v := ?_) (by kernel_rfl) (by kernel_rfl) (by kernel_rfl) (by kernel_rfl) (fun _ _ _ h => h) (by rfl) ?_ (by assumption) ?_
        rotate_left
        · (intro w hSw; (try dsimp only at hSw); go_simp) <;> with_reducible rfl
        simp only [Act.put, List.setIfInBounds_toArray, List.set_cons_zero, List.set_cons_succ]
        refine late_take 5 (.succ (.succ (.succ (.succ (.succ .zero))))) (v := ?_) (by kernel_rfl) (by kernel_rfl) (by kernel_rfl) (by kernel_rfl) (fun _ _ _ h => h) (by rfl) ?_ (by assumption) ?_
        rotate_left
        · (intro w hSw; (try dsimp only at hSw); go_simp) <;> with_reducible rfl
        simp only [Act.put, List.setIfInBounds_toArray, List.set_cons_zero, List.set_cons_succ]
        refine late_take 6 (.succ (.succ (.succ (.succ (.succ (.succ .zero)))))) (v := ?_) (by kernel_rfl) (by kernel_rfl) (by kernel_rfl) (by kernel_rfl) (fun _ _ _ h => h) (by rfl) ?_ (by assumption) ?_
        rotate_left
        · (intro w hSw; (try dsimp only at hSw); go_simp) <;> with_reducible rfl
        simp only [Act.put, List.setIfInBounds_toArray, List.set_cons_zero, List.set_cons_succ]
        refine late_take 7 (.succ (.succ (.succ (.succ (.succ (.succ (.succ .zero))))))) (v := ?_) (by kernel_rfl) (by kernel_rfl) (by kernel_rfl) (by kernel_rfl) (fun _ _ _ h => h) (by rfl) ?_ (by assumption) ?_
        rotate_left
        · (intro w hSw; (try dsimp only at hSw); go_simp) <;> with_reducible rfl
        simp only [Act.put, List.setIfInBounds_toArray, List.set_cons_zero, List.set_cons_succ]
        refine late_skip0 8 (.succ (.succ (.succ (.succ (.succ (.succ (.succ (.succ .zero)))))))) (by kernel_rfl) (by kernel_rfl) (by kernel_rfl) (by kernel_rfl) (fun _ _ _ h => h) (by rfl) (by assumption) ?_
        simp only [Act.put, List.setIfInBounds_toArray, List.set_cons_zero, List.set_cons_succ]
        refine late_skip0 9 (.succ (.succ (.succ (.succ (.succ (.succ (.succ (.succ (.succ .zero))))))))) (by kernel_rfl) (by kernel_rfl) (by kernel_rfl) (by kernel_rfl) (fun _ _ _ h => h) (by rfl) (by assumption) ?_
        simp only [Act.put, List.setIfInBounds_toArray, List.set_cons_zero, List.set_cons_succ]
        refine late_skip0 10 (.succ (.succ (.succ (.succ (.succ (.succ (.succ (.succ (.succ (.succ .zero)))))))))) (by kernel_rfl) (by kernel_rfl) (by kernel_rfl) (by kernel_rfl) (fun _ _ _ h => h) (by rfl) (by assumption) ?_
        simp only [Act.put, List.setIfInBounds_toArray, List.set_cons_zero, List.set_cons_succ]
        refine late_skip0 11 (.succ (.succ (.succ (.succ (.succ (.succ (.succ (.succ (.succ (.succ (.succ .zero))))))))))) (by kernel_rfl) (by kernel_rfl) (by kernel_rfl) (by kernel_rfl) (fun _ _ _ h => h) (by rfl) (by assumption) ?_
        simp only [Act.put, List.setIfInBounds_toArray, List.set_cons_zero, List.set_cons_succ]
        refine late_skip0 12 (.succ (.succ (.succ (.succ (.succ (.succ (.succ (.succ (.succ (.succ (.succ (.succ .zero)))))))))))) (by kernel_rfl) (by kernel_rfl) (by kernel_rfl) (by kernel_rfl) (fun _ _ _ h => h) (by rfl) (by assumption) ?_
        simp only [Act.put, List.setIfInBounds_toArray, List.set_cons_zero, List.set_cons_succ]
        refine late_skip0 13 (.succ (.succ (.succ (.succ (.succ (.succ (.succ (.succ (.succ (.succ (.succ (.succ (.succ .zero))))))))))))) (by kernel_rfl) (by kernel_rfl) (by kernel_rfl) (by kernel_rfl) (fun _ _ _ h => h) (by rfl) (by assumption) ?_
        simp only [Act.put, List.setIfInBounds_toArray, List.set_cons_zero, List.set_cons_succ]
        refine late_skip0 14 (.succ (.succ (.succ (.succ (.succ (.succ (.succ (.succ (.succ (.succ (.succ (.succ (.succ (.succ .zero)))))))))))))) (by kernel_rfl) (by kernel_rfl) (by kernel_rfl) (by kernel_rfl) (fun _ _ _ h => h) (by rfl) (by assumption) ?_
        simp only [Act.put, List.setIfInBounds_toArray, List.set_cons_zero, List.set_cons_succ]
        refine late_skip0 15 (.succ (.succ (.succ (.succ (.succ (.succ (.succ (.succ (.succ (.succ (.succ (.succ (.succ (.succ (.succ .zero))))))))))))))) (by kernel_rfl) (by kernel_rfl) (by kernel_rfl) (by kernel_rfl) (fun _ _ _ h => h) (by rfl) (by assumption) ?_
        simp only [Act.put, List.setIfInBounds_toArray, List.set_cons_zero, List.set_cons_succ]
        refine late_skip0 16 (.succ (.succ (.succ (.succ (.succ (.succ (.succ (.succ (.succ (.succ (.succ (.succ (.succ (.succ (.succ (.succ .zero)))))))))))))))) (by kernel_rfl) (by kernel_rfl) (by kernel_rfl) (by kernel_rfl) (fun _ _ _ h => h) (by rfl) (by assumption) ?_
        simp only [Act.put, List.setIfInBounds_toArray, List.set_cons_zero, List.set_cons_succ]
        refine late_skip0 17 (.succ (.succ (.succ (.succ (.succ (.succ (.succ (.succ (.succ (.succ (.succ (.succ (.succ (.succ (.succ (.succ (.succ .zero))))))))))))))))) (by kernel_rfl) (by kernel_rfl) (by kernel_rfl) (by kernel_rfl) (fun _ _ _ h => h) (by rfl) (by assumption) ?_
        simp only [Act.put, List.setIfInBounds_toArray, List.set_cons_zero, List.set_cons_succ]
        refine late_take 18 (.succ (.succ (.succ (.succ (.succ (.succ (.succ (.succ (.succ (.succ (.succ (.succ (.succ (.succ (.succ (.succ (.succ (.succ .zero)))))))))))))))))) (v := ?_) (by kernel_rfl) (by kernel_rfl) (by kernel_rfl) (by kernel_rfl) (fun _ _ _ h => h) (by rfl) ?_ (by assumption) ?_
        rotate_left
        · (intro w hSw; (try dsimp only at hSw); go_simp) <;> with_reducible rfl
        simp only [Act.put, List.setIfInBounds_toArray, List.set_cons_zero, List.set_cons_succ]
        refine late_one 19 (.succ (.succ (.succ (.succ (.succ (.succ (.succ (.succ (.succ (.succ (.succ (.succ (.succ (.succ (.succ (.succ (.succ (.succ (.succ .zero))))))))))))))))))) (by kernel_rfl) (fun K hK => ?_)
        go_simp
        refine hK.out _ _ ?_ (fun hHeld2 => ?_)
        · (intro hne; exact absurd rfl hne)
        clear hK K hHeld2
        refine wpLate_done (by kernel_rfl) ?_ _
        have HX : Hid (DSt w w2 (.cells #[.int .i64 next, .slice (some ⟨b, o, none⟩) n c] 24) next I X R k V ∧ TermAt w2 tp (I k) (X k) (R k) ∧ RdT w2 (some ⟨b, o, none⟩) n I X R) := HC.out w2 hb2
        have HBW : Hid (Below w.heap.size w w2) := HX.out.1.below
        clear z0 z1 z2 t0 t1 t2
        clear HC HM hb2
        go_wp2_with fail
        refine (put_any _ _ _ k tp next (I k) (R k) (X k) I X V _ HX.out.1.tab HX.out.2.1 (by omega) HX.out.1.m1 HX.out.1.m2 (fun j hj => less_ne (asc_less (k := k + 1) (fun m hm h0 => if e : m = k then by subst e; exact HGK.out.1.2.2.2 h0 else ((HG.out m (by omega)).1.2.2.2 h0)) k (by omega) j hj)) HGK.out.2).mono ?_
        intro e w4 hput
        obtain ⟨v4, rfl⟩ := hput.1
        have HZ : Hid (DSt w w4 (.cells #[.int .i64 next, .slice (some ⟨b, o, none⟩) n c] 24) next I X R (k + 1) (fun j => if j = k then tp else V j)) := HX.out.1.next HX.out.2.1 HTP.out hput
        clear hput
        go_wp2
        go_roundw
        case rel =>
          refine ⟨k + 1, _, by omega, by go_num, fun m hm => ?_, HZ.out⟩
          by_cases e : m = k
          · subst e; exact HGK.out
          · exact HG.out m (by omega)
        case measure => simp [intOf]; omega
      · obtain ⟨p, hkp⟩ : ∃ p, k = p + 1 := ⟨k - 1, by omega⟩
        have hp1 : p < n := by omega
        have hdk : decide ((0 : Int) < (k : Int)) = true := by simp; omega
        have hdn : decide (0 < k) = true := by simp; omega
        have hwr : IntKind.i64.wrap ((k : Int) - 1) = (k : Int) - 1 := by rw [IntKind.wrap_i64]; omega
        have hix : ∀ wz, (Instr.indexAt 22 (.slice (some ⟨b, o, none⟩) n c) (.int .i64 ((k : Int) - 1))).run Try.prog wz = .ok (.pointer (some ⟨b, o + p * 3, none⟩)) wz := fun wz => by rw [show (k : Int) - 1 = (p : Int) by omega]; exact idxT b o n c p hp1 wz
        have HPK : Hid (k - 1 = p) := by show k - 1 = p; omega
        clear hkp hk0
        have HE : Hid (∀ w2, Below wt.drew.heap.size wt.drew w2 → w2.cell? ⟨w.heap.size, 1, none⟩ = some (.slice (some ⟨b, o, none⟩) n c) ∧ w2.cell? ⟨b, o + p * 3 + 1, none⟩ = some (.string (X p))) := fun w2 hb => by
          obtain ⟨q1, _, q2⟩ := HC.out w2 hb
          refine ⟨by have := q1.box; simp [World.cell?, this], ?_⟩
          rcases q2 with h0 | ⟨b', o', he, hc'⟩
          · omega
          · simp at he
            obtain ⟨rfl, rfl⟩ := he
            exact (hc' p hp1).2.1
        obtain ⟨e3, e4⟩ := HE.out wt.drew (Below.refl _ _)
        have hle := less_total (X p).toList (X k).toList
        cases hls : Op.bytesLess (X p).toList (X k).toList with
        | false =>
          rw [hls] at hle
          have HBAD : Hid (¬ VDt next n I X R) := fun q => by
            have := (q.2.2 k hlt).1.2.2.2 (by simpa using hdn)
            rw [HPK.out, hls] at this
            cases this
          refine wp_region_late (S := (fun w' => w'.cell? ⟨tp, 0, none⟩ = some (.int .i64 (I k)) ∧ w'.cell? ⟨tp, 1, none⟩ = some (.string (X k)) ∧ w'.cell? ⟨tp, 2, none⟩ = some (.int .i64 (R k)) ∧ w'.cell? ⟨w.heap.size, 1, none⟩ = some (.slice (some ⟨b, o, none⟩) n c) ∧ w'.cell? ⟨b, o + p * 3 + 1, none⟩ = some (.string (X p)))) 19 (by kernel_rfl) ?_ (fun hHeld => ?_)
          · ((try dsimp only); go_keep)
          refine late_take 0 .zero (v := ?_) (by kernel_rfl) (by kernel_rfl) (by kernel_rfl) (by kernel_rfl) (fun _ _ _ h => h) (by rfl) ?_ (by assumption) ?_
          rotate_left
          · (intro w hSw; (try dsimp only at hSw); go_simp) <;> with_reducible rfl
          simp only [Act.put, List.setIfInBounds_toArray, List.set_cons_zero, List.set_cons_succ]
          refine late_take 1 (.succ .zero) (v := ?_) (by kernel_rfl) (by kernel_rfl) (by kernel_rfl) (by kernel_rfl) (fun _ _ _ h => h) (by rfl) ?_ (by assumption) ?_
          rotate_left
          · (intro w hSw; (try dsimp only at hSw); go_simp) <;> with_reducible rfl
          simp only [Act.put, List.setIfInBounds_toArray, List.set_cons_zero, List.set_cons_succ]
          refine late_one 2 (.succ (.succ .zero)) (by kernel_rfl) (fun K hK => ?_)
          (refine step_may (by rfl) 31 32 (by rfl) _ _ (by rfl) (by rfl) ?_; refine HM.out.mono ?_; rintro e w2 ⟨rfl, hb2⟩; refine ⟨_, rfl, ?_⟩; obtain ⟨z0, z1, z2⟩ := (HC.out w2 hb2).2.1.cells; obtain ⟨z3, z4⟩ := HE.out w2 hb2)
          refine hK.out _ _ ?_ (fun hHeld2 => ?_)
          · (intro _; (try dsimp only); go_keep)
          clear hK K
          replace hHeld := hHeld2 (by decide)
          clear hHeld2
          try simp only [Act.put, List.setIfInBounds_toArray, List.set_cons_zero, List.set_cons_succ]
          refine late_take 3 (.succ (.succ (.succ .zero))) (v := ?_) (by kernel_rfl) (by kernel_rfl) (by kernel_rfl) (by kernel_rfl) (fun _ _ _ h => h) (by rfl) ?_ (by assumption) ?_
          rotate_left
          · (intro w hSw; (try dsimp only at hSw); go_simp) <;> with_reducible rfl
          simp only [Act.put, List.setIfInBounds_toArray, List.set_cons_zero, List.set_cons_succ]
          refine late_take 4 (.succ (.succ (.succ (.succ .zero)))) (v := ?_) (by kernel_rfl) (by kernel_rfl) (by kernel_rfl) (by kernel_rfl) (fun _ _ _ h => h) (by rfl) ?_ (by assumption) ?_
          rotate_left
          · (intro w hSw; (try dsimp only at hSw); go_simp) <;> with_reducible rfl
          simp only [Act.put, List.setIfInBounds_toArray, List.set_cons_zero, List.set_cons_succ]
          refine late_take 5 (.succ (.succ (.succ (.succ (.succ .zero))))) (v := ?_) (by kernel_rfl) (by kernel_rfl) (by kernel_rfl) (by kernel_rfl) (fun _ _ _ h => h) (by rfl) ?_ (by assumption) ?_
          rotate_left
          · (intro w hSw; (try dsimp only at hSw); go_simp) <;> with_reducible rfl
          simp only [Act.put, List.setIfInBounds_toArray, List.set_cons_zero, List.set_cons_succ]
          refine late_take 6 (.succ (.succ (.succ (.succ (.succ (.succ .zero)))))) (v := ?_) (by kernel_rfl) (by kernel_rfl) (by kernel_rfl) (by kernel_rfl) (fun _ _ _ h => h) (by rfl) ?_ (by assumption) ?_
          rotate_left
          · (intro w hSw; (try dsimp only at hSw); go_simp) <;> with_reducible rfl
          simp only [Act.put, List.setIfInBounds_toArray, List.set_cons_zero, List.set_cons_succ]
          refine late_take 7 (.succ (.succ (.succ (.succ (.succ (.succ (.succ .zero))))))) (v := ?_) (by kernel_rfl) (by kernel_rfl) (by kernel_rfl) (by kernel_rfl) (fun _ _ _ h => h) (by rfl) ?_ (by assumption) ?_
          rotate_left
          · (intro w hSw; (try dsimp only at hSw); go_simp) <;> with_reducible rfl
          simp only [Act.put, List.setIfInBounds_toArray, List.set_cons_zero, List.set_cons_succ]
          refine late_take 8 (.succ (.succ (.succ (.succ (.succ (.succ (.succ (.succ .zero)))))))) (v := ?_) (by kernel_rfl) (by kernel_rfl) (by kernel_rfl) (by kernel_rfl) (fun _ _ _ h => h) (by rfl) ?_ (by assumption) ?_
          rotate_left
          · (intro w hSw; (try dsimp only at hSw); go_simp) <;> with_reducible rfl
          simp only [Act.put, List.setIfInBounds_toArray, List.set_cons_zero, List.set_cons_succ]
          refine late_take 9 (.succ (.succ (.succ (.succ (.succ (.succ (.succ (.succ (.succ .zero))))))))) (v := ?_) (by kernel_rfl) (by kernel_rfl) (by kernel_rfl) (by kernel_rfl) (fun _ _ _ h => h) (by rfl) ?_ (by assumption) ?_
          rotate_left
          · (intro w hSw; (try dsimp only at hSw); go_simp) <;> with_reducible rfl
          simp only [Act.put, List.setIfInBounds_toArray, List.set_cons_zero, List.set_cons_succ]
          refine late_take 10 (.succ (.succ (.succ (.succ (.succ (.succ (.succ (.succ (.succ (.succ .zero)))))))))) (v := ?_) (by kernel_rfl) (by kernel_rfl) (by kernel_rfl) (by kernel_rfl) (fun _ _ _ h => h) (by rfl) ?_ (by assumption) ?_
          rotate_left
          · (intro w hSw; (try dsimp only at hSw); go_simp) <;> with_reducible rfl
          simp only [Act.put, List.setIfInBounds_toArray, List.set_cons_zero, List.set_cons_succ]
          refine late_take 11 (.succ (.succ (.succ (.succ (.succ (.succ (.succ (.succ (.succ (.succ (.succ .zero))))))))))) (v := ?_) (by kernel_rfl) (by kernel_rfl) (by kernel_rfl) (by kernel_rfl) (fun _ _ _ h => h) (by rfl) ?_ (by assumption) ?_
          rotate_left
          · (intro w hSw; (try dsimp only at hSw); go_simp) <;> with_reducible rfl
          simp only [Act.put, List.setIfInBounds_toArray, List.set_cons_zero, List.set_cons_succ]
          refine late_take 12 (.succ (.succ (.succ (.succ (.succ (.succ (.succ (.succ (.succ (.succ (.succ (.succ .zero)))))))))))) (v := ?_) (by kernel_rfl) (by kernel_rfl) (by kernel_rfl) (by kernel_rfl) (fun _ _ _ h => h) (by rfl) ?_ (by assumption) ?_
          rotate_left
          · (intro w hSw; (try dsimp only at hSw); go_simp) <;> with_reducible rfl
          simp only [Act.put, List.setIfInBounds_toArray, List.set_cons_zero, List.set_cons_succ]
          refine late_take 13 (.succ (.succ (.succ (.succ (.succ (.succ (.succ (.succ (.succ (.succ (.succ (.succ (.succ .zero))))))))))))) (v := ?_) (by kernel_rfl) (by kernel_rfl) (by kernel_rfl) (by kernel_rfl) (fun _ _ _ h => h) (by rfl) ?_ (by assumption) ?_
          rotate_left
          · (intro w hSw; (try dsimp only at hSw); go_simp) <;> with_reducible rfl
          simp only [Act.put, List.setIfInBounds_toArray, List.set_cons_zero, List.set_cons_succ]
          refine late_take 14 (.succ (.succ (.succ (.succ (.succ (.succ (.succ (.succ (.succ (.succ (.succ (.succ (.succ (.succ .zero)))))))))))))) (v := ?_) (by kernel_rfl) (by kernel_rfl) (by kernel_rfl) (by kernel_rfl) (fun _ _ _ h => h) (by rfl) ?_ (by assumption) ?_
          rotate_left
          · (intro w hSw; (try dsimp only at hSw); go_simp) <;> with_reducible rfl
          simp only [Act.put, List.setIfInBounds_toArray, List.set_cons_zero, List.set_cons_succ]
          refine late_take 15 (.succ (.succ (.succ (.succ (.succ (.succ (.succ (.succ (.succ (.succ (.succ (.succ (.succ (.succ (.succ .zero))))))))))))))) (v := ?_) (by kernel_rfl) (by kernel_rfl) (by kernel_rfl) (by kernel_rfl) (fun _ _ _ h => h) (by rfl) ?_ (by assumption) ?_
          rotate_left
          · (intro w hSw; (try dsimp only at hSw); go_simp) <;> with_reducible rfl
          simp only [Act.put, List.setIfInBounds_toArray, List.set_cons_zero, List.set_cons_succ]
          refine late_take 16 (.succ (.succ (.succ (.succ (.succ (.succ (.succ (.succ (.succ (.succ (.succ (.succ (.succ (.succ (.succ (.succ .zero)))))))))))))))) (v := ?_) (by kernel_rfl) (by kernel_rfl) (by kernel_rfl) (by kernel_rfl) (fun _ _ _ h => h) (by rfl) ?_ (by assumption) ?_
          rotate_left
          · (intro w hSw; (try dsimp only at hSw); go_simp) <;> with_reducible rfl
          simp only [Act.put, List.setIfInBounds_toArray, List.set_cons_zero, List.set_cons_succ]
          refine late_take 17 (.succ (.succ (.succ (.succ (.succ (.succ (.succ (.succ (.succ (.succ (.succ (.succ (.succ (.succ (.succ (.succ (.succ .zero))))))))))))))))) (v := ?_) (by kernel_rfl) (by kernel_rfl) (by kernel_rfl) (by kernel_rfl) (fun _ _ _ h => h) (by rfl) ?_ (by assumption) ?_
          rotate_left
          · (intro w hSw; (try dsimp only at hSw); go_simp) <;> with_reducible rfl
          simp only [Act.put, List.setIfInBounds_toArray, List.set_cons_zero, List.set_cons_succ]
          refine late_take 18 (.succ (.succ (.succ (.succ (.succ (.succ (.succ (.succ (.succ (.succ (.succ (.succ (.succ (.succ (.succ (.succ (.succ (.succ .zero)))))))))))))))))) (v := ?_) (by kernel_rfl) (by kernel_rfl) (by kernel_rfl) (by kernel_rfl) (fun _ _ _ h => h) (by rfl) ?_ (by assumption) ?_
          rotate_left
          · (intro w hSw; (try dsimp only at hSw); go_simp) <;> with_reducible rfl
          simp only [Act.put, List.setIfInBounds_toArray, List.set_cons_zero, List.set_cons_succ]
          refine late_one 19 (.succ (.succ (.succ (.succ (.succ (.succ (.succ (.succ (.succ (.succ (.succ (.succ (.succ (.succ (.succ (.succ (.succ (.succ (.succ .zero))))))))))))))))))) (by kernel_rfl) (fun K hK => ?_)
          go_simp
          refine hK.out _ _ ?_ (fun hHeld2 => ?_)
          · (intro hne; exact absurd rfl hne)
          clear hK K hHeld2
          refine wpLate_done (by kernel_rfl) ?_ _
          have HX : Hid (DSt w w2 (.cells #[.int .i64 next, .slice (some ⟨b, o, none⟩) n c] 24) next I X R k V ∧ TermAt w2 tp (I k) (X k) (R k) ∧ RdT w2 (some ⟨b, o, none⟩) n I X R) := HC.out w2 hb2
          have HBW : Hid (Below w.heap.size w w2) := HX.out.1.below
          clear HC HM HE hb2 z0 z1 z2 z3 z4 e3 e4 t0 t1 t2
          go_wp2
          refine bodyPost_ret (v := .tuple #[.pointer none, .bool false]) (by simp [results, Try.results38, go_sem]) rfl (.inl ⟨HBAD.out, rfl, HBW.out⟩)
        | true =>
          rw [hls] at hle
          have HGK : Hid (GoodT next I X R k ∧ FreshT I k) := mayT_of.1 ⟨HMAY.out, fun _ => by rw [HPK.out]; exact hls⟩
          refine wp_region_late (S := (fun w' => w'.cell? ⟨tp, 0, none⟩ = some (.int .i64 (I k)) ∧ w'.cell? ⟨tp, 1, none⟩ = some (.string (X k)) ∧ w'.cell? ⟨tp, 2, none⟩ = some (.int .i64 (R k)) ∧ w'.cell? ⟨w.heap.size, 1, none⟩ = some (.slice (some ⟨b, o, none⟩) n c) ∧ w'.cell? ⟨b, o + p * 3 + 1, none⟩ = some (.string (X p)))) 19 (by kernel_rfl) ?_ (fun hHeld => ?_)
          · ((try dsimp only); go_keep)
          refine late_take 0 .zero (v := ?_) (by kernel_rfl) (by kernel_rfl) (by kernel_rfl) (by kernel_rfl) (fun _ _ _ h => h) (by rfl) ?_ (by assumption) ?_
          rotate_left
          · (intro w hSw; (try dsimp only at hSw); go_simp) <;> with_reducible rfl
          simp only [Act.put, List.setIfInBounds_toArray, List.set_cons_zero, List.set_cons_succ]
          refine late_take 1 (.succ .zero) (v := ?_) (by kernel_rfl) (by kernel_rfl) (by kernel_rfl) (by kernel_rfl) (fun _ _ _ h => h) (by rfl) ?_ (by assumption) ?_
          rotate_left
          · (intro w hSw; (try dsimp only at hSw); go_simp) <;> with_reducible rfl
          simp only [Act.put, List.setIfInBounds_toArray, List.set_cons_zero, List.set_cons_succ]
          refine late_one 2 (.succ (.succ .zero)) (by kernel_rfl) (fun K hK => ?_)
          (refine step_may (by rfl) 31 32 (by rfl) _ _ (by rfl) (by rfl) ?_; refine HM.out.mono ?_; rintro e w2 ⟨rfl, hb2⟩; refine ⟨_, rfl, ?_⟩; obtain ⟨z0, z1, z2⟩ := (HC.out w2 hb2).2.1.cells; obtain ⟨z3, z4⟩ := HE.out w2 hb2)
          refine hK.out _ _ ?_ (fun hHeld2 => ?_)
          · (intro _; (try dsimp only); go_keep)
          clear hK K
          replace hHeld := hHeld2 (by decide)
          clear hHeld2
          try simp only [Act.put, List.setIfInBounds_toArray, List.set_cons_zero, List.set_cons_succ]
          refine late_take 3 (.succ (.succ (.succ .zero))) (v := ?_) (by kernel_rfl) (by kernel_rfl) (by kernel_rfl) (by kernel_rfl) (fun _ _ _ h => h) (by rfl) ?_ (by assumption) ?_
          rotate_left
          · (intro w hSw; (try dsimp only at hSw); go_simp) <;> with_reducible rfl
          simp only [Act.put, List.setIfInBounds_toArray, List.set_cons_zero, List.set_cons_succ]
          refine late_take 4 (.succ (.succ (.succ (.succ .zero)))) (v := ?_) (by kernel_rfl) (by kernel_rfl) (by kernel_rfl) (by kernel_rfl) (fun _ _ _ h => h) (by rfl) ?_ (by assumption) ?_
          rotate_left
          · (intro w hSw; (try dsimp only at hSw); go_simp) <;> with_reducible rfl
          simp only [Act.put, List.setIfInBounds_toArray, List.set_cons_zero, List.set_cons_succ]
          refine late_take 5 (.succ (.succ (.succ (.succ (.succ .zero))))) (v := ?_) (by kernel_rfl) (by kernel_rfl) (by kernel_rfl) (by kernel_rfl) (fun _ _ _ h => h) (by rfl) ?_ (by assumption) ?_
          rotate_left
          · (intro w hSw; (try dsimp only at hSw); go_simp) <;> with_reducible rfl
          simp only [Act.put, List.setIfInBounds_toArray, List.set_cons_zero, List.set_cons_succ]
          refine late_take 6 (.succ (.succ (.succ (.succ (.succ (.succ .zero)))))) (v := ?_) (by kernel_rfl) (by kernel_rfl) (by kernel_rfl) (by kernel_rfl) (fun _ _ _ h => h) (by rfl) ?_ (by assumption) ?_
          rotate_left
          · (intro w hSw; (try dsimp only at hSw); go_simp) <;> with_reducible rfl
          simp only [Act.put, List.setIfInBounds_toArray, List.set_cons_zero, List.set_cons_succ]
          refine late_take 7 (.succ (.succ (.succ (.succ (.succ (.succ (.succ .zero))))))) (v := ?_) (by kernel_rfl) (by kernel_rfl) (by kernel_rfl) (by kernel_rfl) (fun _ _ _ h => h) (by rfl) ?_ (by assumption) ?_
          rotate_left
          · (intro w hSw; (try dsimp only at hSw); go_simp) <;> with_reducible rfl
          simp only [Act.put, List.setIfInBounds_toArray, List.set_cons_zero, List.set_cons_succ]
          refine late_take 8 (.succ (.succ (.succ (.succ (.succ (.succ (.succ (.succ .zero)))))))) (v := ?_) (by kernel_rfl) (by kernel_rfl) (by kernel_rfl) (by kernel_rfl) (fun _ _ _ h => h) (by rfl) ?_ (by assumption) ?_
          rotate_left
          · (intro w hSw; (try dsimp only at hSw); go_simp) <;> with_reducible rfl
          simp only [Act.put, List.setIfInBounds_toArray, List.set_cons_zero, List.set_cons_succ]
          refine late_take 9 (.succ (.succ (.succ (.succ (.succ (.succ (.succ (.succ (.succ .zero))))))))) (v := ?_) (by kernel_rfl) (by kernel_rfl) (by kernel_rfl) (by kernel_rfl) (fun _ _ _ h => h) (by rfl) ?_ (by assumption) ?_
          rotate_left
          · (intro w hSw; (try dsimp only at hSw); go_simp) <;> with_reducible rfl
          simp only [Act.put, List.setIfInBounds_toArray, List.set_cons_zero, List.set_cons_succ]
          refine late_take 10 (.succ (.succ (.succ (.succ (.succ (.succ (.succ (.succ (.succ (.succ .zero)))))))))) (v := ?_) (by kernel_rfl) (by kernel_rfl) (by kernel_rfl) (by kernel_rfl) (fun _ _ _ h => h) (by rfl) ?_ (by assumption) ?_
          rotate_left
          · (intro w hSw; (try dsimp only at hSw); go_simp) <;> with_reducible rfl
          simp only [Act.put, List.setIfInBounds_toArray, List.set_cons_zero, List.set_cons_succ]
          refine late_take 11 (.succ (.succ (.succ (.succ (.succ (.succ (.succ (.succ (.succ (.succ (.succ .zero))))))))))) (v := ?_) (by kernel_rfl) (by kernel_rfl) (by kernel_rfl) (by kernel_rfl) (fun _ _ _ h => h) (by rfl) ?_ (by assumption) ?_
          rotate_left
          · (intro w hSw; (try dsimp only at hSw); go_simp) <;> with_reducible rfl
          simp only [Act.put, List.setIfInBounds_toArray, List.set_cons_zero, List.set_cons_succ]
          refine late_take 12 (.succ (.succ (.succ (.succ (.succ (.succ (.succ (.succ (.succ (.succ (.succ (.succ .zero)))))))))))) (v := ?_) (by kernel_rfl) (by kernel_rfl) (by kernel_rfl) (by kernel_rfl) (fun _ _ _ h => h) (by rfl) ?_ (by assumption) ?_
          rotate_left
          · (intro w hSw; (try dsimp only at hSw); go_simp) <;> with_reducible rfl
          simp only [Act.put, List.setIfInBounds_toArray, List.set_cons_zero, List.set_cons_succ]
          refine late_take 13 (.succ (.succ (.succ (.succ (.succ (.succ (.succ (.succ (.succ (.succ (.succ (.succ (.succ .zero))))))))))))) (v := ?_) (by kernel_rfl) (by kernel_rfl) (by kernel_rfl) (by kernel_rfl) (fun _ _ _ h => h) (by rfl) ?_ (by assumption) ?_
          rotate_left
          · (intro w hSw; (try dsimp only at hSw); go_simp) <;> with_reducible rfl
          simp only [Act.put, List.setIfInBounds_toArray, List.set_cons_zero, List.set_cons_succ]
          refine late_take 14 (.succ (.succ (.succ (.succ (.succ (.succ (.succ (.succ (.succ (.succ (.succ (.succ (.succ (.succ .zero)))))))))))))) (v := ?_) (by kernel_rfl) (by kernel_rfl) (by kernel_rfl) (by kernel_rfl) (fun _ _ _ h => h) (by rfl) ?_ (by assumption) ?_
          rotate_left
          · (intro w hSw; (try dsimp only at hSw); go_simp) <;> with_reducible rfl
          simp only [Act.put, List.setIfInBounds_toArray, List.set_cons_zero, List.set_cons_succ]
          refine late_take 15 (.succ (.succ (.succ (.succ (.succ (.succ (.succ (.succ (.succ (.succ (.succ (.succ (.succ (.succ (.succ .zero))))))))))))))) (v := ?_) (by kernel_rfl) (by kernel_rfl) (by kernel_rfl) (by kernel_rfl) (fun _ _ _ h => h) (by rfl) ?_ (by assumption) ?_
          rotate_left
          · (intro w hSw; (try dsimp only at hSw); go_simp) <;> with_reducible rfl
          simp only [Act.put, List.setIfInBounds_toArray, List.set_cons_zero, List.set_cons_succ]
          refine late_take 16 (.succ (.succ (.succ (.succ (.succ (.succ (.succ (.succ (.succ (.succ (.succ (.succ (.succ (.succ (.succ (.succ .zero)))))))))))))))) (v := ?_) (by kernel_rfl) (by kernel_rfl) (by kernel_rfl) (by kernel_rfl) (fun _ _ _ h => h) (by rfl) ?_ (by assumption) ?_
          rotate_left
          · (intro w hSw; (try dsimp only at hSw); go_simp) <;> with_reducible rfl
          simp only [Act.put, List.setIfInBounds_toArray, List.set_cons_zero, List.set_cons_succ]
          refine late_take 17 (.succ (.succ (.succ (.succ (.succ (.succ (.succ (.succ (.succ (.succ (.succ (.succ (.succ (.succ (.succ (.succ (.succ .zero))))))))))))))))) (v := ?_) (by kernel_rfl) (by kernel_rfl) (by kernel_rfl) (by kernel_rfl) (fun _ _ _ h => h) (by rfl) ?_ (by assumption) ?_
          rotate_left
          · (intro w hSw; (try dsimp only at hSw); go_simp) <;> with_reducible rfl
          simp only [Act.put, List.setIfInBounds_toArray, List.set_cons_zero, List.set_cons_succ]
          refine late_take 18 (.succ (.succ (.succ (.succ (.succ (.succ (.succ (.succ (.succ (.succ (.succ (.succ (.succ (.succ (.succ (.succ (.succ (.succ .zero)))))))))))))))))) (v := ?_) (by kernel_rfl) (by kernel_rfl) (by kernel_rfl) (by kernel_rfl) (fun _ _ _ h => h) (by rfl) ?_ (by assumption) ?_
          rotate_left
          · (intro w hSw; (try dsimp only at hSw); go_simp) <;> with_reducible rfl
          simp only [Act.put, List.setIfInBounds_toArray, List.set_cons_zero, List.set_cons_succ]
          refine late_one 19 (.succ (.succ (.succ (.succ (.succ (.succ (.succ (.succ (.succ (.succ (.succ (.succ (.succ (.succ (.succ (.succ (.succ (.succ (.succ .zero))))))))))))))))))) (by kernel_rfl) (fun K hK => ?_)
          go_simp
          refine hK.out _ _ ?_ (fun hHeld2 => ?_)
          · (intro hne; exact absurd rfl hne)
          clear hK K hHeld2
          refine wpLate_done (by kernel_rfl) ?_ _
          have HX : Hid (DSt w w2 (.cells #[.int .i64 next, .slice (some ⟨b, o, none⟩) n c] 24) next I X R k V ∧ TermAt w2 tp (I k) (X k) (R k) ∧ RdT w2 (some ⟨b, o, none⟩) n I X R) := HC.out w2 hb2
          have HBW : Hid (Below w.heap.size w w2) := HX.out.1.below
          clear HE z0 z1 z2 z3 z4 e3 e4 t0 t1 t2
          clear HC HM hb2
          go_wp2_with fail
          refine (put_any _ _ _ k tp next (I k) (R k) (X k) I X V _ HX.out.1.tab HX.out.2.1 (by omega) HX.out.1.m1 HX.out.1.m2 (fun j hj => less_ne (asc_less (k := k + 1) (fun m hm h0 => if e : m = k then by subst e; exact HGK.out.1.2.2.2 h0 else ((HG.out m (by omega)).1.2.2.2 h0)) k (by omega) j hj)) HGK.out.2).mono ?_
          intro e w4 hput
          obtain ⟨v4, rfl⟩ := hput.1
          have HZ : Hid (DSt w w4 (.cells #[.int .i64 next, .slice (some ⟨b, o, none⟩) n c] 24) next I X R (k + 1) (fun j => if j = k then tp else V j)) := HX.out.1.next HX.out.2.1 HTP.out hput
          clear hput
          go_wp2
          go_roundw
          case rel =>
            refine ⟨k + 1, _, by omega, by go_num, fun m hm => ?_, HZ.out⟩
            by_cases e : m = k
            · subst e; exact HGK.out
            · exact HG.out m (by omega)
          case measure => simp [intOf]; omega
    · have e : n = k := by omega
      subst e
      clear hst
      go_wp2
      refine bodyPost_ret (v := .tuple #[.pointer (some ⟨w.heap.size + 1 + 1 + 1, 0, none⟩), .bool true]) (by simp [results, Try.results38, go_sem]) rfl (.inr ⟨⟨HN.out, by omega, HG.out⟩, V, _, rfl, HS.out⟩)
end Go.Proofs.Ytfcffpgiijnmjaa
