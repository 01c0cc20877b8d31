import Derived.Test.YtfecgececffdoaaSrtM
import Derived.Test.YtfecgececffdoaaStrO
import Derived.Test.YtfecgececffdoaaTmC
import Derived.Test.YtfecgececffdoaaPutVD
import Derived.Test.YtfecgececffdoaaReadD
namespace Go.Proofs.Ytfecgececffdoaa
open Go.RowKit Go.Deep Go.MapKept
set_option linter.unusedVariables false
set_option maxRecDepth 100000

/-- A table of terms: both maps hold the same terms. -/
structure TabSt (w : World) (tb : Nat) (next : Int) (B1 B2 k : Nat) (I : Nat → Int) (X : Nat → ByteArray) (R : Nat → Int) (V : Nat → Nat) : Prop where
  tab : TabAt w tb next B1 B2
  m1 : MapAt w B1 k (fun j => .string (X j)) (fun j => .pointer (some ⟨V j, 0, none⟩))
  m2 : MapAt w B2 k (fun j => .int .i64 (I j)) (fun j => .pointer (some ⟨V j, 0, none⟩))
  each : ∀ j, j < k → TermAt w (V j) (I j) (X j) (R j)
  ne : B1 ≠ B2

theorem TabSt.kept {w w' : World} {tb B1 B2 k : Nat} {next : Int} {I : Nat → Int} {X : Nat → ByteArray} {R : Nat → Int} {V : Nat → Nat} (h : TabSt w tb next B1 B2 k I X R V) (hb : ∀ b, b < w.heap.size → w'.heap[b]? = w.heap[b]?) : TabSt w' tb next B1 B2 k I X R V :=
  ⟨(hb _ h.tab.lt).trans h.tab, h.m1.kept (hb _ h.m1.lt), h.m2.kept (hb _ h.m2.lt), fun j hj => (hb _ (h.each j hj).lt).trans (h.each j hj), h.ne⟩

theorem TabSt.look {w : World} {tb B1 B2 k : Nat} {next : Int} {I : Nat → Int} {X : Nat → ByteArray} {R : Nat → Int} {V : Nat → Nat} (h : TabSt w tb next B1 B2 k I X R V) (hX : ∀ i j, i < k → j < k → X i = X j → i = j) {i : Nat} (hi : i < k) {x : ByteArray} (hx : X i = x) :
    (Instr.lookup 67 (.map (some B1)) (.string x) false).run Try.prog w = .ok (.pointer (some ⟨V i, 0, none⟩)) w :=
  h.m1.look_some (kt := 9) (et := 73) (by kernel_rfl) (by kernel_rfl) (d := .string) (show IsKey .string (.string x) from trivial) (fun j _ => show IsKey .string (.string (X j)) from trivial) hi (by rw [hx]) (fun q hq e => by
    have : X q = X i := by injection e with e; rw [e, hx]
    rw [hX q i hq hi this])

theorem ownsRow_shape {w : World} {B : Nat} {t : TypeId} {s : Nat} {v : Value} {n : Nat} {xs : List Value} (h : w.ownsRow B t s v n xs) : ∃ a c, v = .slice a n c := by
  rcases h.2 with ⟨rfl, rfl⟩ | ⟨g, cap, cur, rfl, _⟩
  · exact ⟨_, _, rfl⟩
  · exact ⟨_, _, rfl⟩

theorem term_one (w : World) (i r : Int) (x : ByteArray) : RdT (w.alloc (.cells #[.int .i64 i, .string x, .int .i64 r] 51)) (some ⟨w.heap.size, 0, none⟩) 1 (fun _ => i) (fun _ => x) (fun _ => r) :=
  Or.inr ⟨w.heap.size, 0, rfl, fun j hj => by
    obtain rfl : j = 0 := by omega
    refine ⟨?_, ?_, ?_⟩ <;> simp⟩

set_option maxHeartbeats 4000000 in
theorem tell_any (tb B1 B2 k : Nat) (next : Int) (I I' : Nat → Int) (X X' : Nat → ByteArray) (R R' : Nat → Int) (V : Nat → Nat) (w : World) (h : TabSt w tb next B1 B2 k I X R V) (hX : ∀ i j, i < k → j < k → X i = X j → i = j) (hs : ∀ j, j < k → (X j).size ≤ maxLen) (hk : k ≤ 1048576)
    (hasc : ∀ i j, i < j → j < k → Op.bytesLess (X' i).toList (X' j).toList = true) (hof : ∀ j, j < k → ∃ i, i < k ∧ X' j = X i ∧ I' j = I i ∧ R' j = R i) (hin : ∀ i, i < k → ∃ j, j < k ∧ X' j = X i) :
    Calls Try.prog 33 #[.pointer (some ⟨tb, 0, none⟩)] w (RetDct w next k I' X' R') := by
  obtain ⟨t0, t1, t2⟩ := h.tab.cells
  have htl := h.tab.lt
  have HT : Hid (TabSt w tb next B1 B2 k I X R V) := h
  have HX : Hid (∀ i j, i < k → j < k → X i = X j → i = j) := hX
  have HS : Hid (∀ j, j < k → (X j).size ≤ maxLen) := hs
  have HA : Hid (∀ i j, i < j → j < k → Op.bytesLess (X' i).toList (X' j).toList = true) := hasc
  have HO : Hid (∀ j, j < k → ∃ i, i < k ∧ X' j = X i ∧ I' j = I i ∧ R' j = R i) := hof
  have HM : Hid (∀ x, (∃ j, j < k ∧ X j = x) ↔ ∃ j, j < k ∧ X' j = x) := by
    intro x
    constructor
    · rintro ⟨i, hi, rfl⟩
      obtain ⟨j, hj, e⟩ := hin i hi
      exact ⟨j, hj, e⟩
    · rintro ⟨j, hj, rfl⟩
      obtain ⟨i, hi, e, _⟩ := hof j hj
      exact ⟨i, hi, e.symm⟩
  clear h hX hs hasc hof hin
  go_enter Try.func33, Try.ntmps33
  go_wp2_with (first
    | (go_at_call 51; refine (mkeys_Mstring_pTerm_string_pTerm _ _).mono ?_; rintro e w' ⟨rfl, rfl⟩)
    | fail)
  have HW0 : Hid (TabSt ((w.alloc (.cells #[.int .i64 0, .slice none 0 0] 28)).alloc (.cells #[.int .i64 next, .slice none 0 0] 28)) tb next B1 B2 k I X R V) := HT.out.kept (fun b hb => (((below_alloc _ _).trans ((below_alloc _ _).mono (by simp))) : Below w.heap.size w _).block b hb)
  have hsk := sortedKeys_at B1 k X X' _ _ HW0.out.m1 HS.out hk HX.out HA.out HM.out
  simp only [World.size_alloc] at hsk
  refine hsk.mono ?_
  rintro e w1 ⟨v, rfl, hrow, hb1⟩
  clear hsk
  obtain ⟨sa, sc, rfl, hsr, -, -⟩ := ownS_ofRow (X := X') hrow
  have HSR : Hid (OwnS w1 (w.heap.size + 2) sa k X') := hsr.mono (by omega)
  have B1' : Hid (Below (w.heap.size + 2) ((w.alloc (.cells #[.int .i64 0, .slice none 0 0] 28)).alloc (.cells #[.int .i64 next, .slice none 0 0] 28)) w1) := ((Below.refl _ _).alloc (by simp) _).trans (hb1.mono (by omega))
  clear hrow hsr hb1 HW0
  have z1 : w.heap.size + 2 ≤ w1.heap.size := by have := B1'.out.size; simpa using this
  go_wp2
  go_loopw [5, 18] (fun _ i wr => ∃ (j : Nat) (v : Value), j ≤ k ∧ i = .int .i64 j ∧ wr.heap[w.heap.size + 1]? = some (.cells #[.int .i64 next, v] 28) ∧ wr.heap[w.heap.size]? = some (.cells #[.int .i64 0, .slice none 0 0] 28) ∧ wr.ownsRow (w.heap.size + 2) 51 3 v j (termRow I' X' R' j) ∧ OwnS wr (w.heap.size + 2) sa k X' ∧ Below w.heap.size w wr ∧ w.heap.size + 2 ≤ wr.heap.size) (fun _ i _ => k - (intOf i).toNat)
  case atStart =>
    have b0 := blk_alloc_new w (.cells #[.int .i64 0, .slice none 0 0] 28)
    have b1 := blk_alloc_new (w.alloc (.cells #[.int .i64 0, .slice none 0 0] 28)) (.cells #[.int .i64 next, .slice none 0 0] 28)
    rw [World.size_alloc] at b1
    refine ⟨0, _, Nat.zero_le _, rfl, (B1'.out.block _ (by omega)).trans b1, (B1'.out.block _ (by omega)).trans (((below_alloc _ _).block _ (by simp)).trans b0), ?_, HSR.out, ((below_alloc _ _).trans ((below_alloc _ _).mono (by simp))).trans (B1'.out.mono (by omega)), z1⟩
    rw [termRow_zero]
    exact World.ownsRow_nil _ _ _ _
  case round =>
    obtain ⟨j, v, hj, rfl, hd, hres, hown, hstr, hbel, hz⟩ := hrel
    clear B1' HSR z1
    have HD : Hid (wr.heap[w.heap.size + 1]? = some (.cells #[.int .i64 next, v] 28) ∧ wr.heap[w.heap.size]? = some (.cells #[.int .i64 0, .slice none 0 0] 28)) := ⟨hd, hres⟩
    have HR : Hid (wr.ownsRow (w.heap.size + 2) 51 3 v j (termRow I' X' R' j) ∧ OwnS wr (w.heap.size + 2) sa k X' ∧ Below w.heap.size w wr) := ⟨hown, hstr, hbel⟩
    have d0 : wr.cell? ⟨w.heap.size + 1, 0, none⟩ = some (.int .i64 next) := by simp [World.cell?, hd]
    have d1 : wr.cell? ⟨w.heap.size + 1, 1, none⟩ = some v := by simp [World.cell?, hd]
    have df : ∀ o, wr.frozen? ⟨w.heap.size + 1, o, none⟩ = false := fun o => by simp [World.frozen?, hd]
    obtain ⟨a0, c0, hv⟩ := ownsRow_shape hown
    subst hv
    by_cases hlt : j < k
    · rcases hstr with h0 | ⟨g, rfl, hg, hsr⟩
      · omega
      have hc := hsr.cell hlt
      obtain ⟨i, hi, e1, e2, e3⟩ := HO.out j hlt
      have HE : Hid (X' j = X i ∧ I' j = I i ∧ R' j = R i) := ⟨e1, e2, e3⟩
      have hTw := HT.out.kept (w' := wr) (fun b hb => hbel.block b hb)
      have hVl := (HT.out.each i hi).lt
      have HF : Hid (∀ w' : World, Below (w.heap.size + 2) wr w' → (w'.cell? ⟨w.heap.size + 1, 1, none⟩ = some (.slice a0 j c0) ∧ w'.cell? ⟨tb, 1, none⟩ = some (.map (some B1)) ∧ (Instr.lookup 67 (.map (some B1)) (.string (X' j)) false).run Try.prog w' = .ok (.pointer (some ⟨V i, 0, none⟩)) w' ∧ w'.cell? ⟨V i, 0, none⟩ = some (.int .i64 (I i)) ∧ w'.cell? ⟨V i, 1, none⟩ = some (.string (X i)) ∧ w'.cell? ⟨V i, 2, none⟩ = some (.int .i64 (R i)))) := fun w' hb => by
        have q := HT.out.kept (w' := w') (fun b hb0 => (hb.block b (by omega)).trans (hbel.block b hb0))
        obtain ⟨c1, c2, c3⟩ := (q.each i hi).cells
        exact ⟨(hb.cell (p := ⟨w.heap.size + 1, 1, none⟩) (by show w.heap.size + 1 < w.heap.size + 2; omega)).trans d1, q.tab.cells.2.1, q.look HX.out hi e1.symm, c1, c2, c3⟩
      have HB10 : Hid (Below (w.heap.size + 2) wr (wr.alloc (.cells #[.int .i64 (I i), .string (X i), .int .i64 (R i)] 51)).drew) := ((Below.refl _ _).alloc hz _).drew
      have HA1 : Hid ((wr.alloc (.cells #[.int .i64 (I i), .string (X i), .int .i64 (R i)] 51)).drew.ownsRow (w.heap.size + 2) 51 3 (.slice a0 j c0) j (termRow I' X' R' j) ∧ RdT (wr.alloc (.cells #[.int .i64 (I i), .string (X i), .int .i64 (R i)] 51)).drew (some ⟨wr.heap.size, 0, none⟩) 1 (fun _ => I i) (fun _ => X i) (fun _ => R i) ∧ w.heap.size + 2 ≤ (wr.alloc (.cells #[.int .i64 (I i), .string (X i), .int .i64 (R i)] 51)).drew.heap.size) :=
        ⟨hown.alloc _, term_one wr (I i) (R i) (X i), by show w.heap.size + 2 ≤ (wr.alloc _).heap.size; simp; omega⟩
      have HLB : Hid (∀ g, (Value.slice a0 j c0).ownBlock = some g → w.heap.size + 2 ≤ g ∧ g < wr.heap.size) := fun g e => hown.lt g e
      have HB11 : Hid (∀ w3 : World, (wr.alloc (.cells #[.int .i64 (I i), .string (X i), .int .i64 (R i)] 51)).drew.grownBy w3 (Value.slice a0 j c0).ownBlock → Below (w.heap.size + 2) wr w3) := fun w3 hg => HB10.out.grown hg HA1.out.2.2 (fun g e => (HLB.out g e).1)
      have HFz : Hid (∀ w' : World, Below (w.heap.size + 2) wr w' → ∀ o, w'.frozen? ⟨w.heap.size + 1, o, none⟩ = false) := fun w' hb o => (hb.frozen (p := ⟨w.heap.size + 1, o, none⟩) (by show w.heap.size + 1 < w.heap.size + 2; omega)).trans (df o)
      clear hTw hd hres hown hbel hsr e1 e2 e3
      go_wp2
      refine wp_region_late (S := fun w' => w'.cell? ⟨w.heap.size + 1, 1, none⟩ = some (.slice a0 j c0) ∧ w'.cell? ⟨tb, 1, none⟩ = some (.map (some B1)) ∧ (Instr.lookup 67 (.map (some B1)) (.string (X' j)) false).run Try.prog w' = .ok (.pointer (some ⟨V i, 0, none⟩)) w' ∧ w'.cell? ⟨V i, 0, none⟩ = some (.int .i64 (I i)) ∧ w'.cell? ⟨V i, 1, none⟩ = some (.string (X i)) ∧ w'.cell? ⟨V i, 2, none⟩ = some (.int .i64 (R i))) 13 (by kernel_rfl) ?_ (fun hHeld => ?_)
      · ((try dsimp only); (first | exact HF.out _ (Below.refl _ _).drew | exact HF.out _ HB10.out | exact HF.out _ (HB11.out _ hg3)))
      refine late_take 0 .zero (v := ?_) (by kernel_rfl) (by kernel_rfl) (by kernel_rfl) (by kernel_rfl) (fun _ _ _ h => h) (by rfl) ?_ (by assumption) ?_
      rotate_left
      · (intro w hSw; (try dsimp only at hSw); go_simp) <;> with_reducible rfl
      simp only [Act.put, List.setIfInBounds_toArray, List.set_cons_zero, List.set_cons_succ]
      refine late_take 1 (.succ .zero) (v := ?_) (by kernel_rfl) (by kernel_rfl) (by kernel_rfl) (by kernel_rfl) (fun _ _ _ h => h) (by rfl) ?_ (by assumption) ?_
      rotate_left
      · (intro w hSw; (try dsimp only at hSw); go_simp) <;> with_reducible rfl
      simp only [Act.put, List.setIfInBounds_toArray, List.set_cons_zero, List.set_cons_succ]
      refine late_take 2 (.succ (.succ .zero)) (v := ?_) (by kernel_rfl) (by kernel_rfl) (by kernel_rfl) (by kernel_rfl) (fun _ _ _ h => h) (by rfl) ?_ (by assumption) ?_
      rotate_left
      · (intro w hSw; (try dsimp only at hSw); go_simp) <;> with_reducible rfl
      simp only [Act.put, List.setIfInBounds_toArray, List.set_cons_zero, List.set_cons_succ]
      refine late_take 3 (.succ (.succ (.succ .zero))) (v := ?_) (by kernel_rfl) (by kernel_rfl) (by kernel_rfl) (by kernel_rfl) (fun _ _ _ h => h) (by rfl) ?_ (by assumption) ?_
      rotate_left
      · (intro w hSw; (try dsimp only at hSw); go_simp) <;> with_reducible rfl
      simp only [Act.put, List.setIfInBounds_toArray, List.set_cons_zero, List.set_cons_succ]
      refine late_take 4 (.succ (.succ (.succ (.succ .zero)))) (v := ?_) (by kernel_rfl) (by kernel_rfl) (by kernel_rfl) (by kernel_rfl) (fun _ _ _ h => h) (by rfl) ?_ (by assumption) ?_
      rotate_left
      · (intro w hSw; (try dsimp only at hSw); go_simp) <;> with_reducible rfl
      simp only [Act.put, List.setIfInBounds_toArray, List.set_cons_zero, List.set_cons_succ]
      refine late_take 5 (.succ (.succ (.succ (.succ (.succ .zero))))) (v := ?_) (by kernel_rfl) (by kernel_rfl) (by kernel_rfl) (by kernel_rfl) (fun _ _ _ h => h) (by rfl) ?_ (by assumption) ?_
      rotate_left
      · (intro w hSw; (try dsimp only at hSw); go_simp) <;> with_reducible rfl
      simp only [Act.put, List.setIfInBounds_toArray, List.set_cons_zero, List.set_cons_succ]
      refine late_take 6 (.succ (.succ (.succ (.succ (.succ (.succ .zero)))))) (v := ?_) (by kernel_rfl) (by kernel_rfl) (by kernel_rfl) (by kernel_rfl) (fun _ _ _ h => h) (by rfl) ?_ (by assumption) ?_
      rotate_left
      · (intro w hSw; (try dsimp only at hSw); go_simp) <;> with_reducible rfl
      simp only [Act.put, List.setIfInBounds_toArray, List.set_cons_zero, List.set_cons_succ]
      refine late_take 7 (.succ (.succ (.succ (.succ (.succ (.succ (.succ .zero))))))) (v := ?_) (by kernel_rfl) (by kernel_rfl) (by kernel_rfl) (by kernel_rfl) (fun _ _ _ h => h) (by rfl) ?_ (by assumption) ?_
      rotate_left
      · (intro w hSw; (try dsimp only at hSw); go_simp) <;> with_reducible rfl
      simp only [Act.put, List.setIfInBounds_toArray, List.set_cons_zero, List.set_cons_succ]
      refine late_take 8 (.succ (.succ (.succ (.succ (.succ (.succ (.succ (.succ .zero)))))))) (v := ?_) (by kernel_rfl) (by kernel_rfl) (by kernel_rfl) (by kernel_rfl) (fun _ _ _ h => h) (by rfl) ?_ (by assumption) ?_
      rotate_left
      · (intro w hSw; (try dsimp only at hSw); go_simp) <;> with_reducible rfl
      simp only [Act.put, List.setIfInBounds_toArray, List.set_cons_zero, List.set_cons_succ]
      refine late_take 9 (.succ (.succ (.succ (.succ (.succ (.succ (.succ (.succ (.succ .zero))))))))) (v := ?_) (by kernel_rfl) (by kernel_rfl) (by kernel_rfl) (by kernel_rfl) (fun _ _ _ h => h) (by rfl) ?_ (by assumption) ?_
      rotate_left
      · (intro w hSw; (try dsimp only at hSw); go_simp) <;> with_reducible rfl
      simp only [Act.put, List.setIfInBounds_toArray, List.set_cons_zero, List.set_cons_succ]
      refine late_one 10 (.succ (.succ (.succ (.succ (.succ (.succ (.succ (.succ (.succ (.succ .zero)))))))))) (by kernel_rfl) (fun K hK => ?_)
      go_simp
      refine hK.out _ _ ?_ (fun hHeld2 => ?_)
      · (intro _; (try dsimp only); (first | exact HF.out _ (Below.refl _ _).drew | exact HF.out _ HB10.out | exact HF.out _ (HB11.out _ hg3)))
      clear hK K
      replace hHeld := hHeld2 (by decide)
      clear hHeld2
      try simp only [Act.put, List.setIfInBounds_toArray, List.set_cons_zero, List.set_cons_succ]
      refine late_one 11 (.succ (.succ (.succ (.succ (.succ (.succ (.succ (.succ (.succ (.succ (.succ .zero))))))))))) (by kernel_rfl) (fun K hK => ?_)
      refine step_append_T (by rfl) (.tmp 23) (.tmp 32) (by rfl) (w.heap.size + 2) (.slice a0 j c0) j (termRow I' X' R' j) (by rfl) HA1.out.1 (some ⟨wr.heap.size, 0, none⟩) 1 1 (fun _ => I i) (fun _ => X i) (fun _ => R i) (by rfl) HA1.out.2.1 (by omega) HA1.out.2.2 ?_
      intro v3 w3 ho3 hg3
      obtain ⟨a3, c3, rfl⟩ := ownsRow_shape ho3
      have wf3 := HFz.out _ (HB11.out _ hg3)
      have z3 : w.heap.size + 1 < w3.heap.size := by have := hg3.size; simp at this; omega
      refine hK.out _ _ ?_ (fun hHeld2 => ?_)
      · (intro _; (try dsimp only); (first | exact HF.out _ (Below.refl _ _).drew | exact HF.out _ HB10.out | exact HF.out _ (HB11.out _ hg3)))
      clear hK K
      replace hHeld := hHeld2 (by decide)
      clear hHeld2
      try simp only [Act.put, List.setIfInBounds_toArray, List.set_cons_zero, List.set_cons_succ]
      refine late_take 12 (.succ (.succ (.succ (.succ (.succ (.succ (.succ (.succ (.succ (.succ (.succ (.succ .zero)))))))))))) (v := ?_) (by kernel_rfl) (by kernel_rfl) (by kernel_rfl) (by kernel_rfl) (fun _ _ _ h => h) (by rfl) ?_ (by assumption) ?_
      rotate_left
      · (intro w hSw; (try dsimp only at hSw); go_simp) <;> with_reducible rfl
      simp only [Act.put, List.setIfInBounds_toArray, List.set_cons_zero, List.set_cons_succ]
      refine late_one 13 (.succ (.succ (.succ (.succ (.succ (.succ (.succ (.succ (.succ (.succ (.succ (.succ (.succ .zero))))))))))))) (by kernel_rfl) (fun K hK => ?_)
      go_simp
      refine hK.out _ _ ?_ (fun hHeld2 => ?_)
      · (intro hne; exact absurd rfl hne)
      clear hK K hHeld2
      refine wpLate_done (by kernel_rfl) ?_ _
      have HX3 : Hid (w3.ownsRow (w.heap.size + 2) 51 3 (.slice a3 (j + 1) c3) (j + 1) (termRow I' X' R' (j + 1)) ∧ OwnS w3 (w.heap.size + 2) (some ⟨g, 0, none⟩) k X' ∧ Below (w.heap.size + 2) wr w3) := by
        refine ⟨?_, ?_, HB11.out _ hg3⟩
        · have e4 : termRow I' X' R' j ++ termRow (fun _ => I i) (fun _ => X i) (fun _ => R i) 1 = termRow I' X' R' (j + 1) := by
            rw [termRow_app]
            refine termRow_congr (fun q hq => ?_)
            by_cases hqj : q < j
            · rw [glue_lt hqj, glue_lt hqj, glue_lt hqj]; exact ⟨rfl, rfl, rfl⟩
            · obtain rfl : q = j := by omega
              rw [glue_ge hqj, glue_ge hqj, glue_ge hqj]
              exact ⟨HE.out.2.1.symm, HE.out.1.symm, HE.out.2.2.symm⟩
          rw [e4] at ho3
          exact ho3
        · rcases HR.out.2.1 with h0 | ⟨g', hg', hle, hr'⟩
          · exact Or.inl h0
          · refine Or.inr ⟨g', hg', hle, hr'.of_block ?_⟩
            have hne : some g' ≠ (Value.slice a0 j c0).ownBlock := fun e => by
              rcases HR.out.1.2 with ⟨hv, _⟩ | ⟨g2, cap, cur, hv, _, hh, _⟩
              · rw [hv] at e; simp [Value.ownBlock] at e
              · rw [hv] at e
                simp [Value.ownBlock] at e
                subst e
                obtain ⟨c', hc', _⟩ := hr'
                rw [hh] at hc'
                injection hc' with e1
                injection e1 with _ e2 _
                revert e2
                decide
            exact (hg3.block g' (by have := hr'.lt; show g' < (wr.alloc _).heap.size; simp; omega) hne).trans ((below_alloc _ _).block _ hr'.lt)
      have HY : Hid ((w3.setCell ⟨w.heap.size + 1, 1, none⟩ (.slice a3 (j + 1) c3)).heap[w.heap.size + 1]? = some (.cells #[.int .i64 next, .slice a3 (j + 1) c3] 28) ∧ (w3.setCell ⟨w.heap.size + 1, 1, none⟩ (.slice a3 (j + 1) c3)).heap[w.heap.size]? = some (.cells #[.int .i64 0, .slice none 0 0] 28) ∧ (w3.setCell ⟨w.heap.size + 1, 1, none⟩ (.slice a3 (j + 1) c3)).ownsRow (w.heap.size + 2) 51 3 (.slice a3 (j + 1) c3) (j + 1) (termRow I' X' R' (j + 1)) ∧ OwnS (w3.setCell ⟨w.heap.size + 1, 1, none⟩ (.slice a3 (j + 1) c3)) (w.heap.size + 2) (some ⟨g, 0, none⟩) k X' ∧ Below w.heap.size w (w3.setCell ⟨w.heap.size + 1, 1, none⟩ (.slice a3 (j + 1) c3)) ∧ w.heap.size + 2 ≤ (w3.setCell ⟨w.heap.size + 1, 1, none⟩ (.slice a3 (j + 1) c3)).heap.size) := by
        have q1 := (HX3.out.2.2.block (w.heap.size + 1) (by omega)).trans HD.out.1
        have q2 := (HX3.out.2.2.block w.heap.size (by omega)).trans HD.out.2
        refine ⟨by simp [World.setCell, Array.getElem?_modify, q1], (Below.heap_setCell _ _ _ _ (by show w.heap.size ≠ w.heap.size + 1; omega)).trans q2, ownsRow_setCell_below HX3.out.1 (by show w.heap.size + 1 < w.heap.size + 2; omega) _, HX3.out.2.1.setOther (by show w.heap.size + 1 < w.heap.size + 2; omega) _, ?_, ?_⟩
        · exact (HR.out.2.2.trans (HX3.out.2.2.mono (by omega))).setCell (by show w.heap.size ≤ w.heap.size + 1; omega) _
        · have := HX3.out.2.2.size
          simp
          omega
      clear ho3 hg3 HA1 HB10 HB11 HF HFz hHeld HLB HX3 wf3 d0 d1 df hc
      go_wp2
      go_roundw
      case rel => exact ⟨j + 1, _, by omega, by go_num, HY.out⟩
      case measure => simp [intOf]; omega
    · obtain rfl : j = k := by omega
      obtain ⟨a4, c4, hv4, ho4, hcc⟩ := ownT_ofRow hown
      injection hv4 with e1 _ e3
      subst e1 e3
      have HT4 : Hid (OwnT wr (w.heap.size + 2) a0 j I' X' R') := ho4
      have r0 : wr.cell? ⟨w.heap.size, 0, none⟩ = some (.int .i64 0) := by simp [World.cell?, hres]
      have r1 : wr.cell? ⟨w.heap.size, 1, none⟩ = some (.slice none 0 0) := by simp [World.cell?, hres]
      have rf : ∀ o, wr.frozen? ⟨w.heap.size, o, none⟩ = false := fun o => by simp [World.frozen?, hres]
      have hz2 : w.heap.size < wr.heap.size := by omega
      clear hown hstr hd hres ho4 hbel
      go_wp2
      refine bodyPost_ret (v := .agg #[.int .i64 next, .slice a0 j c0]) (by simp [results, Try.results33, go_sem, r0, r1]) rfl ⟨a0, c0, rfl, ?_, ?_, hcc⟩
      · exact ((HT4.out.setOther (by simp) _).setOther (by simp) _).mono (by omega)
      · exact (HR.out.2.2.setCell (by simp) _).setCell (by simp) _
end Go.Proofs.Ytfecgececffdoaa
