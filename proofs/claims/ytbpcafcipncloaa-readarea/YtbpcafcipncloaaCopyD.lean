import Derived.Test.YtbpcafcipncloaaPendApp
namespace Go.Proofs.Ytbpcafcipncloaa
open Go.RowKit Go.Deep
set_option linter.unusedVariables false
set_option maxRecDepth 100000

/-- A disk handed back in new memory. -/
def RetD (w : World) (e : Ending) (w' : World) (n : Nat) (d : Nat → Int) (m : Nat) (S : Nat → Int) (L : Nat → Nat) (F : Nat → Nat → Int) (fuel : Int) (dead : Bool) : Prop :=
  ∃ a' c' p' q' A', e = .returned (.agg #[.slice a' n c', .slice p' m q', .int .i64 fuel, .bool dead]) ∧ OwnD w' w.heap.size a' n d p' m S L F A' ∧ Below w.heap.size w w'

/-- The same, its writes in a row that can be appended to. -/
def RetG (w : World) (e : Ending) (w' : World) (n : Nat) (d : Nat → Int) (m : Nat) (S : Nat → Int) (L : Nat → Nat) (F : Nat → Nat → Int) (fuel : Int) (dead : Bool) : Prop :=
  ∃ a' c' p' q' A' C', e = .returned (.agg #[.slice a' n c', .slice p' m q', .int .i64 fuel, .bool dead]) ∧ OwnB w' w.heap.size a' n d ∧ Gath w' w.heap.size (.slice p' m q') m S L F A' C' ∧ (n ≠ 0 → ∀ i, i < m → L i ≠ 0 → A' i ≠ a') ∧ Below w.heap.size w w' ∧ n ≤ c' ∧ c' ≤ 9223372036854775807

theorem RetG.retD {w w' : World} {e : Ending} {n : Nat} {d : Nat → Int} {m : Nat} {S : Nat → Int} {L : Nat → Nat} {F : Nat → Nat → Int} {fuel : Int} {dead : Bool} (h : RetG w e w' n d m S L F fuel dead) : RetD w e w' n d m S L F fuel dead := by
  obtain ⟨a', c', p', q', A', C', he, h1, h2, h3, h4, -, -⟩ := h
  obtain ⟨p2, q2, hv, hp⟩ := h2.ownP
  injection hv with e1 _ e3
  subst e1 e3
  exact ⟨a', c', p', q', A', he, ⟨h1, hp, h3⟩, h4⟩

theorem step_append_made {ops : Array Oper} {o : Oper} {a : Act} {w2 : World} {K : Act → World → Prop} {Q : Exit → Act → World → Prop} {E : Prop} (hgd : o.guard = none) (x y : Operand)
    (ho : o.op = .call { callee := .builtin .append, args := #[x, y], argTypes := #[37, 37] })
    (B k : Nat) (v : Value) (xs : List Value) (u0 : Int) (u1 : Option Addr) (l1 c1 : Nat) (hx : a.eval x = v) (hown : w2.ownsRow B 81 2 v k xs) (hy : a.eval y = .slice (some ⟨w2.heap.size, 0, none⟩) 1 1)
    (hk : k ≤ 1048576) (hB : B ≤ w2.heap.size)
    (h : ∀ v' w', w'.ownsRow B 81 2 v' (k + 1) (xs ++ [.int .i64 u0, .slice u1 l1 c1]) → (w2.alloc (.cells #[.int .i64 u0, .slice u1 l1 c1] 81)).grownBy w' v.ownBlock → K (a.put o.dst v') w') :
    if Region.wanted o (yielded ops a.tmps) = true then Oper.wp Try.prog o a (w2.alloc (.cells #[.int .i64 u0, .slice u1 l1 c1] 81)) K Q else E :=
  step_append_pend hgd x y ho B k v xs hx (hown.alloc _) w2.heap.size 1 (.int .i64 u0) (.slice u1 l1 c1) hy (by simp) (by simp) rfl rfl hk (by simp; omega) h

theorem grown_cell {w2 w3 : World} {O : Obj} {row : Option Nat} (hg : (w2.alloc O).grownBy w3 row) {x : Addr} (hx : x.block < w2.heap.size) (hne : row ≠ some x.block) : w3.cell? x = w2.cell? x := by
  rw [World.cell?_of_block (w := w2.alloc O) (hg.block x.block (by simp; omega) (fun e => hne e.symm))]
  exact World.cell?_of_block (w := w2) (Below.heap_alloc _ _ _ hx)

set_option maxHeartbeats 2000000 in
theorem copyDisk_gath (a p : Option Addr) (n c m q : Nat) (d S : Nat → Int) (L : Nat → Nat) (F : Nat → Nat → Int) (fuel : Int) (dead : Bool) (w : World) (ha : Rd .u8 w a n d) (hp : RdP w p m S L F) (hn : n ≤ 1048576) (hm : m ≤ 1048576) (hL : ∀ i, i < m → L i ≤ 1048576) :
    Calls Try.prog 51 #[.agg #[.slice a n c, .slice p m q, .int .i64 fuel, .bool dead]] w fun e w' => RetG w e w' n d m S L F fuel dead := by
  have HA : Hid (Rd .u8 w a n d) := ha
  have HP : Hid (RdP w p m S L F) := hp
  have HL : Hid (∀ i, i < m → L i ≤ 1048576) := hL
  have HJ : Hid (∀ {W : World}, Below (w.heap.size + 2) ((w.alloc (.cells #[.slice a n c, .slice p m q, .int .i64 fuel, .bool dead] 39)).alloc (.cells #[.slice none 0 0, .slice none 0 0, .int .i64 0, .bool false] 39)) W → Below w.heap.size w W) := fun h => (((below_alloc _ _).trans ((below_alloc _ _).mono (by simp)))).trans (h.mono (by omega))
  clear ha hp hL
  go_enter Try.func51, Try.ntmps51
  go_wp2
  go_loopw [3, 5, 9] (fun v _ i wr => ∃ (k : Nat) (A : Nat → Option Addr) (C : Nat → Nat), k ≤ m ∧ i = .int .i64 k ∧ Gath wr (w.heap.size + 2) v k S L F A C ∧ Below (w.heap.size + 2) ((w.alloc (.cells #[.slice a n c, .slice p m q, .int .i64 fuel, .bool dead] 39)).alloc (.cells #[.slice none 0 0, .slice none 0 0, .int .i64 0, .bool false] 39)) wr) (fun _ _ i _ => m - (intOf i).toNat)
  case atStart => exact ⟨0, _, _, Nat.zero_le _, rfl, Gath.start _ _ _ _ _, Below.refl _ _⟩
  case round =>
    obtain ⟨k, A, C, hkm, rfl, hga, hbel⟩ := hrel
    have K3 : Hid (Below (w.heap.size + 2) ((w.alloc _).alloc _) wr) := hbel
    have hz3 : w.heap.size + 2 ≤ wr.heap.size := by have := hbel.size; simpa using this
    have GA : Hid (Gath wr (w.heap.size + 2) u3 k S L F A C) := hga
    clear hbel hga
    have hc3 : ∀ b o, b < w.heap.size + 2 → wr.cell? ⟨b, o, none⟩ = _ := fun b o hb => K3.out.cell (p := ⟨b, o, none⟩) hb
    have hf3 : ∀ b o, b < w.heap.size + 2 → wr.frozen? ⟨b, o, none⟩ = _ := fun b o hb => K3.out.frozen (p := ⟨b, o, none⟩) hb
    by_cases hlt : k < m
    · rcases HP.out.below (HJ.out K3.out) with h | ⟨b, o, hpa, hc⟩
      · omega
      subst hpa
      obtain ⟨c1, ad, cp, cc2, c3⟩ := hc k hlt
      have HLk := HL.out k hlt
      have C3 : Hid (Rd .u8 (wr.alloc (.cells #[.int .i64 (S k), .slice ad (L k) cp] 81)).drew ad (L k) (F k)) := c3.below (below_alloc _ _).drew
      clear hc c3
      have HC : Hid (∀ w2 : World, Below (wr.heap.size + 1) (wr.alloc (.cells #[.int .i64 (S k), .slice ad (L k) cp] 81)).drew w2 → w2.cell? ⟨wr.heap.size, 0, none⟩ = some (.int .i64 (S k)) ∧ w2.cell? ⟨wr.heap.size, 1, none⟩ = some (.slice ad (L k) cp)) := by
        intro w2 hb
        constructor
        · rw [hb.cell (p := ⟨wr.heap.size, 0, none⟩) (Nat.lt_succ_self _)]; simp
        · rw [hb.cell (p := ⟨wr.heap.size, 1, none⟩) (Nat.lt_succ_self _)]; simp
      have hv0 : ∀ g, Value.ownBlock u3 = some g → w.heap.size + 2 ≤ g ∧ g < wr.heap.size := fun g e => GA.out.row.lt g e
      have HV0 : Hid (∀ g, Value.ownBlock u3 = some g → w.heap.size + 2 ≤ g ∧ g < wr.heap.size) := hv0
      clear hv0
      have HT : Hid (∀ w2 : World, Below (wr.alloc (.cells #[.int .i64 (S k), .slice ad (L k) cp] 81)).drew.heap.size (wr.alloc (.cells #[.int .i64 (S k), .slice ad (L k) cp] 81)).drew w2 → Below wr.heap.size wr w2) := fun w2 hb => (below_alloc _ _).drew.trans (hb.mono (by simp))
      have HD : Hid (∀ (w2 w3 : World) (O : Obj), Below (wr.alloc (.cells #[.int .i64 (S k), .slice ad (L k) cp] 81)).drew.heap.size (wr.alloc (.cells #[.int .i64 (S k), .slice ad (L k) cp] 81)).drew w2 → (w2.alloc O).grownBy w3 (Value.ownBlock u3) → w3.cell? ⟨wr.heap.size, 0, none⟩ = some (.int .i64 (S k)) ∧ w3.cell? ⟨wr.heap.size, 1, none⟩ = some (.slice ad (L k) cp)) := by
        intro w2 w3 O hb hg
        have hs : wr.heap.size < w2.heap.size := by have := hb.size; simp at this; omega
        have hne : Value.ownBlock u3 ≠ some wr.heap.size := fun e => by have := HV0.out _ e; omega
        obtain ⟨q0, q1⟩ := HC.out w2 (hb.mono (by simp))
        exact ⟨(grown_cell hg (x := ⟨wr.heap.size, 0, none⟩) hs hne).trans q0, (grown_cell hg (x := ⟨wr.heap.size, 1, none⟩) hs hne).trans q1⟩
      have hk2 : k ≤ 1048576 := by omega
      go_wp2
      go_region_held3 (fun w' => w'.cell? ⟨wr.heap.size, 0, none⟩ = some (.int .i64 (S k)) ∧ w'.cell? ⟨wr.heap.size, 1, none⟩ = some (.slice ad (L k) cp)) (go_keep)
        (first
        | (go_at_call 77; refine (copyBytes_any ad (L k) cp (F k) (wr.alloc (.cells #[.int .i64 (S k), .slice ad (L k) cp] 81)).drew C3.out HLk).mono ?_; rintro e w2 ⟨a2, c2, rfl, ho2, hb2, -, -⟩; obtain ⟨y0, y1⟩ := HC.out w2 (hb2.mono (Nat.le_of_eq (alloc_size _ _).symm)))
        | (refine step_append_made (by rfl) (.tmp 13) (.tmp 20) (by rfl) (w.heap.size + 2) k u3 (pendRow S A L C k) (S k) a2 (L k) c2 (by rfl) (owns_below GA.out.row (HT.out w2 hb2)) (by rfl) hk2 (Nat.le_trans hz3 (HT.out w2 hb2).size) ?_; intro v3 w3 hr3 hg3; obtain ⟨y0, y1⟩ := HD.out w2 w3 _ hb2 hg3))
      have HX : Hid (Gath w3 (w.heap.size + 2) v3 (k + 1) S L F (fun i => if i = k then a2 else A i) (fun i => if i = k then c2 else C i) ∧ Below (w.heap.size + 2) ((w.alloc (.cells #[.slice a n c, .slice (some ⟨b, o, none⟩) m q, .int .i64 fuel, .bool dead] 39)).alloc (.cells #[.slice none 0 0, .slice none 0 0, .int .i64 0, .bool false] 39)) w3) := by
        have q1 := HT.out w2 hb2
        have q2 := q1.size
        refine ⟨GA.out.more hz3 (q1.alloc q2 _) a2 c2 ((ho2.below (below_alloc _ _)).mono (by simp)) hr3 hg3, ?_⟩
        exact ((K3.out.trans (q1.mono hz3)).alloc (by omega) _).grown hg3 (by simp; omega) (fun g e => (HV0.out g e).1)
      clear hr3 hg3 ho2 hb2 y0 y1 c1 cc2 hc3 hf3 C3 HC HD HT HV0
      go_wp2
      go_roundw
      case rel => exact ⟨k + 1, _, _, by omega, by go_num, HX.out⟩
      case measure => simp [intOf]; omega
    · have e : k = m := by omega
      subst e
      obtain ⟨p', q', hv, hop⟩ := GA.out.ownP
      subst hv
      have HOP : Hid (OwnP wr (w.heap.size + 2) p' k S L F A) := hop
      have HGA : Hid (Gath wr (w.heap.size + 2) (.slice p' k q') k S L F A C) := GA.out
      clear hop
      have C3 : Hid (Rd .u8 wr.drew a n d) := (HA.out.below (HJ.out K3.out)).below (Below.refl _ _).drew
      have x0 := hc3 w.heap.size 0 (by omega)
      have x2 := hc3 w.heap.size 2 (by omega)
      have x3 := hc3 w.heap.size 3 (by omega)
      simp at x0 x2 x3
      have HC : Hid (∀ w2 : World, Below wr.drew.heap.size wr.drew w2 → (w2.cell? ⟨w.heap.size, 0, none⟩ = some (.slice a n c) ∧ w2.cell? ⟨w.heap.size, 2, none⟩ = some (.int .i64 fuel) ∧ w2.cell? ⟨w.heap.size, 3, none⟩ = some (.bool dead)) ∧ (∀ o, w2.frozen? ⟨w.heap.size + 1, o, none⟩ = false) ∧ w2.cell? ⟨w.heap.size + 1, 0, none⟩ = some (.slice none 0 0) ∧ w2.cell? ⟨w.heap.size + 1, 1, none⟩ = some (.slice none 0 0) ∧ w2.cell? ⟨w.heap.size + 1, 2, none⟩ = some (.int .i64 0) ∧ w2.cell? ⟨w.heap.size + 1, 3, none⟩ = some (.bool false) ∧ w.heap.size + 1 < w2.heap.size) := by
        intro w2 hb
        have h1 : w.heap.size < wr.drew.heap.size := by show w.heap.size < wr.heap.size; omega
        have h2 : w.heap.size + 1 < wr.drew.heap.size := by show w.heap.size + 1 < wr.heap.size; omega
        have hs := hb.size
        refine ⟨⟨(hb.cell (p := ⟨w.heap.size, 0, none⟩) h1).trans x0, (hb.cell (p := ⟨w.heap.size, 2, none⟩) h1).trans x2, (hb.cell (p := ⟨w.heap.size, 3, none⟩) h1).trans x3⟩, fun o => ?_, ?_, ?_, ?_, ?_, by omega⟩
        · rw [hb.frozen (p := ⟨w.heap.size + 1, o, none⟩) h2]
          show wr.frozen? _ = _
          rw [hf3 _ _ (by omega)]
          simp
        all_goals
          rw [hb.cell (p := ⟨w.heap.size + 1, _, none⟩) h2]
          show wr.cell? _ = _
          rw [hc3 _ _ (by omega)]
          simp
      go_wp2
      go_region_held3 (fun w' => w'.cell? ⟨w.heap.size, 0, none⟩ = some (.slice a n c) ∧ w'.cell? ⟨w.heap.size, 2, none⟩ = some (.int .i64 fuel) ∧ w'.cell? ⟨w.heap.size, 3, none⟩ = some (.bool dead)) (go_keep)
        (first
        | (go_at_call 77; refine (copyBytes_any a n c d wr.drew C3.out hn).mono ?_; rintro e w2 ⟨a2, c2, rfl, ho2, hb2, hl2, hm2⟩; obtain ⟨⟨y0, y2, y3⟩, yf, r0, r1, r2, r3, rz⟩ := HC.out w2 hb2))
      have hb3 : Below wr.heap.size wr w2 := (Below.refl _ _).drew.trans (hb2.mono (by simp))
      have HX : Hid ((OwnB w2 (w.heap.size + 2) a2 n d ∧ Gath w2 (w.heap.size + 2) (.slice p' k q') k S L F A C ∧ (n ≠ 0 → ∀ i, i < k → L i ≠ 0 → A i ≠ a2)) ∧ Below w.heap.size w w2) := by
        refine ⟨⟨ho2.mono hz3, HGA.out.below hb3, fun hn0 i hi hl e => ?_⟩, (HJ.out K3.out).trans (hb3.mono (by omega))⟩
        have q1 := HOP.out.ltB.2 i hi hl
        rcases ho2 with h0 | ⟨g, rfl, hg, _⟩
        · exact hn0 h0
        · have := q1 _ e
          simp at this hg
          omega
      clear hb3 hb2 ho2 y0 y2 y3 yf x0 x2 x3 HC C3
      go_wp2
      refine bodyPost_ret (v := .agg #[.slice a2 n c2, .slice p' k q', .int .i64 fuel, .bool dead]) (by simp [results, Try.results51, go_sem, r0, r1, r2, r3]) rfl ⟨a2, c2, p', q', A, C, rfl, ?_, ?_, HX.out.1.2.2, ?_, hl2, hm2⟩
      · exact (((((HX.out.1.1.setOther (by simp) _).setOther (by simp) _).setOther (by simp) _).setOther (by simp) _)).mono (by omega)
      · exact (((((HX.out.1.2.1.setOther (by simp) _).setOther (by simp) _).setOther (by simp) _).setOther (by simp) _)).mono (by omega)
      · exact ((((HX.out.2.setCell (by simp) _).setCell (by simp) _).setCell (by simp) _).setCell (by simp) _)

theorem copyDisk_any (a p : Option Addr) (n c m q : Nat) (d S : Nat → Int) (L : Nat → Nat) (F : Nat → Nat → Int) (fuel : Int) (dead : Bool) (w : World) (ha : Rd .u8 w a n d) (hp : RdP w p m S L F) (hn : n ≤ 1048576) (hm : m ≤ 1048576) (hL : ∀ i, i < m → L i ≤ 1048576) :
    Calls Try.prog 51 #[.agg #[.slice a n c, .slice p m q, .int .i64 fuel, .bool dead]] w fun e w' => RetD w e w' n d m S L F fuel dead :=
  (copyDisk_gath a p n c m q d S L F fuel dead w ha hp hn hm hL).mono (fun e w' h => h.retD)
end Go.Proofs.Ytbpcafcipncloaa
