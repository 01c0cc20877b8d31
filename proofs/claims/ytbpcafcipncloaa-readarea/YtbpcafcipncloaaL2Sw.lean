import Derived.Test.YtbpcafcipncloaaL2Sec
namespace Go.Proofs.Ytbpcafcipncloaa
open Go.RowKit Go.Deep
set_option linter.unusedVariables false
set_option maxRecDepth 100000

theorem rdMarkR {w : World} {g : Nat} {fr : Nat × Nat} (h : w.heap[g]? = some (.cells #[.int .u8 82, .int .u8 49] 5 fr)) : Rd .u8 w (some ⟨g, 0, none⟩) 2 (two 82 49) := by
  refine Or.inr ⟨_, 0, rfl, fun i hi => ?_⟩
  match i, hi with
  | 0, _ => simp [two, World.cell?, h]
  | 1, _ => simp [two, World.cell?, h]

/-- A literal's letters taken as bytes: the block is marked. -/
theorem convMarkR {B : Nat} (w : World) (g : Nat) (fr : Nat × Nat) (hg : B ≤ g) (h : w.heap[g]? = some (.cells #[.int .u8 82, .int .u8 49] 5 fr)) :
    ∃ w', (convert 24 24 (.slice (some ⟨g, 0, none⟩) 2 2)).run Try.prog w = .ok (.slice (some ⟨g, 0, none⟩) 2 2) w' ∧ ExtM B w w' := by
  have hsh : w.shape? g = some (5, 2) := by unfold World.shape?; rw [h]; rfl
  refine ⟨w.freeze ⟨g, 2, none⟩ 1, ?_, ⟨rfl, rfl, rfl, by simp [World.freeze], fun k hk => ?_⟩, fun k c t f hc => ?_⟩
  · simp [convert, run_underlying underBytes, run_underlying (show Try.prog.underlying 5 = some (.int .u8) by kernel_rfl), markStringish, hsh]
  · unfold World.freeze
    rw [if_neg (by decide)]
    show (w.heap.modify g _)[k]? = _
    rw [Array.getElem?_modify, if_neg (by omega)]
  · unfold World.freeze
    rw [if_neg (by decide)]
    show ∃ fr', (w.heap.modify g _)[k]? = _ ∧ _
    rw [Array.getElem?_modify]
    by_cases e : g = k
    · subst e
      rw [h] at hc
      injection hc with hc
      injection hc with e1 e2 e3
      subst e1 e2 e3
      rw [if_pos rfl, h]
      exact ⟨_, rfl, Or.inr rfl⟩
    · rw [if_neg e]
      exact ⟨f, hc, Or.inl rfl⟩

theorem infoBs : (Try.prog.info? 24).map (fun i => (i.zero, i.size, i.bytes)) = some (some (.slice none 0 0), 1, 24) := by kernel_rfl
theorem underBss : Try.prog.underlying 62 = some (.slice 24) := by kernel_rfl

/-- How long piece i is. -/
def plen (n i : Nat) : Nat := if 48 < n - i * 48 then 48 else n - i * 48
theorem plen_le (n i : Nat) : plen n i ≤ 48 := by unfold plen; split <;> omega
/-- Sector i of a record. -/
def secW (n : Nat) (seq : Int) (f : Nat → Int) (i : Nat) : Nat → Int := recF seq i (cntOf n) (plen n i) (fun j => f (i * 48 + j))

/-- The first m sectors. -/
structure SecsSt (w wr : World) (n : Nat) (seq : Int) (f : Nat → Int) (m : Nat) (v : Value) (A : Nat → Option Addr) (C : Nat → Nat) : Prop where
  row : wr.ownsRow w.heap.size 24 1 v m ((List.range m).map fun j => .slice (A j) 64 (C j))
  each : ∀ j, j < m → OwnB wr w.heap.size (A j) 64 (secW n seq f j)
  below : Below w.heap.size w wr

def SecsRet (w : World) (n : Nat) (seq : Int) (f : Nat → Int) (e : Ending) (w' : World) : Prop :=
  ∃ b cap, e = .returned (.slice (some ⟨b, 0, none⟩) (cntOf n) cap) ∧ RdS w' b 0 (cntOf n) (fun _ => 64) (secW n seq f) ∧ Below w.heap.size w w'

theorem SecsSt.keep {w wr w2 : World} {n : Nat} {seq : Int} {f : Nat → Int} {m : Nat} {v : Value} {A : Nat → Option Addr} {C : Nat → Nat} (h : SecsSt w wr n seq f m v A C) (hb : Below wr.heap.size wr w2) : SecsSt w w2 n seq f m v A C := by
  refine ⟨⟨h.row.1, ?_⟩, fun j hj => (h.each j hj).below hb, h.below.trans (hb.mono h.below.size)⟩
  rcases h.row.2 with h0 | ⟨g, cap, cur, hv, hg, hh, h1, h2, h3, h4⟩
  · exact Or.inl h0
  · exact Or.inr ⟨g, cap, cur, hv, hg, (hb.block g (Array.getElem?_eq_some_iff.1 hh).1).trans hh, h1, h2, h3, h4⟩

theorem SecsSt.next {w wr w4 : World} {n : Nat} {seq : Int} {f : Nat → Int} {m : Nat} {v v' : Value} {A : Nat → Option Addr} {C : Nat → Nat} {a : Option Addr} {c : Nat} (h : SecsSt w wr n seq f m v A C) (ha : OwnB wr w.heap.size a 64 (secW n seq f m))
    (hg : wr.grownBy w4 v.ownBlock) (hown : w4.ownsRow w.heap.size 24 1 v' (m + 1) (((List.range m).map fun j => .slice (A j) 64 (C j)) ++ [.slice a 64 c])) :
    SecsSt w w4 n seq f (m + 1) v' (fun j => if j = m then a else A j) (fun j => if j = m then c else C j) := by
  have own : ∀ g, v.ownBlock = some g → w.heap.size ≤ g ∧ ∃ cur fr, wr.heap[g]? = some (.cells cur 24 fr) := by
    intro g hgg
    rcases h.row.2 with ⟨hv, _⟩ | ⟨g', cap, cur, hv, hle, hh, _⟩
    · rw [hv] at hgg; simp [Value.ownBlock] at hgg
    · rw [hv] at hgg
      simp [Value.ownBlock] at hgg
      subst hgg
      exact ⟨hle, cur, _, hh⟩
  have kp : ∀ {x : Option Addr} {F : Nat → Int}, OwnB wr w.heap.size x 64 F → OwnB w4 w.heap.size x 64 F := by
    intro x F hx
    rcases hx with h0 | ⟨g, rfl, hgl, hr⟩
    · exact Or.inl h0
    · refine Or.inr ⟨g, rfl, hgl, hr.of_block (hg.block g hr.lt (fun e => ?_))⟩
      obtain ⟨_, cur, fr, q⟩ := own g e.symm
      obtain ⟨cur', hh, _, _⟩ := hr
      rw [hh] at q
      injection q with q
      injection q with _ q
      exact absurd q (by decide)
  refine ⟨?_, fun j hj => ?_, h.below.grown hg h.below.size (fun g e => (own g e).1)⟩
  · have e : ((List.range (m + 1)).map fun j => Value.slice (if j = m then a else A j) 64 (if j = m then c else C j)) = ((List.range m).map fun j => .slice (A j) 64 (C j)) ++ [.slice a 64 c] := by
      rw [List.range_succ, List.map_append]
      congr 1
      · refine List.map_congr_left (fun j hj => ?_)
        have := List.mem_range.1 hj
        rw [if_neg (by omega), if_neg (by omega)]
      · simp
    rw [e]
    exact hown
  · by_cases e : j = m
    · subst e
      rw [if_pos rfl]
      exact kp ha
    · rw [if_neg e]
      exact kp (h.each j (by omega))

theorem SecsSt.done {w wr : World} {n : Nat} {seq : Int} {f : Nat → Int} {v : Value} {A : Nat → Option Addr} {C : Nat → Nat} (h : SecsSt w wr n seq f (cntOf n) v A C) : SecsRet w n seq f (.returned v) wr := by
  have hc : cntOf n ≠ 0 := by unfold cntOf; split <;> omega
  rcases h.row.2 with ⟨_, h0⟩ | ⟨g, cap, cur, hv, hg, hh, h1, h2, h3, h4⟩
  · exact absurd h0 hc
  · subst hv
    refine ⟨g, cap, rfl, fun i hi => ⟨A i, C i, ?_, (h.each i hi).rd⟩, h.below⟩
    have e : cur[i]? = (cur.toList.take (cntOf n * 1))[i]? := by rw [List.getElem?_take, if_pos (by omega)]; simp
    unfold World.cell?
    simp only [hh]
    rw [Nat.zero_add, e, h4, List.getElem?_map, List.getElem?_range hi]
    rfl

theorem l2Put_at (x : Int) (L n : Nat) (w : World) (hx : x = (L : Int)) (hL : L ≤ 48) (hn : n ≤ 4) :
    Calls Try.prog 66 #[.int .i64 x, .int .i64 n] w fun e w' => RetOwn w e w' n (byteAt (L : Int)) := by
  rw [hx]
  exact l2Put_any (L : Int) n w (by omega) (by omega) hn

theorem rd_take {w : World} {a : Option Addr} {n L : Nat} {f : Nat → Int} (h : Rd .u8 w a n f) (hL : L ≤ n) : Rd .u8 w a L f := by
  rcases h with h0 | ⟨b, o, rfl, hc⟩
  · exact Or.inl (by omega)
  · exact Or.inr ⟨b, o, rfl, fun i hi => hc i (by omega)⟩

set_option maxHeartbeats 8000000 in
theorem l2Sectors_any (a : Option Addr) (n c : Nat) (f : Nat → Int) (seq : Int) (w : World) (h : Rd .u8 w a n f) (hr : ∀ i, i < n → 0 ≤ f i ∧ f i < 256) (hn : n ≤ 30000) (hnc : n ≤ c) (hcm : c ≤ 9223372036854775807) (hq : 0 ≤ seq) (hq2 : seq ≤ 2000000000) :
    Calls Try.prog 40 #[.int .i64 seq, .slice a n c] w (SecsRet w n seq f) := by
  have HR : Hid (Rd .u8 w a n f) := h
  have HF : Hid (∀ i, i < n → 0 ≤ f i ∧ f i < 256) := hr
  have hcnt : cntOf n ≤ 1000 := by unfold cntOf; split <;> omega
  clear h hr
  go_enter Try.func40, Try.ntmps40
  go_wp2_with fail
  refine (specRecS n hn _).mono ?_
  rintro e w1 ⟨rfl, hw1⟩
  subst hw1
  go_wp2
  go_loopw [6, 7, 8, 9] (fun v i _ _ wr => ∃ (m : Nat) (A : Nat → Option Addr) (C : Nat → Nat), m ≤ cntOf n ∧ i = .int .i64 m ∧ SecsSt w1 wr n seq f m v A C) (fun _ i _ _ _ => cntOf n - (intOf i).toNat)
  case atStart => exact ⟨0, fun _ => none, fun _ => 0, Nat.zero_le _, rfl, ⟨World.ownsRow_lit w1 #[] 0 (Nat.le_refl _) (Nat.zero_le _) rfl, fun j hj => absurd hj (Nat.not_lt_zero _), below_alloc _ _⟩⟩
  case round =>
    obtain ⟨m, A, C, hm, rfl, hst⟩ := hrel
    have HS : Hid (SecsSt w1 wr n seq f m u6 A C) := hst
    clear hst
    by_cases hlt : m < cntOf n
    · have hlti : (m : Int) < (cntOf n : Int) := by omega
      have hlo := cntOf_lt hlt
      have hsl : ∀ wz, (Instr.sliceAt 24 (.slice a n c) (some (.int .i64 ((m : Int) * 48))) none none).run Try.prog wz = .ok (.slice (shA a (m * 48) c) (n - m * 48) (c - m * 48)) wz := fun wz => by
        have := run_from a n c (m * 48) hlo hnc wz
        rw [show (((m * 48 : Nat)) : Int) = (m : Int) * 48 by omega] at this
        exact this
      have RP : Hid (Rd .u8 wr (shA a (m * 48) c) (n - m * 48) (fun j => f (m * 48 + j))) := (rd_shift c HR.out hlo hnc).below (HS.out.below)
      by_cases hbig : 48 < n - m * 48
      · have hup : ∀ wz, (Instr.sliceAt 24 (.slice (shA a (m * 48) c) (n - m * 48) (c - m * 48)) none (some (.int .i64 48)) none).run Try.prog wz = .ok (.slice (shA a (m * 48) c) 48 (c - m * 48)) wz := fun wz => run_upto _ _ _ hbig (by omega) wz
        have hgt : decide ((48 : Int) < ((n - m * 48 : Nat) : Int)) = true := by simp; omega
        have RQ : Hid (Rd .u8 wr (shA a (m * 48) c) 48 (fun j => f (m * 48 + j))) := rd_take RP.out (by omega)
        have hpl : plen n m = 48 := by unfold plen; split <;> omega
        have HPF : Hid (∀ j, j < 48 → 0 ≤ f (m * 48 + j) ∧ f (m * 48 + j) < 256) := fun j hj => HF.out _ (by omega)
        have hL48 : 48 ≤ 48 := by omega
        clear RP
        go_wp2_with fail
        refine (l2Put_any seq 4 _ (by omega) (by omega) (by omega)).mono ?_
        rintro e w2 ⟨a2, c2, rfl, ho2, hb2, -, -⟩
        have D2 : Hid (Below wr.heap.size wr w2 ∧ Rd .u8 w2 a2 4 (byteAt seq)) := ⟨hb2, ho2.rd⟩
        clear ho2 hb2
        go_wp2_with fail
        refine (l2Put_any (m : Int) 2 _ (by omega) (by omega) (by omega)).mono ?_
        rintro e w3 ⟨a3, c3, rfl, ho3, hb3, -, -⟩
        have D3 : Hid (Below wr.heap.size wr w3 ∧ Rd .u8 w3 a2 4 (byteAt seq) ∧ Rd .u8 w3 a3 2 (byteAt m)) := ⟨D2.out.1.trans (hb3.mono D2.out.1.size), D2.out.2.below hb3, ho3.rd⟩
        clear ho3 hb3 D2
        go_wp2_with fail
        refine (l2Put_any (cntOf n : Int) 2 _ (by omega) (by omega) (by omega)).mono ?_
        rintro e w4 ⟨a4, c4, rfl, ho4, hb4, -, -⟩
        have D4 : Hid (Below wr.heap.size wr w4 ∧ Rd .u8 w4 a2 4 (byteAt seq) ∧ Rd .u8 w4 a3 2 (byteAt m) ∧ Rd .u8 w4 a4 2 (byteAt (cntOf n))) := ⟨D3.out.1.trans (hb4.mono D3.out.1.size), D3.out.2.1.below hb4, D3.out.2.2.below hb4, ho4.rd⟩
        clear ho4 hb4 D3
        go_wp2_with fail
        refine (l2Put_at _ 48 2 _ (by omega) (by omega) (by omega)).mono ?_
        rintro e w5 ⟨a5, c5, rfl, ho5, hb5, -, -⟩
        have D5 : Hid (Below wr.heap.size wr w5 ∧ Rd .u8 w5 a2 4 (byteAt seq) ∧ Rd .u8 w5 a3 2 (byteAt m) ∧ Rd .u8 w5 a4 2 (byteAt (cntOf n)) ∧ Rd .u8 w5 a5 2 (byteAt (48 : Nat))) := ⟨D4.out.1.trans (hb5.mono D4.out.1.size), D4.out.2.1.below hb5, D4.out.2.2.1.below hb5, D4.out.2.2.2.below hb5, ho5.rd⟩
        clear ho5 hb5 D4
        obtain ⟨w6, hcv, hx6⟩ := convMarkR (B := w5.heap.size) (w5.alloc (.cells #[.int .u8 82, .int .u8 49] 5)) w5.heap.size (0, 0) (Nat.le_refl _) (blk_alloc_new _ _)
        have D6 : Hid (Below wr.heap.size wr w6 ∧ Rd .u8 w6 a2 4 (byteAt seq) ∧ Rd .u8 w6 a3 2 (byteAt m) ∧ Rd .u8 w6 a4 2 (byteAt (cntOf n)) ∧ Rd .u8 w6 a5 2 (byteAt (48 : Nat)) ∧ Rd .u8 w6 (some ⟨w5.heap.size, 0, none⟩) 2 (two 82 49)) := by
          obtain ⟨q0, q1, q2, q3, q4⟩ := D5.out
          have qb := below_alloc w5 (.cells #[.int .u8 82, .int .u8 49] 5)
          exact ⟨(q0.trans (qb.mono q0.size)).trans (hx6.1.mono q0.size), hx6.rd (q1.below qb), hx6.rd (q2.below qb), hx6.rd (q3.below qb), hx6.rd (q4.below qb), hx6.rd (rdMarkR (blk_alloc_new _ _))⟩
        clear D5 hx6
        go_wp2_with fail
        refine (l2Cat_any w6.heap.size 0 5 5 (five 4 2 2 2 2) (five (byteAt seq) (byteAt m) (byteAt (cntOf n)) (byteAt (48 : Nat)) (two 82 49)) _ (rdS_five D6.out.2.1 D6.out.2.2.1 D6.out.2.2.2.1 D6.out.2.2.2.2.1 D6.out.2.2.2.2.2) (by omega) (fun k hk => ?_) (fun k hk => ?_)).mono ?_
        · match k, hk with
          | 0, _ => decide
          | 1, _ => decide
          | 2, _ => decide
          | 3, _ => decide
          | 4, _ => decide
          | 5, _ => decide
        · unfold five; split <;> (try split) <;> (try split) <;> (try split) <;> omega
        rintro e w7 ⟨a7, c7, rfl, ho7, hb7, -, -⟩
        have D7 : Hid (Below wr.heap.size wr w7 ∧ Rd .u8 w7 a7 12 (catF (five 4 2 2 2 2) (five (byteAt seq) (byteAt m) (byteAt (cntOf n)) (byteAt (48 : Nat)) (two 82 49)) 5)) := by
          have q := D6.out.1.alloc D6.out.1.size (.cells #[.slice a2 4 c2, .slice a3 2 c3, .slice a4 2 c4, .slice a5 2 c5, .slice (some ⟨w5.heap.size, 0, none⟩) 2 2] 24)
          exact ⟨q.trans (hb7.mono q.size), by simpa [catL, five] using ho7.rd⟩
        clear ho7 hb7 D6 hcv
        go_wp2_with fail
        refine (zeros_at _ (48 - 48) _ (by omega) (by omega)).mono ?_
        rintro e w8 ⟨a8, c8, rfl, ho8, hb8⟩
        have D8 : Hid (Below wr.heap.size wr w8 ∧ Rd .u8 w8 a7 12 (catF (five 4 2 2 2 2) (five (byteAt seq) (byteAt m) (byteAt (cntOf n)) (byteAt (48 : Nat)) (two 82 49)) 5) ∧ Rd .u8 w8 (shA a (m * 48) c) 48 (fun j => f (m * 48 + j)) ∧ Rd .u8 w8 a8 (48 - 48) (fun _ => 0)) := by
          have q := D7.out.1.trans (hb8.mono D7.out.1.size)
          exact ⟨q, D7.out.2.below hb8, RQ.out.below q, ho8.rd⟩
        clear ho8 hb8 D7
        go_wp2_with fail
        refine (l2Cat_any w8.heap.size 0 3 3 (three 12 48 (48 - 48)) (three (catF (five 4 2 2 2 2) (five (byteAt seq) (byteAt m) (byteAt (cntOf n)) (byteAt (48 : Nat)) (two 82 49)) 5) (fun j => f (m * 48 + j)) (fun _ => 0)) _ (rdS_three D8.out.2.1 D8.out.2.2.1 D8.out.2.2.2) (by omega) (fun k hk => ?_) (fun k hk => ?_)).mono ?_
        · match k, hk with
          | 0, _ => simp [catL]
          | 1, _ => simp [catL, three]
          | 2, _ => simp [catL, three] <;> omega
          | 3, _ => simp [catL, three] <;> omega
        · unfold three; split <;> (try split) <;> omega
        rintro e w9 ⟨a9, c9, rfl, ho9, hb9, -, -⟩
        have hcat : catL (three 12 48 (48 - 48)) 3 = 60 := by simp [catL, three] <;> omega
        have D9 : Hid (Below wr.heap.size wr w9 ∧ Rd .u8 w9 a9 60 (recH seq m (cntOf n) 48 (fun j => f (m * 48 + j)))) := by
          have q := D8.out.1.alloc D8.out.1.size (.cells #[.slice a7 12 c7, .slice (shA a (m * 48) c) 48 (c - m * 48), .slice a8 (48 - 48) c8] 24)
          have r := ho9.rd
          rw [hcat] at r
          exact ⟨q.trans (hb9.mono q.size), r.congr (fun j hj => rec_cat seq m (cntOf n) 48 _ hL48 _ (fun j hj => head_cat _ _ _ _ j hj) j hj)⟩
        rw [hcat]
        clear ho9 hb9 D8 hcat
        go_wp2_with fail
        refine (l2Seal_any a9 c9 (recH seq m (cntOf n) 48 (fun j => f (m * 48 + j))) _ D9.out.2 (fun j hj => recH_range seq m (cntOf n) 48 _ HPF.out j (by omega))).mono ?_
        rintro e w10 ⟨a10, c10, rfl, ho10, hb10, -, -⟩
        have D10 : Hid (Below wr.heap.size wr w10 ∧ OwnB w10 w1.heap.size a10 64 (secW n seq f m)) := by
          have q := D9.out.1.trans (hb10.mono D9.out.1.size)
          refine ⟨q, ?_⟩
          have r := ho10.mono (B' := w1.heap.size) (Nat.le_trans HS.out.below.size D9.out.1.size)
          unfold secW
          rw [hpl]
          exact r
        clear ho10 hb10 D9
        have HS10 := HS.out.keep (D10.out.1.trans ((below_alloc w10 (.cells #[.slice a10 64 c10] 24)).mono D10.out.1.size))
        have HO10 : Hid (OwnB (w10.alloc (.cells #[.slice a10 64 c10] 24)) w1.heap.size a10 64 (secW n seq f m)) := D10.out.2.below (below_alloc _ _)
        have HSX : Hid (SecsSt w1 (w10.alloc (.cells #[.slice a10 64 c10] 24)) n seq f m u6 A C) := HS10
        have hz10 : w1.heap.size ≤ (w10.alloc (.cells #[.slice a10 64 c10] 24)).heap.size := HS10.below.size
        clear HS10 D10 HS
        obtain ⟨i0, hi, hz0, hz1, hz2⟩ := info_parts infoBs
        go_wp2_with (at_builtin; refine wpList_append_own _ rfl _ _ 62 rfl w1.heap.size 24 i0 (.slice none 0 0) 1 24 underBss hi hz0 hz1 hz2 rfl (by decide) _ m _ rfl HSX.out.row ⟨w10.heap.size, 0, none⟩ 1 1 [.slice a10 64 c10] rfl rfl (cell_one_new _ _ _) (by intro u hu; simp at hu; subst hu; rfl) (by unfold maxLen; omega) (by omega) hz10 ?_)
        intro v' w11 hown11 hgr11 _
        have HN : Hid (SecsSt w1 w11 n seq f (m + 1) v' (fun j => if j = m then a10 else A j) (fun j => if j = m then c10 else C j)) := HSX.out.next HO10.out hgr11 hown11
        clear hown11 hgr11 HSX HO10
        go_wp2
        go_roundw
        case rel => exact ⟨m + 1, _, _, by omega, by go_num, HN.out⟩
        case measure => simp [intOf]; omega
      · have hgt : decide ((48 : Int) < ((n - m * 48 : Nat) : Int)) = false := by simp; omega
        have RQ : Hid (Rd .u8 wr (shA a (m * 48) c) (n - m * 48) (fun j => f (m * 48 + j))) := RP.out
        have hpl : plen n m = (n - m * 48) := by unfold plen; split <;> omega
        have HPF : Hid (∀ j, j < (n - m * 48) → 0 ≤ f (m * 48 + j) ∧ f (m * 48 + j) < 256) := fun j hj => HF.out _ (by omega)
        have hL48 : (n - m * 48) ≤ 48 := by omega
        clear RP
        go_wp2_with fail
        refine (l2Put_any seq 4 _ (by omega) (by omega) (by omega)).mono ?_
        rintro e w2 ⟨a2, c2, rfl, ho2, hb2, -, -⟩
        have D2 : Hid (Below wr.heap.size wr w2 ∧ Rd .u8 w2 a2 4 (byteAt seq)) := ⟨hb2, ho2.rd⟩
        clear ho2 hb2
        go_wp2_with fail
        refine (l2Put_any (m : Int) 2 _ (by omega) (by omega) (by omega)).mono ?_
        rintro e w3 ⟨a3, c3, rfl, ho3, hb3, -, -⟩
        have D3 : Hid (Below wr.heap.size wr w3 ∧ Rd .u8 w3 a2 4 (byteAt seq) ∧ Rd .u8 w3 a3 2 (byteAt m)) := ⟨D2.out.1.trans (hb3.mono D2.out.1.size), D2.out.2.below hb3, ho3.rd⟩
        clear ho3 hb3 D2
        go_wp2_with fail
        refine (l2Put_any (cntOf n : Int) 2 _ (by omega) (by omega) (by omega)).mono ?_
        rintro e w4 ⟨a4, c4, rfl, ho4, hb4, -, -⟩
        have D4 : Hid (Below wr.heap.size wr w4 ∧ Rd .u8 w4 a2 4 (byteAt seq) ∧ Rd .u8 w4 a3 2 (byteAt m) ∧ Rd .u8 w4 a4 2 (byteAt (cntOf n))) := ⟨D3.out.1.trans (hb4.mono D3.out.1.size), D3.out.2.1.below hb4, D3.out.2.2.below hb4, ho4.rd⟩
        clear ho4 hb4 D3
        go_wp2_with fail
        refine (l2Put_at _ (n - m * 48) 2 _ (by omega) (by omega) (by omega)).mono ?_
        rintro e w5 ⟨a5, c5, rfl, ho5, hb5, -, -⟩
        have D5 : Hid (Below wr.heap.size wr w5 ∧ Rd .u8 w5 a2 4 (byteAt seq) ∧ Rd .u8 w5 a3 2 (byteAt m) ∧ Rd .u8 w5 a4 2 (byteAt (cntOf n)) ∧ Rd .u8 w5 a5 2 (byteAt ((n - m * 48) : Nat))) := ⟨D4.out.1.trans (hb5.mono D4.out.1.size), D4.out.2.1.below hb5, D4.out.2.2.1.below hb5, D4.out.2.2.2.below hb5, ho5.rd⟩
        clear ho5 hb5 D4
        obtain ⟨w6, hcv, hx6⟩ := convMarkR (B := w5.heap.size) (w5.alloc (.cells #[.int .u8 82, .int .u8 49] 5)) w5.heap.size (0, 0) (Nat.le_refl _) (blk_alloc_new _ _)
        have D6 : Hid (Below wr.heap.size wr w6 ∧ Rd .u8 w6 a2 4 (byteAt seq) ∧ Rd .u8 w6 a3 2 (byteAt m) ∧ Rd .u8 w6 a4 2 (byteAt (cntOf n)) ∧ Rd .u8 w6 a5 2 (byteAt ((n - m * 48) : Nat)) ∧ Rd .u8 w6 (some ⟨w5.heap.size, 0, none⟩) 2 (two 82 49)) := by
          obtain ⟨q0, q1, q2, q3, q4⟩ := D5.out
          have qb := below_alloc w5 (.cells #[.int .u8 82, .int .u8 49] 5)
          exact ⟨(q0.trans (qb.mono q0.size)).trans (hx6.1.mono q0.size), hx6.rd (q1.below qb), hx6.rd (q2.below qb), hx6.rd (q3.below qb), hx6.rd (q4.below qb), hx6.rd (rdMarkR (blk_alloc_new _ _))⟩
        clear D5 hx6
        go_wp2_with fail
        refine (l2Cat_any w6.heap.size 0 5 5 (five 4 2 2 2 2) (five (byteAt seq) (byteAt m) (byteAt (cntOf n)) (byteAt ((n - m * 48) : Nat)) (two 82 49)) _ (rdS_five D6.out.2.1 D6.out.2.2.1 D6.out.2.2.2.1 D6.out.2.2.2.2.1 D6.out.2.2.2.2.2) (by omega) (fun k hk => ?_) (fun k hk => ?_)).mono ?_
        · match k, hk with
          | 0, _ => decide
          | 1, _ => decide
          | 2, _ => decide
          | 3, _ => decide
          | 4, _ => decide
          | 5, _ => decide
        · unfold five; split <;> (try split) <;> (try split) <;> (try split) <;> omega
        rintro e w7 ⟨a7, c7, rfl, ho7, hb7, -, -⟩
        have D7 : Hid (Below wr.heap.size wr w7 ∧ Rd .u8 w7 a7 12 (catF (five 4 2 2 2 2) (five (byteAt seq) (byteAt m) (byteAt (cntOf n)) (byteAt ((n - m * 48) : Nat)) (two 82 49)) 5)) := by
          have q := D6.out.1.alloc D6.out.1.size (.cells #[.slice a2 4 c2, .slice a3 2 c3, .slice a4 2 c4, .slice a5 2 c5, .slice (some ⟨w5.heap.size, 0, none⟩) 2 2] 24)
          exact ⟨q.trans (hb7.mono q.size), by simpa [catL, five] using ho7.rd⟩
        clear ho7 hb7 D6 hcv
        go_wp2_with fail
        refine (zeros_at _ (48 - (n - m * 48)) _ (by omega) (by omega)).mono ?_
        rintro e w8 ⟨a8, c8, rfl, ho8, hb8⟩
        have D8 : Hid (Below wr.heap.size wr w8 ∧ Rd .u8 w8 a7 12 (catF (five 4 2 2 2 2) (five (byteAt seq) (byteAt m) (byteAt (cntOf n)) (byteAt ((n - m * 48) : Nat)) (two 82 49)) 5) ∧ Rd .u8 w8 (shA a (m * 48) c) (n - m * 48) (fun j => f (m * 48 + j)) ∧ Rd .u8 w8 a8 (48 - (n - m * 48)) (fun _ => 0)) := by
          have q := D7.out.1.trans (hb8.mono D7.out.1.size)
          exact ⟨q, D7.out.2.below hb8, RQ.out.below q, ho8.rd⟩
        clear ho8 hb8 D7
        go_wp2_with fail
        refine (l2Cat_any w8.heap.size 0 3 3 (three 12 (n - m * 48) (48 - (n - m * 48))) (three (catF (five 4 2 2 2 2) (five (byteAt seq) (byteAt m) (byteAt (cntOf n)) (byteAt ((n - m * 48) : Nat)) (two 82 49)) 5) (fun j => f (m * 48 + j)) (fun _ => 0)) _ (rdS_three D8.out.2.1 D8.out.2.2.1 D8.out.2.2.2) (by omega) (fun k hk => ?_) (fun k hk => ?_)).mono ?_
        · match k, hk with
          | 0, _ => simp [catL]
          | 1, _ => simp [catL, three]
          | 2, _ => simp [catL, three] <;> omega
          | 3, _ => simp [catL, three] <;> omega
        · unfold three; split <;> (try split) <;> omega
        rintro e w9 ⟨a9, c9, rfl, ho9, hb9, -, -⟩
        have hcat : catL (three 12 (n - m * 48) (48 - (n - m * 48))) 3 = 60 := by simp [catL, three] <;> omega
        have D9 : Hid (Below wr.heap.size wr w9 ∧ Rd .u8 w9 a9 60 (recH seq m (cntOf n) (n - m * 48) (fun j => f (m * 48 + j)))) := by
          have q := D8.out.1.alloc D8.out.1.size (.cells #[.slice a7 12 c7, .slice (shA a (m * 48) c) (n - m * 48) (c - m * 48), .slice a8 (48 - (n - m * 48)) c8] 24)
          have r := ho9.rd
          rw [hcat] at r
          exact ⟨q.trans (hb9.mono q.size), r.congr (fun j hj => rec_cat seq m (cntOf n) (n - m * 48) _ hL48 _ (fun j hj => head_cat _ _ _ _ j hj) j hj)⟩
        rw [hcat]
        clear ho9 hb9 D8 hcat
        go_wp2_with fail
        refine (l2Seal_any a9 c9 (recH seq m (cntOf n) (n - m * 48) (fun j => f (m * 48 + j))) _ D9.out.2 (fun j hj => recH_range seq m (cntOf n) (n - m * 48) _ HPF.out j (by omega))).mono ?_
        rintro e w10 ⟨a10, c10, rfl, ho10, hb10, -, -⟩
        have D10 : Hid (Below wr.heap.size wr w10 ∧ OwnB w10 w1.heap.size a10 64 (secW n seq f m)) := by
          have q := D9.out.1.trans (hb10.mono D9.out.1.size)
          refine ⟨q, ?_⟩
          have r := ho10.mono (B' := w1.heap.size) (Nat.le_trans HS.out.below.size D9.out.1.size)
          unfold secW
          rw [hpl]
          exact r
        clear ho10 hb10 D9
        have HS10 := HS.out.keep (D10.out.1.trans ((below_alloc w10 (.cells #[.slice a10 64 c10] 24)).mono D10.out.1.size))
        have HO10 : Hid (OwnB (w10.alloc (.cells #[.slice a10 64 c10] 24)) w1.heap.size a10 64 (secW n seq f m)) := D10.out.2.below (below_alloc _ _)
        have HSX : Hid (SecsSt w1 (w10.alloc (.cells #[.slice a10 64 c10] 24)) n seq f m u6 A C) := HS10
        have hz10 : w1.heap.size ≤ (w10.alloc (.cells #[.slice a10 64 c10] 24)).heap.size := HS10.below.size
        clear HS10 D10 HS
        obtain ⟨i0, hi, hz0, hz1, hz2⟩ := info_parts infoBs
        go_wp2_with (at_builtin; refine wpList_append_own _ rfl _ _ 62 rfl w1.heap.size 24 i0 (.slice none 0 0) 1 24 underBss hi hz0 hz1 hz2 rfl (by decide) _ m _ rfl HSX.out.row ⟨w10.heap.size, 0, none⟩ 1 1 [.slice a10 64 c10] rfl rfl (cell_one_new _ _ _) (by intro u hu; simp at hu; subst hu; rfl) (by unfold maxLen; omega) (by omega) hz10 ?_)
        intro v' w11 hown11 hgr11 _
        have HN : Hid (SecsSt w1 w11 n seq f (m + 1) v' (fun j => if j = m then a10 else A j) (fun j => if j = m then c10 else C j)) := HSX.out.next HO10.out hgr11 hown11
        clear hown11 hgr11 HSX HO10
        go_wp2
        go_roundw
        case rel => exact ⟨m + 1, _, _, by omega, by go_num, HN.out⟩
        case measure => simp [intOf]; omega
    · have e : m = cntOf n := by omega
      subst e
      go_wp2
      go_ret
      exact HS.out.done
end Go.Proofs.Ytbpcafcipncloaa
