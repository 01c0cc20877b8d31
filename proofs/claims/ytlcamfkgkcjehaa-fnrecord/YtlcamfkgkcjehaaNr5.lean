import Derived.Test.YtlcamfkgkcjehaaNr3
import Derived.Laws.CopyOwn
import Derived.Deep.RegionHeld3
import Derived.Test.YtlcamfkgkcjehaaNr1
import Derived.Lib.LazyBuf
namespace Go.Proofs.Ytlcamfkgkcjehaa
open Go.RowKit Go.Deep
set_option linter.unusedVariables false
set_option maxRecDepth 100000

/-- A disk handed back in new memory. -/
def RetD (w : World) (e : Ending) (w' : World) (n : Nat) (d : Nat → Int) (m : Nat) (S : Nat → Int) (L : Nat → Nat) (F : Nat → Nat → Int) (fuel : Int) (dead : Bool) : Prop :=
  ∃ a' c' p' q' A', e = .returned (.agg #[.slice a' n c', .slice p' m q', .int .i64 fuel, .bool dead]) ∧ OwnD w' w.heap.size a' n d p' m S L F A' ∧ Below w.heap.size w w'

/-- The same, its writes in a row that can be appended to. -/
def RetG (w : World) (e : Ending) (w' : World) (n : Nat) (d : Nat → Int) (m : Nat) (S : Nat → Int) (L : Nat → Nat) (F : Nat → Nat → Int) (fuel : Int) (dead : Bool) : Prop :=
  ∃ a' c' p' q' A' C', e = .returned (.agg #[.slice a' n c', .slice p' m q', .int .i64 fuel, .bool dead]) ∧ OwnB w' w.heap.size a' n d ∧ Gath w' w.heap.size (.slice p' m q') m S L F A' C' ∧ (n ≠ 0 → ∀ i, i < m → L i ≠ 0 → A' i ≠ a') ∧ Below w.heap.size w w' ∧ n ≤ c' ∧ c' ≤ 9223372036854775807

theorem RetG.retD {w w' : World} {e : Ending} {n : Nat} {d : Nat → Int} {m : Nat} {S : Nat → Int} {L : Nat → Nat} {F : Nat → Nat → Int} {fuel : Int} {dead : Bool} (h : RetG w e w' n d m S L F fuel dead) : RetD w e w' n d m S L F fuel dead := by
  obtain ⟨a', c', p', q', A', C', he, h1, h2, h3, h4, -, -⟩ := h
  obtain ⟨p2, q2, hv, hp⟩ := h2.ownP
  injection hv with e1 _ e3
  subst e1 e3
  exact ⟨a', c', p', q', A', he, ⟨h1, hp, h3⟩, h4⟩

theorem step_append_made {ops : Array Oper} {o : Oper} {a : Act} {w2 : World} {K : Act → World → Prop} {Q : Exit → Act → World → Prop} {E : Prop} (hgd : o.guard = none) (x y : Operand)
    (ho : o.op = .call { callee := .builtin .append, args := #[x, y], argTypes := #[23, 23] })
    (B k : Nat) (v : Value) (xs : List Value) (u0 : Int) (u1 : Option Addr) (l1 c1 : Nat) (hx : a.eval x = v) (hown : w2.ownsRow B 49 2 v k xs) (hy : a.eval y = .slice (some ⟨w2.heap.size, 0, none⟩) 1 1)
    (hk : k ≤ 1048576) (hB : B ≤ w2.heap.size)
    (h : ∀ v' w', w'.ownsRow B 49 2 v' (k + 1) (xs ++ [.int .i64 u0, .slice u1 l1 c1]) → (w2.alloc (.cells #[.int .i64 u0, .slice u1 l1 c1] 49)).grownBy w' v.ownBlock → K (a.put o.dst v') w') :
    if Region.wanted o (yielded ops a.tmps) = true then Oper.wp Try.prog o a (w2.alloc (.cells #[.int .i64 u0, .slice u1 l1 c1] 49)) K Q else E :=
  step_append_pend hgd x y ho B k v xs hx (hown.alloc _) w2.heap.size 1 (.int .i64 u0) (.slice u1 l1 c1) hy (by simp) (by simp) rfl rfl hk (by simp; omega) h

theorem grown_cell {w2 w3 : World} {O : Obj} {row : Option Nat} (hg : (w2.alloc O).grownBy w3 row) {x : Addr} (hx : x.block < w2.heap.size) (hne : row ≠ some x.block) : w3.cell? x = w2.cell? x := by
  rw [World.cell?_of_block (w := w2.alloc O) (hg.block x.block (by simp; omega) (fun e => hne e.symm))]
  exact World.cell?_of_block (w := w2) (Below.heap_alloc _ _ _ hx)

set_option maxHeartbeats 2000000 in
theorem copyDisk_gath (a p : Option Addr) (n c m q : Nat) (d S : Nat → Int) (L : Nat → Nat) (F : Nat → Nat → Int) (fuel : Int) (dead : Bool) (w : World) (ha : Rd .u8 w a n d) (hp : RdP w p m S L F) (hn : n ≤ 1048576) (hm : m ≤ 1048576) (hL : ∀ i, i < m → L i ≤ 1048576) :
    Calls Try.prog 31 #[.agg #[.slice a n c, .slice p m q, .int .i64 fuel, .bool dead]] w fun e w' => RetG w e w' n d m S L F fuel dead := by
  have HA : Hid (Rd .u8 w a n d) := ha
  have HP : Hid (RdP w p m S L F) := hp
  have HL : Hid (∀ i, i < m → L i ≤ 1048576) := hL
  have HJ : Hid (∀ {W : World}, Below (w.heap.size + 2) ((w.alloc (.cells #[.slice a n c, .slice p m q, .int .i64 fuel, .bool dead] 25)).alloc (.cells #[.slice none 0 0, .slice none 0 0, .int .i64 0, .bool false] 25)) W → Below w.heap.size w W) := fun h => (((below_alloc _ _).trans ((below_alloc _ _).mono (by simp)))).trans (h.mono (by omega))
  clear ha hp hL
  go_enter Try.func31, Try.ntmps31
  go_wp2
  go_loopw [3, 5, 9] (fun v _ i wr => ∃ (k : Nat) (A : Nat → Option Addr) (C : Nat → Nat), k ≤ m ∧ i = .int .i64 k ∧ Gath wr (w.heap.size + 2) v k S L F A C ∧ Below (w.heap.size + 2) ((w.alloc (.cells #[.slice a n c, .slice p m q, .int .i64 fuel, .bool dead] 25)).alloc (.cells #[.slice none 0 0, .slice none 0 0, .int .i64 0, .bool false] 25)) wr) (fun _ _ i _ => m - (intOf i).toNat)
  case atStart => exact ⟨0, _, _, Nat.zero_le _, rfl, Gath.start _ _ _ _ _, Below.refl _ _⟩
  case round =>
    obtain ⟨k, A, C, hkm, rfl, hga, hbel⟩ := hrel
    have K3 : Hid (Below (w.heap.size + 2) ((w.alloc _).alloc _) wr) := hbel
    have hz3 : w.heap.size + 2 ≤ wr.heap.size := by have := hbel.size; simpa using this
    have GA : Hid (Gath wr (w.heap.size + 2) u3 k S L F A C) := hga
    clear hbel hga
    have hc3 : ∀ b o, b < w.heap.size + 2 → wr.cell? ⟨b, o, none⟩ = _ := fun b o hb => K3.out.cell (p := ⟨b, o, none⟩) hb
    have hf3 : ∀ b o, b < w.heap.size + 2 → wr.frozen? ⟨b, o, none⟩ = _ := fun b o hb => K3.out.frozen (p := ⟨b, o, none⟩) hb
    by_cases hlt : k < m
    · rcases HP.out.below (HJ.out K3.out) with h | ⟨b, o, hpa, hc⟩
      · omega
      subst hpa
      obtain ⟨c1, ad, cp, cc2, c3⟩ := hc k hlt
      have HLk := HL.out k hlt
      have C3 : Hid (Rd .u8 (wr.alloc (.cells #[.int .i64 (S k), .slice ad (L k) cp] 49)).drew ad (L k) (F k)) := c3.below (below_alloc _ _).drew
      clear hc c3
      have HC : Hid (∀ w2 : World, Below (wr.heap.size + 1) (wr.alloc (.cells #[.int .i64 (S k), .slice ad (L k) cp] 49)).drew w2 → w2.cell? ⟨wr.heap.size, 0, none⟩ = some (.int .i64 (S k)) ∧ w2.cell? ⟨wr.heap.size, 1, none⟩ = some (.slice ad (L k) cp)) := by
        intro w2 hb
        constructor
        · rw [hb.cell (p := ⟨wr.heap.size, 0, none⟩) (Nat.lt_succ_self _)]; simp
        · rw [hb.cell (p := ⟨wr.heap.size, 1, none⟩) (Nat.lt_succ_self _)]; simp
      have hv0 : ∀ g, Value.ownBlock u3 = some g → w.heap.size + 2 ≤ g ∧ g < wr.heap.size := fun g e => GA.out.row.lt g e
      have HV0 : Hid (∀ g, Value.ownBlock u3 = some g → w.heap.size + 2 ≤ g ∧ g < wr.heap.size) := hv0
      clear hv0
      have HT : Hid (∀ w2 : World, Below (wr.alloc (.cells #[.int .i64 (S k), .slice ad (L k) cp] 49)).drew.heap.size (wr.alloc (.cells #[.int .i64 (S k), .slice ad (L k) cp] 49)).drew w2 → Below wr.heap.size wr w2) := fun w2 hb => (below_alloc _ _).drew.trans (hb.mono (by simp))
      have HD : Hid (∀ (w2 w3 : World) (O : Obj), Below (wr.alloc (.cells #[.int .i64 (S k), .slice ad (L k) cp] 49)).drew.heap.size (wr.alloc (.cells #[.int .i64 (S k), .slice ad (L k) cp] 49)).drew w2 → (w2.alloc O).grownBy w3 (Value.ownBlock u3) → w3.cell? ⟨wr.heap.size, 0, none⟩ = some (.int .i64 (S k)) ∧ w3.cell? ⟨wr.heap.size, 1, none⟩ = some (.slice ad (L k) cp)) := by
        intro w2 w3 O hb hg
        have hs : wr.heap.size < w2.heap.size := by have := hb.size; simp at this; omega
        have hne : Value.ownBlock u3 ≠ some wr.heap.size := fun e => by have := HV0.out _ e; omega
        obtain ⟨q0, q1⟩ := HC.out w2 (hb.mono (by simp))
        exact ⟨(grown_cell hg (x := ⟨wr.heap.size, 0, none⟩) hs hne).trans q0, (grown_cell hg (x := ⟨wr.heap.size, 1, none⟩) hs hne).trans q1⟩
      have hk2 : k ≤ 1048576 := by omega
      go_wp2
      go_region_held3 (fun w' => w'.cell? ⟨wr.heap.size, 0, none⟩ = some (.int .i64 (S k)) ∧ w'.cell? ⟨wr.heap.size, 1, none⟩ = some (.slice ad (L k) cp)) (go_keep)
        (first
        | (go_at_call 25; refine (copyBytes_any ad (L k) cp (F k) (wr.alloc (.cells #[.int .i64 (S k), .slice ad (L k) cp] 49)).drew C3.out HLk).mono ?_; rintro e w2 ⟨a2, c2, rfl, ho2, hb2, -, -⟩; obtain ⟨y0, y1⟩ := HC.out w2 (hb2.mono (Nat.le_of_eq (alloc_size _ _).symm)))
        | (refine step_append_made (by rfl) (.tmp 13) (.tmp 20) (by rfl) (w.heap.size + 2) k u3 (pendRow S A L C k) (S k) a2 (L k) c2 (by rfl) (owns_below GA.out.row (HT.out w2 hb2)) (by rfl) hk2 (Nat.le_trans hz3 (HT.out w2 hb2).size) ?_; intro v3 w3 hr3 hg3; obtain ⟨y0, y1⟩ := HD.out w2 w3 _ hb2 hg3))
      have HX : Hid (Gath w3 (w.heap.size + 2) v3 (k + 1) S L F (fun i => if i = k then a2 else A i) (fun i => if i = k then c2 else C i) ∧ Below (w.heap.size + 2) ((w.alloc (.cells #[.slice a n c, .slice (some ⟨b, o, none⟩) m q, .int .i64 fuel, .bool dead] 25)).alloc (.cells #[.slice none 0 0, .slice none 0 0, .int .i64 0, .bool false] 25)) w3) := by
        have q1 := HT.out w2 hb2
        have q2 := q1.size
        refine ⟨GA.out.more hz3 (q1.alloc q2 _) a2 c2 ((ho2.below (below_alloc _ _)).mono (by simp)) hr3 hg3, ?_⟩
        exact ((K3.out.trans (q1.mono hz3)).alloc (by omega) _).grown hg3 (by simp; omega) (fun g e => (HV0.out g e).1)
      clear hr3 hg3 ho2 hb2 y0 y1 c1 cc2 hc3 hf3 C3 HC HD HT HV0
      go_wp2
      go_roundw
      case rel => exact ⟨k + 1, _, _, by omega, by go_num, HX.out⟩
      case measure => simp [intOf]; omega
    · have e : k = m := by omega
      subst e
      obtain ⟨p', q', hv, hop⟩ := GA.out.ownP
      subst hv
      have HOP : Hid (OwnP wr (w.heap.size + 2) p' k S L F A) := hop
      have HGA : Hid (Gath wr (w.heap.size + 2) (.slice p' k q') k S L F A C) := GA.out
      clear hop
      have C3 : Hid (Rd .u8 wr.drew a n d) := (HA.out.below (HJ.out K3.out)).below (Below.refl _ _).drew
      have x0 := hc3 w.heap.size 0 (by omega)
      have x2 := hc3 w.heap.size 2 (by omega)
      have x3 := hc3 w.heap.size 3 (by omega)
      simp at x0 x2 x3
      have HC : Hid (∀ w2 : World, Below wr.drew.heap.size wr.drew w2 → (w2.cell? ⟨w.heap.size, 0, none⟩ = some (.slice a n c) ∧ w2.cell? ⟨w.heap.size, 2, none⟩ = some (.int .i64 fuel) ∧ w2.cell? ⟨w.heap.size, 3, none⟩ = some (.bool dead)) ∧ (∀ o, w2.frozen? ⟨w.heap.size + 1, o, none⟩ = false) ∧ w2.cell? ⟨w.heap.size + 1, 0, none⟩ = some (.slice none 0 0) ∧ w2.cell? ⟨w.heap.size + 1, 1, none⟩ = some (.slice none 0 0) ∧ w2.cell? ⟨w.heap.size + 1, 2, none⟩ = some (.int .i64 0) ∧ w2.cell? ⟨w.heap.size + 1, 3, none⟩ = some (.bool false) ∧ w.heap.size + 1 < w2.heap.size) := by
        intro w2 hb
        have h1 : w.heap.size < wr.drew.heap.size := by show w.heap.size < wr.heap.size; omega
        have h2 : w.heap.size + 1 < wr.drew.heap.size := by show w.heap.size + 1 < wr.heap.size; omega
        have hs := hb.size
        refine ⟨⟨(hb.cell (p := ⟨w.heap.size, 0, none⟩) h1).trans x0, (hb.cell (p := ⟨w.heap.size, 2, none⟩) h1).trans x2, (hb.cell (p := ⟨w.heap.size, 3, none⟩) h1).trans x3⟩, fun o => ?_, ?_, ?_, ?_, ?_, by omega⟩
        · rw [hb.frozen (p := ⟨w.heap.size + 1, o, none⟩) h2]
          show wr.frozen? _ = _
          rw [hf3 _ _ (by omega)]
          simp
        all_goals
          rw [hb.cell (p := ⟨w.heap.size + 1, _, none⟩) h2]
          show wr.cell? _ = _
          rw [hc3 _ _ (by omega)]
          simp
      go_wp2
      go_region_held3 (fun w' => w'.cell? ⟨w.heap.size, 0, none⟩ = some (.slice a n c) ∧ w'.cell? ⟨w.heap.size, 2, none⟩ = some (.int .i64 fuel) ∧ w'.cell? ⟨w.heap.size, 3, none⟩ = some (.bool dead)) (go_keep)
        (first
        | (go_at_call 25; refine (copyBytes_any a n c d wr.drew C3.out hn).mono ?_; rintro e w2 ⟨a2, c2, rfl, ho2, hb2, hl2, hm2⟩; obtain ⟨⟨y0, y2, y3⟩, yf, r0, r1, r2, r3, rz⟩ := HC.out w2 hb2))
      have hb3 : Below wr.heap.size wr w2 := (Below.refl _ _).drew.trans (hb2.mono (by simp))
      have HX : Hid ((OwnB w2 (w.heap.size + 2) a2 n d ∧ Gath w2 (w.heap.size + 2) (.slice p' k q') k S L F A C ∧ (n ≠ 0 → ∀ i, i < k → L i ≠ 0 → A i ≠ a2)) ∧ Below w.heap.size w w2) := by
        refine ⟨⟨ho2.mono hz3, HGA.out.below hb3, fun hn0 i hi hl e => ?_⟩, (HJ.out K3.out).trans (hb3.mono (by omega))⟩
        have q1 := HOP.out.ltB.2 i hi hl
        rcases ho2 with h0 | ⟨g, rfl, hg, _⟩
        · exact hn0 h0
        · have := q1 _ e
          simp at this hg
          omega
      clear hb3 hb2 ho2 y0 y2 y3 yf x0 x2 x3 HC C3
      go_wp2
      refine bodyPost_ret (v := .agg #[.slice a2 n c2, .slice p' k q', .int .i64 fuel, .bool dead]) (by simp [results, Try.results31, go_sem, r0, r1, r2, r3]) rfl ⟨a2, c2, p', q', A, C, rfl, ?_, ?_, HX.out.1.2.2, ?_, hl2, hm2⟩
      · exact (((((HX.out.1.1.setOther (by simp) _).setOther (by simp) _).setOther (by simp) _).setOther (by simp) _)).mono (by omega)
      · exact (((((HX.out.1.2.1.setOther (by simp) _).setOther (by simp) _).setOther (by simp) _).setOther (by simp) _)).mono (by omega)
      · exact ((((HX.out.2.setCell (by simp) _).setCell (by simp) _).setCell (by simp) _).setCell (by simp) _)

theorem copyDisk_any (a p : Option Addr) (n c m q : Nat) (d S : Nat → Int) (L : Nat → Nat) (F : Nat → Nat → Int) (fuel : Int) (dead : Bool) (w : World) (ha : Rd .u8 w a n d) (hp : RdP w p m S L F) (hn : n ≤ 1048576) (hm : m ≤ 1048576) (hL : ∀ i, i < m → L i ≤ 1048576) :
    Calls Try.prog 31 #[.agg #[.slice a n c, .slice p m q, .int .i64 fuel, .bool dead]] w fun e w' => RetD w e w' n d m S L F fuel dead :=
  (copyDisk_gath a p n c m q d S L F fuel dead w ha hp hn hm hL).mono (fun e w' h => h.retD)
end Go.Proofs.Ytlcamfkgkcjehaa

namespace Go.Proofs.Ytlcamfkgkcjehaa
open Go.RowKit Go.Deep
set_option linter.unusedVariables false
set_option maxRecDepth 100000

theorem copied_row (cur : Array Value) (n s : Nat) (d f : Nat → Int) (hn : n ≤ cur.size) (hc : ∀ i, i < n → cur[i]? = some (.int .u8 (d i))) (hs : s * 64 + 64 ≤ n) :
    n ≤ (cur.toList.take (s * 64) ++ (byteRow f 64 ++ cur.toList.drop (s * 64 + (byteRow f 64).length))).toArray.size ∧
    ∀ i, i < n → (cur.toList.take (s * 64) ++ (byteRow f 64 ++ cur.toList.drop (s * 64 + (byteRow f 64).length))).toArray[i]? = some (.int .u8 (over d s f i)) := by
  rw [byteRow_length]
  refine ⟨by simp [byteRow_length]; omega, fun i hi => ?_⟩
  rw [List.getElem?_toArray]
  have hl : (cur.toList.take (s * 64)).length = s * 64 := by simp; omega
  by_cases h1 : i < s * 64
  · rw [List.getElem?_append_left (by omega), List.getElem?_take, if_pos h1]
    simp only [over, h1, if_true]
    rw [← hc i hi]
    simp
  · rw [List.getElem?_append_right (by omega), hl]
    by_cases h2 : i < s * 64 + 64
    · rw [List.getElem?_append_left (by rw [byteRow_length]; omega), byteRow_get _ _ _ (by omega)]
      simp [over, h1, h2]
    · rw [List.getElem?_append_right (by rw [byteRow_length]; omega), byteRow_length, List.getElem?_drop, show s * 64 + 64 + (i - s * 64 - 64) = i by omega]
      simp only [over, h1, h2, if_false]
      rw [← hc i hi]
      simp

/-- 'copy' of a sector's bytes into bytes of the call's own, as a step of a region that draws its order. -/
theorem step_copy_rd {ops : Array Oper} {o : Oper} {a : Act} {w : World} {K : Act → World → Prop} {Q : Exit → Act → World → Prop} {E : Prop} (hgd : o.guard = none) (x y : Operand)
    (ho : o.op = .call { callee := .builtin .copy, args := #[x, y], argTypes := #[22, 22] })
    (g n s dLen dCap sCap : Nat) (ad : Option Addr) (d f : Nat → Int) (hx : a.eval x = .slice (some ⟨g, s * 64, none⟩) dLen dCap) (hy : a.eval y = .slice ad 64 sCap) (hl : 64 ≤ dLen)
    (hrow : rowIn w g 5 n (fun i => .int .u8 (d i))) (hrd : Rd .u8 w ad 64 f) (hfit : s * 64 + 64 ≤ n)
    (h : ∀ w', rowIn w' g 5 n (fun i => .int .u8 (over d s f i)) → OnlyAt (some ⟨g, 0, none⟩) w w' → K (a.put o.dst (goInt 64)) w') :
    if Region.wanted o (yielded ops a.tmps) = true then Oper.wp Try.prog o a w K Q else E := by
  have hw : Region.wanted o (yielded ops a.tmps) = true := by simp [Region.wanted, hgd]
  rw [if_pos hw]
  rcases hrd with h0 | ⟨b, off, rfl, hc⟩
  · omega
  obtain ⟨cur, hg, hn, hcur⟩ := hrow
  have hrun := run_copy_row (P := Try.prog) w 22 22 o.type 5 g (s * 64) dLen dCap ⟨b, off, none⟩ 64 sCap cur 5 (byteRow f 64) Try.underlying22 (by kernel_rfl) hg (by rw [byteRow_length]; exact (Nat.min_eq_left hl).symm)
    (fun j u hj => by
      have hjm : j < 64 := by
        have := (List.getElem?_eq_some_iff.1 hj).1
        rwa [byteRow_length] at this
      rw [byteRow_get f 64 j hjm] at hj
      injection hj with hj
      subst hj
      have e : (Addr.add ⟨b, off, none⟩ j) = ⟨b, off + j, none⟩ := by
        unfold Addr.add
        by_cases h : j = 0
        · subst h; simp
        · simp [h]
      rw [e]
      exact hc j hjm) (by rw [byteRow_length]; omega)
    (fun u hu => by
      simp only [byteRow, List.mem_map] at hu
      obtain ⟨i, _, rfl⟩ := hu
      rfl)
  unfold Oper.wp
  simp [execOp, ho, resolve, invoke, builtin, hx, hy, hrun, Result.andThen]
  rw [byteRow_length]
  have hq := copied_row cur n s d f hn hcur hfit
  refine h _ ⟨_, setRow_heap w g _ _ _ _ hg, ?_, ?_⟩ ⟨rfl, rfl, rfl, by simp [World.setRow], fun k hk => setRow_other w g k _ (fun e => hk _ rfl (by simp [e]))⟩
  · simpa [byteRow_length] using hq.1
  · simpa [byteRow_length] using hq.2

set_option maxHeartbeats 1000000 in
theorem settle_any (g n c s cp : Nat) (ad : Option Addr) (d f : Nat → Int) (w : World) (hrow : rowIn w g 5 n (fun i => .int .u8 (d i))) (hrd : Rd .u8 w ad 64 f) (hfit : s * 64 + 64 ≤ n) (hnc : n ≤ c) (hcm : c ≤ 9223372036854775807) (hn : n ≤ 1048576) :
    Calls Try.prog 26 #[.slice (some ⟨g, 0, none⟩) n c, .agg #[.int .i64 s, .slice ad 64 cp]] w fun e w' => e = .returned (.tuple #[]) ∧ rowIn w' g 5 n (fun i => .int .u8 (over d s f i)) ∧ OnlyAt (some ⟨g, 0, none⟩) (w.alloc (.cells #[.int .i64 s, .slice ad 64 cp] 49)) w' := by
  have hlt := hrow.lt
  have HROW : Hid (∀ O, rowIn (w.alloc O).drew g 5 n (fun i => .int .u8 (d i))) := fun O => hrow.of_block (Below.heap_alloc _ _ _ hlt)
  have HRD : Hid (∀ O, Rd .u8 (w.alloc O).drew ad 64 f) := fun O => hrd.below (below_alloc _ _).drew
  have i1 : (s : Int) * 64 < (c : Int) := by omega
  have i0 : (0 : Int) ≤ (s : Int) * 64 := by omega
  have i2 : (s : Int) * 64 ≤ (n : Int) := by omega
  have j1 : ¬ c = s * 64 := by omega
  have j2 : IntKind.i64.wrap ((s : Int) * 64) = (s : Int) * 64 := by rw [IntKind.wrap_i64]; omega
  have j3 : ((s : Int) * 64).toNat = s * 64 := by omega
  have HC : Hid (∀ w1 : World, OnlyAt (some ⟨g, 0, none⟩) (w.alloc (.cells #[.int .i64 s, .slice ad 64 cp] 49)).drew w1 → w1.cell? ⟨w.heap.size, 0, none⟩ = some (.int .i64 s) ∧ w1.cell? ⟨w.heap.size, 1, none⟩ = some (.slice ad 64 cp)) := by
    intro w1 ho
    have hb : w1.heap[w.heap.size]? = ((w.alloc (.cells #[.int .i64 s, .slice ad 64 cp] 49)).drew).heap[w.heap.size]? := ho.block _ (fun x e => by injection e with e; subst e; show g ≠ w.heap.size; omega)
    constructor
    · rw [World.cell?_of_block (w := (w.alloc (.cells #[.int .i64 s, .slice ad 64 cp] 49)).drew) (a := ⟨w.heap.size, 0, none⟩) hb]; simp
    · rw [World.cell?_of_block (w := (w.alloc (.cells #[.int .i64 s, .slice ad 64 cp] 49)).drew) (a := ⟨w.heap.size, 1, none⟩) hb]; simp
  clear hrow hrd
  go_enter Try.func26, Try.ntmps26
  go_wp2
  go_region_held3 (fun w' => w'.cell? ⟨w.heap.size, 0, none⟩ = some (.int .i64 s) ∧ w'.cell? ⟨w.heap.size, 1, none⟩ = some (.slice ad 64 cp)) (go_keep)
    ((refine step_copy_rd (by rfl) (.tmp 8) (.tmp 10) (by rfl) g n s (n - s * 64) (c - s * 64) cp ad d f (by rfl) (by rfl) (by omega) (HROW.out _) (HRD.out _) hfit ?_; intro w1 hr1 ho1; obtain ⟨y0, y1⟩ := HC.out w1 ho1))
  go_end0
  exact ⟨rfl, hr1, ⟨ho1.os, ho1.tape, ho1.output, ho1.size, ho1.block⟩⟩
end Go.Proofs.Ytlcamfkgkcjehaa

namespace Go.Proofs.Ytlcamfkgkcjehaa
open Go.RowKit Go.Deep
set_option linter.unusedVariables false
set_option maxRecDepth 100000

/-- The sum that seals a sector. -/
def crcV (f : Nat → Int) : Int := bits .xor .u32 (crcTo f 60) 4294967295
theorem crcV_range (f : Nat → Int) : 0 ≤ crcV f ∧ crcV f < 4294967296 := xor_range _ _
/-- A sector sealed. -/
def sealF (f : Nat → Int) : Nat → Int := putN f 60 4 (crcV f)

theorem OnlyAt.trans {a : Option Addr} {w w1 w2 : World} (h : OnlyAt a w w1) (k : OnlyAt a w1 w2) : OnlyAt a w w2 :=
  ⟨k.os.trans h.os, k.tape.trans h.tape, k.output.trans h.output, k.size.trans h.size, fun x hx => (k.block x hx).trans (h.block x hx)⟩

set_option maxHeartbeats 1000000 in
theorem seal_any (g : Nat) (f : Nat → Int) (w : World) (h : Sec w g f) (hr : ∀ i, i < 60 → 0 ≤ f i ∧ f i < 256) :
    Calls Try.prog 77 #[.pointer (some ⟨g, 0, none⟩)] w fun e w' => e = .returned (.tuple #[]) ∧ Sec w' g (sealF f) ∧ OnlyAt (some ⟨g, 0, none⟩) w w' := by
  have H : Hid (Sec w g f) := h
  have HR : Hid (∀ i, i < 60 → 0 ≤ f i ∧ f i < 256) := hr
  have HRD : Hid (Rd .u8 w (some ⟨g, 0, none⟩) 60 f) := (h.rd 0 60 (by omega)).congr (fun i hi => by simp)
  have hc := (crcV_range f)
  clear h hr
  go_enter Try.func77, Try.ntmps77
  go_wp2_with fail
  refine (implCrc_any _ 60 _ f w HRD.out HR.out (by omega)).mono ?_
  rintro e w1 ⟨rfl, rfl⟩
  have hcv : bits .xor .u32 (crcTo f 60) 4294967295 = crcV f := rfl
  rw [hcv]
  clear hcv
  generalize hq : crcV f = cv at *
  go_wp2_with fail
  refine (putNumber_any g 60 4 cv f w1 H.out (by omega) (by omega)).mono ?_
  rintro e w2 ⟨rfl, hs, ho⟩
  have HX : Hid (Sec w2 g (sealF f) ∧ OnlyAt (some ⟨g, 0, none⟩) w1 w2) := ⟨by unfold sealF; rw [hq]; exact hs, ho⟩
  clear hs ho hq
  go_wp2
  go_end0
  exact ⟨rfl, HX.out⟩

theorem size1 : ∀ w, (Go.sizeOf 5).run Try.prog w = .ok 1 w := fun w => by kernel_rfl
theorem underBytes : Try.prog.underlying 22 = some (.slice 5) := by kernel_rfl

/-- 'copy' of two letters into a sector. -/
theorem copy_two (w : World) (g k dLen dCap : Nat) (x0 x1 : UInt8) (f : Nat → Int) (hs : Sec w g f) (hle : 2 ≤ dLen) (hk : k + 2 ≤ 64) :
    ∃ w', (Builtin.copy_ #[22, 9] 3 #[.slice (some ⟨g, k, none⟩) dLen dCap, .string ⟨#[x0, x1]⟩]).run Try.prog w = .ok (goInt 2) w' ∧ Sec w' g (fun j => if j = k + 1 then (x1.toNat : Int) else if j = k then (x0.toNat : Int) else f j) ∧ OnlyAt (some ⟨g, 0, none⟩) w w' :=
  ⟨_, run_copy_string (P := Try.prog) w 22 9 3 5 g k dLen dCap ⟨#[x0, x1]⟩ underBytes size1 hle (fun j hj => by
      have : j < 2 := hj
      rw [hs.cell (by omega)]; rfl) (fun j hj => hs.frozen _), (hs.set k x0.toNat).set (k + 1) x1.toNat, ((OnlyAt.refl _ _).setCell k _).setCell (k + 1) _⟩

/-- The head of a super's sector. -/
def superH (gen ar fi : Int) : Nat → Int := putN (putN (fun j => if j = 4 + 1 then 49 else if j = 4 then 81 else putN (fun _ => 0) 0 4 gen j) 6 1 ar) 8 4 fi
def superF (gen ar fi : Int) : Nat → Int := sealF (superH gen ar fi)

theorem putN_range {f : Nat → Int} {n o k : Nat} {v : Int} (h : ∀ i, i < n → 0 ≤ f i ∧ f i < 256) : ∀ i, i < n → 0 ≤ putN f o k v i ∧ putN f o k v i < 256 := by
  intro i hi
  unfold putN
  split
  · exact byteAt_range _ _
  · exact h i hi
theorem zeroSec : (#[.int .u8 0, .int .u8 0, .int .u8 0, .int .u8 0, .int .u8 0, .int .u8 0, .int .u8 0, .int .u8 0, .int .u8 0, .int .u8 0, .int .u8 0, .int .u8 0, .int .u8 0, .int .u8 0, .int .u8 0, .int .u8 0, .int .u8 0, .int .u8 0, .int .u8 0, .int .u8 0, .int .u8 0, .int .u8 0, .int .u8 0, .int .u8 0, .int .u8 0, .int .u8 0, .int .u8 0, .int .u8 0, .int .u8 0, .int .u8 0, .int .u8 0, .int .u8 0, .int .u8 0, .int .u8 0, .int .u8 0, .int .u8 0, .int .u8 0, .int .u8 0, .int .u8 0, .int .u8 0, .int .u8 0, .int .u8 0, .int .u8 0, .int .u8 0, .int .u8 0, .int .u8 0, .int .u8 0, .int .u8 0, .int .u8 0, .int .u8 0, .int .u8 0, .int .u8 0, .int .u8 0, .int .u8 0, .int .u8 0, .int .u8 0, .int .u8 0, .int .u8 0, .int .u8 0, .int .u8 0, .int .u8 0, .int .u8 0, .int .u8 0, .int .u8 0] : Array Value) = secA (fun _ => 0) := rfl

end Go.Proofs.Ytlcamfkgkcjehaa
