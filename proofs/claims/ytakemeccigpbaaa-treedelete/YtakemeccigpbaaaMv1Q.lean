import Derived.Test.YtakemeccigpbaaaInsL
import Derived.Test.YtakemeccigpbaaaTkMQ
import Derived.Test.YtakemeccigpbaaaTiP
import Derived.Test.YtakemeccigpbaaaTrG
import Derived.Test.YtakemeccigpbaaaMu1Q
import Derived.Test.YtakemeccigpbaaaTkIQ
import Derived.Test.YtakemeccigpbaaaTiL
import Derived.Test.YtakemeccigpbaaaTiIQ
import Derived.Lib.AppendZerosOnto
import Derived.Laws.NewBlocks
import Derived.Shelf.Spec.SlicesInsert
import Derived.Test.YtakemeccigpbaaaTsT
import Derived.Test.YtakemeccigpbaaaTiN
namespace Go.Proofs.Ytakemeccigpbaaa
open Go.RowKit Go.Deep
set_option linter.unusedVariables false
set_option maxRecDepth 100000

theorem row_sets {g : Nat} {t : TypeId} : ∀ (vs : List Value) (o : Nat) (w : World) (cur : Array Value), w.heap[g]? = some (.cells cur t (0, 0)) → o + vs.length ≤ cur.size → ∃ cur' : Array Value, (w.setCells g o vs).heap[g]? = some (.cells cur' t (0, 0)) ∧ cur'.size = cur.size ∧ ∀ j, cur'[j]? = if o ≤ j ∧ j < o + vs.length then vs[j - o]? else cur[j]?
  | [], o, w, cur, h, hl => ⟨cur, h, rfl, fun j => by rw [if_neg (by simp)]⟩
  | v :: r, o, w, cur, h, hl => by
    rw [List.length_cons] at hl
    have h1 : (w.setCell ⟨g, o, none⟩ v).heap[g]? = some (.cells (cur.setIfInBounds o v) t (0, 0)) := by
      simp [World.setCell, Array.getElem?_modify, h]
    obtain ⟨cur', e1, e2, e3⟩ := row_sets r (o + 1) (w.setCell ⟨g, o, none⟩ v) (cur.setIfInBounds o v) h1 (by simp; omega)
    refine ⟨cur', e1, by rw [e2]; simp, fun j => ?_⟩
    rw [e3 j, List.length_cons]
    by_cases q : o + 1 ≤ j ∧ j < o + 1 + r.length
    · rw [if_pos q, if_pos (by omega), show j - o = (j - (o + 1)) + 1 by omega, List.getElem?_cons_succ]
    · rw [if_neg q, Array.getElem?_setIfInBounds]
      by_cases e : o = j
      · subst e
        rw [if_pos rfl, if_pos (by omega), if_pos (by omega)]
        simp
      · rw [if_neg e, if_neg (by omega)]

theorem grown_sets (g : Nat) : ∀ (vs : List Value) (o : Nat) (w : World), w.grownBy (w.setCells g o vs) (some g)
  | [], o, w => grown_refl _ _
  | v :: r, o, w => grown_trans (grown_set _ _ _ _) (grown_sets g r (o + 1) _)
/-- What slices.Insert hands back: the row in its place, grown, or a new one. -/
def RetIns (B : Nat) (w0 w : World) (a : Option Addr) (L : List ByteArray) (e : Ending) (w' : World) : Prop :=
  ∃ a' c', e = .returned (.slice a' L.length c') ∧ w'.ownsRow B 9 1 (.slice a' L.length c') L.length (strL L) ∧ w.grownBy w' (a.map (·.block)) ∧ (a' = a ∨ ∃ g, a' = some ⟨g, 0, none⟩ ∧ w0.heap.size < g)

theorem strL_one (L : List ByteArray) : ∀ v ∈ strL L, v.oneCell' = true := by
  intro v hv
  unfold strL at hv
  obtain ⟨x, _, rfl⟩ := List.mem_map.1 hv
  rfl
theorem strL_take (L : List ByteArray) (i : Nat) : (strL L).take i = strL (L.take i) := by simp [strL]
theorem strL_drop (L : List ByteArray) (i : Nat) : (strL L).drop i = strL (L.drop i) := by simp [strL]

end Go.Proofs.Ytakemeccigpbaaa

namespace Go.Proofs.Ytakemeccigpbaaa
open Go.RowKit Go.Deep
set_option linter.unusedVariables false
set_option maxRecDepth 100000

/-- Of what was there only a node's own cells and its row have turned. -/
def Only2 (w w' : World) (b : Nat) (a : Option Addr) : Prop := w'.os = w.os ∧ w'.tape = w.tape ∧ w'.output = w.output ∧ w.heap.size ≤ w'.heap.size ∧ ∀ k, k < w.heap.size → k ≠ b → a.map (·.block) ≠ some k → w'.heap[k]? = w.heap[k]?

/-- What a leaf's insert does. -/
def RetLi (B b : Nat) (ka : Option Addr) (L : List ByteArray) (key : ByteArray) (w : World) (e : Ending) (w' : World) : Prop :=
  (key ∈ L ∧ e = .returned (.bool false) ∧ w' = w) ∨
  (¬ key ∈ L ∧ e = .returned (.bool true) ∧ Only2 w w' b ka ∧ ∃ a' c', Bx w' b 57 #[.int .i64 ((insK key L).length : Int), .slice a' (insK key L).length c'] ∧ w'.ownsRow B 9 1 (.slice a' (insK key L).length c') (insK key L).length (strL (insK key L)) ∧ (a' = ka ∨ ∃ g, a' = some ⟨g, 0, none⟩ ∧ w.heap.size < g))

end Go.Proofs.Ytakemeccigpbaaa

namespace Go.Proofs.Ytakemeccigpbaaa
open Go.RowKit Go.Deep
set_option linter.unusedVariables false
set_option maxRecDepth 100000

set_option maxHeartbeats 1000000 in
theorem sizeLeaf_any (b n kc : Nat) (ka : Option Addr) (v0 : Value) (w : World) (h : Bx w b 57 #[v0, .slice ka n kc]) :
    Calls Try.prog 140 #[.pointer (some ⟨b, 0, none⟩)] w fun e w' => e = .returned (.int .i64 (n : Int)) ∧ w' = w := by
  have c1 := h.cell 1
  have hl := h.lt
  simp at c1
  clear h
  go_enter Try.func140, Try.ntmps140
  go_wp2
  go_ret
  exact ⟨rfl, rfl⟩

set_option maxHeartbeats 1000000 in
theorem sizeInner_any (b n kc : Nat) (ka : Option Addr) (v0 : Value) (w : World) (h : Bx w b 96 #[v0, .slice ka n kc]) :
    Calls Try.prog 55 #[.pointer (some ⟨b, 0, none⟩)] w fun e w' => e = .returned (.int .i64 (n : Int)) ∧ w' = w := by
  have c1 := h.cell 1
  have hl := h.lt
  simp at c1
  clear h
  go_enter Try.func55, Try.ntmps55
  go_wp2
  go_ret
  exact ⟨rfl, rfl⟩

end Go.Proofs.Ytakemeccigpbaaa

namespace Go.Proofs.Ytakemeccigpbaaa
open Go.RowKit Go.Deep
set_option linter.unusedVariables false
set_option maxRecDepth 100000

/-- A slice of one-cell values that can be read. -/
def RdV (w : World) (a : Option Addr) (n : Nat) (xs : List Value) : Prop :=
  xs.length = n ∧ (∀ u ∈ xs, u.oneCell' = true) ∧ (n = 0 ∨ ∃ b o, a = some ⟨b, o, none⟩ ∧ b < w.heap.size ∧ ∀ j u, xs[j]? = some u → w.cell? ⟨b, o + j, none⟩ = some u)
theorem RdV.below {w w' : World} {a : Option Addr} {n : Nat} {xs : List Value} (h : RdV w a n xs) (hb : Below w.heap.size w w') : RdV w' a n xs := by
  refine ⟨h.1, h.2.1, ?_⟩
  rcases h.2.2 with q | ⟨b, o, rfl, hl, hc⟩
  · exact Or.inl q
  · exact Or.inr ⟨b, o, rfl, by have := hb.size; omega, fun j u hj => (hb.cell (p := ⟨b, o + j, none⟩) hl).trans (hc j u hj)⟩

theorem wpList_append_vS {w : World} {ops : Array Oper} {rest : List Oper} {o : Oper} {act : Act} {Q : Exit → Act → World → Prop} (hgd : o.guard = none) (s x : Operand)
    (ho : o.op = .call { callee := .builtin .append, args := #[s, x], argTypes := #[27, 27] })
    (B : Nat) (v : Value) (n : Nat) (xs : List Value) (hs : act.eval s = v) (hown : w.ownsRow B 9 1 v n xs)
    (a : Option Addr) (m c : Nat) (ys : List Value) (hx : act.eval x = .slice a m c) (hrd : RdV w a m ys) (hnm : n + m ≤ 1048576) (hB : B ≤ w.heap.size)
    (h : ∀ v' w', w'.ownsRow B 9 1 v' (n + m) (xs ++ ys) → w.grownBy w' v.ownBlock → wpList Try.prog ops Q rest (act.put o.dst v') w') : wpList Try.prog ops Q (o :: rest) act w := by
  obtain ⟨i0, hi, hz0, hz1, hz2⟩ := info_parts Try.info9
  obtain ⟨hl, h1, hrd⟩ := hrd
  by_cases hm0 : m = 0
  · subst hm0
    have hL : ys = [] := List.length_eq_zero_iff.1 hl
    subst hL
    have hsrc : Src Try.prog i0.size 27 (.slice a 0 c) 0 [] w := by
      cases a with
      | none => exact Src.ofNil w Try.underlying27 c
      | some ad => exact Src.ofSlice w Try.underlying27 ad 0 c [] (by simp) (by simp) (by simp)
    have hsh : ∃ b l cap, v = .slice b l cap ∧ l ≤ cap := by
      rcases hown.2 with ⟨rfl, rfl⟩ | ⟨g, cap, cur, rfl, _, _, h1, _⟩
      · exact ⟨none, 0, 0, rfl, Nat.le_refl _⟩
      · exact ⟨_, n, cap, rfl, h1⟩
    obtain ⟨b, l, cap, hvv, hlc⟩ := hsh
    have hrun := run_append_nothing (P := Try.prog) w 27 27 o.type 9 i0 Try.underlying27 hi b l cap hlc (.slice a 0 c) hsrc
    rw [← hvv] at hrun
    refine wpList_plain hgd fun K hK => ?_
    unfold Oper.wp
    simp [execOp, ho, resolve, invoke, builtin, hs, hx, hrun, Result.andThen]
    exact hK _ _ (h v w (by simpa using hown) ⟨rfl, rfl, rfl, Nat.le_refl _, fun _ _ _ => rfl⟩)
  · rcases hrd with h0 | ⟨b, off, rfl, _, hc⟩
    · exact absurd h0 hm0
    · refine wpList_append_own_at w hgd s x 27 ho B 9 i0 _ 1 16 Try.underlying27 hi hz0 hz1 hz2 rfl (by decide) v n xs hs hown ⟨b, off, none⟩ m c ys hx (by omega) (fun j u hj => ?_) h1 (by unfold maxLen; omega) (by omega) hB (fun v' w' h1 h2 _ _ => h v' w' h1 h2)
      have e : (Addr.add ⟨b, off, none⟩ j) = ⟨b, off + j, none⟩ := by
        unfold Addr.add
        by_cases h : j = 0
        · subst h; simp
        · simp [h]
      rw [e]
      exact hc j u hj

set_option maxHeartbeats 1000000 in
theorem growS_any (n : Nat) (h0 : 0 < n) (hn : n ≤ 1000) (w : World) :
    Calls Try.prog 88 #[.slice none 0 0, .int .i64 (n : Int)] w fun e w' => ∃ c, e = .returned (.slice (some ⟨w.heap.size, 0, none⟩) 0 c) ∧ w'.ownsRow w.heap.size 9 1 (.slice (some ⟨w.heap.size, 0, none⟩) 0 c) 0 [] ∧ Below w.heap.size w w' := by
  obtain ⟨i0, hi0, hz0, hzs, hzb⟩ := info_parts Try.info9
  have hrz : ∀ ty, (Builtin.append_ #[27, 3] ty #[.slice none 0 0, .int .i64 (n : Int)]).run Try.prog w = .ok (.slice (some ⟨w.heap.size, 0, none⟩) n (grownCap w n 0 9)) (w.drew.alloc (.cells (#[] ++ Builtin.zeroCells (Value.string { data := #[] }).cells n ++ Builtin.zeroCells (Value.string { data := #[] }).cells (grownCap w n 0 9 - n)) 9)) := fun ty => by
    have h := Lib.run_append_grow_zeros w 27 3 ty 9 i0 _ .i64 .i64 Try.underlying27 Try.underlying3 hi0 hz0 none 0 0 [] (by simp [run_firstCells_none]) n (by omega) (by omega) (by omega) (by omega) (by rw [hzb]; omega) (by rw [hzb]; exact growslice_fits (by omega) (by omega))
    simpa using h
  obtain ⟨G, hG⟩ : ∃ G, G = grownCap w n 0 9 := ⟨_, rfl⟩
  have hGn : n ≤ G := by rw [hG]; exact grownCap_ge w _ _ _
  have hG63 : G ≤ 9223372036854775807 := by
    have := grownCap_le_maxLen w n 0 9 (by unfold maxLen; omega)
    rw [← hG] at this
    unfold maxLen at this
    omega
  rw [← hG] at hrz
  obtain ⟨ROW, hROW⟩ : ∃ ROW : Array Value, ROW = #[] ++ Builtin.zeroCells (Value.string { data := #[] }).cells n ++ Builtin.zeroCells (Value.string { data := #[] }).cells (G - n) := ⟨_, rfl⟩
  rw [← hROW] at hrz
  have HO : Hid ((w.drew.alloc (.cells ROW 9)).ownsRow w.heap.size 9 1 (.slice (some ⟨w.heap.size, 0, none⟩) 0 G) 0 []) := by
    refine ⟨rfl, Or.inr ⟨w.heap.size, G, ROW, rfl, Nat.le_refl _, blk_alloc_new w.drew _, Nat.zero_le _, by unfold maxLen; omega, ?_, by simp⟩⟩
    rw [hROW]
    simp [Builtin.zeroCells, Value.cells]
    omega
  have HBl : Hid (Below w.heap.size w (w.drew.alloc (.cells ROW 9))) := (Below.refl w.heap.size w).drew.trans (show Below w.heap.size w.drew _ from below_alloc w.drew _)
  have i1 : ¬ (n : Int) < 0 := by omega
  have i2 : (0 : Int) < (n : Int) := by omega
  have i1d : decide ((n : Int) < 0) = false := decide_eq_false i1
  have i2d : decide ((0 : Int) < (n : Int)) = true := decide_eq_true i2
  clear hROW hG hi0 hz0 hzs hzb
  go_enter Try.func88, Try.ntmps88
  go_wp2_with (at_builtin; refine Lib.wpList_append_run _ rfl _ _ _ _ rfl _ _ rfl rfl _ _ (hrz _) ?_)
  go_ret
  exact ⟨G, rfl, HO.out, HBl.out⟩

set_option maxHeartbeats 4000000 in
theorem concatS_any (g c n1 n2 c1 c2 : Nat) (a1 a2 : Option Addr) (xs ys : List Value) (w : World) (hg0 : w.cell? ⟨g, 0, none⟩ = some (.slice a1 n1 c1)) (hg1 : w.cell? ⟨g, 1, none⟩ = some (.slice a2 n2 c2)) (h1 : RdV w a1 n1 xs) (h2 : RdV w a2 n2 ys) (h0 : 0 < n1 + n2) (hn : n1 + n2 ≤ 1000) :
    Calls Try.prog 85 #[.slice (some ⟨g, 0, none⟩) 2 c] w fun e w' => ∃ gg cc, e = .returned (.slice (some ⟨gg, 0, none⟩) (n1 + n2) cc) ∧ w'.ownsRow w.heap.size 9 1 (.slice (some ⟨gg, 0, none⟩) (n1 + n2) cc) (n1 + n2) (xs ++ ys) ∧ Below w.heap.size w w' := by
  have HC : Hid (∀ W, Below w.heap.size w W → W.cell? ⟨g, 0, none⟩ = some (.slice a1 n1 c1) ∧ W.cell? ⟨g, 1, none⟩ = some (.slice a2 n2 c2) ∧ RdV W a1 n1 xs ∧ RdV W a2 n2 ys) := by
    intro W hW
    have hl := World.block_lt_of_cell? _ _ hg0
    exact ⟨(hW.cell (p := ⟨g, 0, none⟩) hl).trans hg0, (hW.cell (p := ⟨g, 1, none⟩) hl).trans hg1, h1.below hW, h2.below hW⟩
  clear h1 h2
  go_enter Try.func85, Try.ntmps85
  go_wp2
  go_loopw [3, 11] (fun q i wr => ∃ k : Nat, k ≤ 2 ∧ i = .int .i64 k ∧ q = .int .i64 (((if k = 0 then 0 else if k = 1 then n1 else n1 + n2 : Nat)) : Int) ∧ wr = w) (fun _ i _ => 2 - (intOf i).toNat)
  case atStart => exact ⟨0, by omega, rfl, rfl, rfl⟩
  case round =>
    obtain ⟨k, hk, rfl, rfl, hw⟩ := hrel
    have hw' := hw.symm
    clear hw
    subst hw'
    by_cases k0 : k = 0
    · subst k0
      go_wp2
      go_roundw
      case rel => exact ⟨1, by omega, by go_num, by first | go_num | simp, by simp⟩
      case measure => simp [intOf]
    · by_cases k1 : k = 1
      · subst k1
        have i1 : ¬ ((n1 : Int) + (n2 : Int)) < 0 := by omega
        have i1d : decide (((n1 : Int) + (n2 : Int)) < 0) = false := decide_eq_false i1
        go_wp2
        go_roundw
        case rel => exact ⟨2, by omega, by go_num, by first | go_num | simp, by simp⟩
        case measure => simp [intOf]
      · have k2 : k = 2 := by omega
        subst k2
        have HGr : Hid (Calls Try.prog 88 #[.slice none 0 0, .int .i64 ((n1 : Int) + (n2 : Int))] w fun e w' => ∃ c, e = .returned (.slice (some ⟨w.heap.size, 0, none⟩) 0 c) ∧ w'.ownsRow w.heap.size 9 1 (.slice (some ⟨w.heap.size, 0, none⟩) 0 c) 0 [] ∧ Below w.heap.size w w') := by
          have := growS_any (n1 + n2) h0 hn w
          rw [show (((n1 + n2 : Nat)) : Int) = (n1 : Int) + (n2 : Int) by omega] at this
          exact this
        clear hg0 hg1
        go_wp2_with fail
        (with_reducible refine HGr.out.mono ?_)
        rintro e w1 ⟨gc, rfl, ho1, hb1⟩
        have H1 : Hid (w1.ownsRow w.heap.size 9 1 (.slice (some ⟨w.heap.size, 0, none⟩) 0 gc) 0 [] ∧ Below w.heap.size w w1) := ⟨ho1, hb1⟩
        clear ho1 hb1 HGr
        go_wp2
        go_loopw [6, 27] (fun q i wx => ∃ (k nv cv : Nat) (av : Option Addr), k ≤ 2 ∧ i = .int .i64 k ∧ q = .slice av nv cv ∧ nv = (if k = 0 then 0 else if k = 1 then n1 else n1 + n2) ∧ wx.ownsRow w.heap.size 9 1 (.slice av nv cv) nv (if k = 0 then [] else if k = 1 then xs else xs ++ ys) ∧ Below w.heap.size w wx) (fun _ i _ => 2 - (intOf i).toNat)
        case atStart => exact ⟨0, 0, _, _, by omega, rfl, rfl, rfl, H1.out.1, H1.out.2⟩
        case round =>
          obtain ⟨k, nv, cv, av, hk, rfl, rfl, hnv, ho, hb⟩ := hrel
          have HS : Hid (wr.ownsRow w.heap.size 9 1 (.slice av nv cv) nv (if k = 0 then [] else if k = 1 then xs else xs ++ ys) ∧ Below w.heap.size w wr) := ⟨ho, hb⟩
          obtain ⟨y0, y1, r1, r2⟩ := HC.out wr hb
          have HR : Hid (RdV wr a1 n1 xs ∧ RdV wr a2 n2 ys) := ⟨r1, r2⟩
          have hbs := hb.size
          clear ho hb r1 r2
          by_cases k0 : k = 0
          · subst k0
            have e0 : nv = 0 := by simpa using hnv
            subst e0
            clear hnv
            go_wp2_with (at_builtin; refine wpList_append_vS rfl _ _ rfl w.heap.size (.slice av 0 cv) 0 [] rfl HS.out.1 a1 n1 c1 xs rfl HR.out.1 (by omega) hbs ?_)
            intro v' w' ho' hg'
            obtain ⟨av', cv', ev, _⟩ := own_form ho'
            subst ev
            have HX : Hid (w'.ownsRow w.heap.size 9 1 (.slice av' (0 + n1) cv') (0 + n1) xs ∧ Below w.heap.size w w') := ⟨by simpa using ho', HS.out.2.grown hg' hbs (fun g e => (own_lt HS.out.1 g e).1)⟩
            clear ho' hg'
            go_wp2
            go_roundw
            case rel => exact ⟨1, 0 + n1, cv', av', by omega, by go_num, by simp, by simp, HX.out⟩
            case measure => simp [intOf]
          · by_cases k1 : k = 1
            · subst k1
              have e1 : nv = n1 := by simpa using hnv
              subst e1
              clear hnv
              go_wp2_with (at_builtin; refine wpList_append_vS rfl _ _ rfl w.heap.size (.slice av nv cv) nv xs rfl HS.out.1 a2 n2 c2 ys rfl HR.out.2 (by omega) hbs ?_)
              intro v' w' ho' hg'
              obtain ⟨av', cv', ev, _⟩ := own_form ho'
              subst ev
              have HX : Hid (w'.ownsRow w.heap.size 9 1 (.slice av' (nv + n2) cv') (nv + n2) (xs ++ ys) ∧ Below w.heap.size w w') := ⟨ho', HS.out.2.grown hg' hbs (fun g e => (own_lt HS.out.1 g e).1)⟩
              clear ho' hg'
              go_wp2
              go_roundw
              case rel => exact ⟨2, nv + n2, cv', av', by omega, by go_num, rfl, by simp, HX.out⟩
              case measure => simp [intOf]
            · have k2 : k = 2 := by omega
              subst k2
              have e2 : nv = n1 + n2 := by simpa using hnv
              subst e2
              clear hnv
              obtain ⟨av', cv', e, hf⟩ := own_form HS.out.1
              injection e with e1 _ e3
              subst e1 e3
              obtain ⟨gg, rfl, _⟩ := hf (by omega)
              go_wp2
              go_ret
              exact ⟨gg, cv, rfl, by simpa using HS.out.1, HS.out.2⟩

set_option maxHeartbeats 1000000 in
theorem cutS_any (g n c k : Nat) (w : World) (hk : k ≤ n) (hn : n ≤ c) (hkn : k < n) :
    Calls Try.prog 84 #[.slice (some ⟨g, 0, none⟩) n c, .int .i64 (k : Int)] w fun e w' => e = .returned (.tuple #[.slice (some ⟨g, 0, none⟩) k k, .slice (some ⟨g, k, none⟩) (n - k) (c - k)]) ∧ w' = w.drew := by
  have s1 : ∀ W : World, (Instr.sliceAt 27 (.slice (some ⟨g, 0, none⟩) n c) none (some (.int .i64 (k : Int))) (some (.int .i64 (k : Int)))).run Try.prog W = .ok (.slice (some ⟨g, 0, none⟩) k k) W := by
    intro W
    have hkc : k ≤ c := by omega
    simp [Instr.sliceAt, Instr.slice, go_sem, hkc]
  have s2 : ∀ W : World, (Instr.sliceAt 27 (.slice (some ⟨g, 0, none⟩) n c) (some (.int .i64 (k : Int))) none none).run Try.prog W = .ok (.slice (some ⟨g, k, none⟩) (n - k) (c - k)) W := by
    intro W
    have hkc : ¬ c = k := by omega
    simp [Instr.sliceAt, Instr.slice, go_sem, hkc, hk]
  go_enter Try.func84, Try.ntmps84
  go_wp2
  go_region_held3 (fun _ => True) (go_keep) (fail)
  go_wp2
  refine bodyPost_ret (v := .tuple #[.slice (some ⟨g, 0, none⟩) k k, .slice (some ⟨g, k, none⟩) (n - k) (c - k)]) (by simp [results, Try.results84, go_sem]) rfl ⟨rfl, rfl⟩

theorem wpList_append_vN {w : World} {ops : Array Oper} {rest : List Oper} {o : Oper} {act : Act} {Q : Exit → Act → World → Prop} (hgd : o.guard = none) (s x : Operand)
    (ho : o.op = .call { callee := .builtin .append, args := #[s, x], argTypes := #[94, 94] })
    (B : Nat) (v : Value) (n : Nat) (xs : List Value) (hs : act.eval s = v) (hown : w.ownsRow B 59 1 v n xs)
    (a : Option Addr) (m c : Nat) (ys : List Value) (hx : act.eval x = .slice a m c) (hrd : RdV w a m ys) (hnm : n + m ≤ 1048576) (hB : B ≤ w.heap.size)
    (h : ∀ v' w', w'.ownsRow B 59 1 v' (n + m) (xs ++ ys) → w.grownBy w' v.ownBlock → wpList Try.prog ops Q rest (act.put o.dst v') w') : wpList Try.prog ops Q (o :: rest) act w := by
  obtain ⟨i0, hi, hz0, hz1, hz2⟩ := info_parts Try.info59
  obtain ⟨hl, h1, hrd⟩ := hrd
  by_cases hm0 : m = 0
  · subst hm0
    have hL : ys = [] := List.length_eq_zero_iff.1 hl
    subst hL
    have hsrc : Src Try.prog i0.size 94 (.slice a 0 c) 0 [] w := by
      cases a with
      | none => exact Src.ofNil w Try.underlying94 c
      | some ad => exact Src.ofSlice w Try.underlying94 ad 0 c [] (by simp) (by simp) (by simp)
    have hsh : ∃ b l cap, v = .slice b l cap ∧ l ≤ cap := by
      rcases hown.2 with ⟨rfl, rfl⟩ | ⟨g, cap, cur, rfl, _, _, h1, _⟩
      · exact ⟨none, 0, 0, rfl, Nat.le_refl _⟩
      · exact ⟨_, n, cap, rfl, h1⟩
    obtain ⟨b, l, cap, hvv, hlc⟩ := hsh
    have hrun := run_append_nothing (P := Try.prog) w 94 94 o.type 59 i0 Try.underlying94 hi b l cap hlc (.slice a 0 c) hsrc
    rw [← hvv] at hrun
    refine wpList_plain hgd fun K hK => ?_
    unfold Oper.wp
    simp [execOp, ho, resolve, invoke, builtin, hs, hx, hrun, Result.andThen]
    exact hK _ _ (h v w (by simpa using hown) ⟨rfl, rfl, rfl, Nat.le_refl _, fun _ _ _ => rfl⟩)
  · rcases hrd with h0 | ⟨b, off, rfl, _, hc⟩
    · exact absurd h0 hm0
    · refine wpList_append_own_at w hgd s x 94 ho B 59 i0 _ 1 16 Try.underlying94 hi hz0 hz1 hz2 rfl (by decide) v n xs hs hown ⟨b, off, none⟩ m c ys hx (by omega) (fun j u hj => ?_) h1 (by unfold maxLen; omega) (by omega) hB (fun v' w' h1 h2 _ _ => h v' w' h1 h2)
      have e : (Addr.add ⟨b, off, none⟩ j) = ⟨b, off + j, none⟩ := by
        unfold Addr.add
        by_cases h : j = 0
        · subst h; simp
        · simp [h]
      rw [e]
      exact hc j u hj

set_option maxHeartbeats 1000000 in
theorem growN_any (n : Nat) (h0 : 0 < n) (hn : n ≤ 1000) (w : World) :
    Calls Try.prog 89 #[.slice none 0 0, .int .i64 (n : Int)] w fun e w' => ∃ c, e = .returned (.slice (some ⟨w.heap.size, 0, none⟩) 0 c) ∧ w'.ownsRow w.heap.size 59 1 (.slice (some ⟨w.heap.size, 0, none⟩) 0 c) 0 [] ∧ Below w.heap.size w w' := by
  obtain ⟨i0, hi0, hz0, hzs, hzb⟩ := info_parts Try.info59
  have hrz : ∀ ty, (Builtin.append_ #[94, 3] ty #[.slice none 0 0, .int .i64 (n : Int)]).run Try.prog w = .ok (.slice (some ⟨w.heap.size, 0, none⟩) n (grownCap w n 0 59)) (w.drew.alloc (.cells (#[] ++ Builtin.zeroCells Value.nilIface.cells n ++ Builtin.zeroCells Value.nilIface.cells (grownCap w n 0 59 - n)) 59)) := fun ty => by
    have h := Lib.run_append_grow_zeros w 94 3 ty 59 i0 _ .i64 .i64 Try.underlying94 Try.underlying3 hi0 hz0 none 0 0 [] (by simp [run_firstCells_none]) n (by omega) (by omega) (by omega) (by omega) (by rw [hzb]; omega) (by rw [hzb]; exact growslice_fits (by omega) (by omega))
    simpa using h
  obtain ⟨G, hG⟩ : ∃ G, G = grownCap w n 0 59 := ⟨_, rfl⟩
  have hGn : n ≤ G := by rw [hG]; exact grownCap_ge w _ _ _
  have hG63 : G ≤ 9223372036854775807 := by
    have := grownCap_le_maxLen w n 0 59 (by unfold maxLen; omega)
    rw [← hG] at this
    unfold maxLen at this
    omega
  rw [← hG] at hrz
  obtain ⟨ROW, hROW⟩ : ∃ ROW : Array Value, ROW = #[] ++ Builtin.zeroCells Value.nilIface.cells n ++ Builtin.zeroCells Value.nilIface.cells (G - n) := ⟨_, rfl⟩
  rw [← hROW] at hrz
  have HO : Hid ((w.drew.alloc (.cells ROW 59)).ownsRow w.heap.size 59 1 (.slice (some ⟨w.heap.size, 0, none⟩) 0 G) 0 []) := by
    refine ⟨rfl, Or.inr ⟨w.heap.size, G, ROW, rfl, Nat.le_refl _, blk_alloc_new w.drew _, Nat.zero_le _, by unfold maxLen; omega, ?_, by simp⟩⟩
    rw [hROW]
    simp [Builtin.zeroCells, Value.cells]
    omega
  have HBl : Hid (Below w.heap.size w (w.drew.alloc (.cells ROW 59))) := (Below.refl w.heap.size w).drew.trans (show Below w.heap.size w.drew _ from below_alloc w.drew _)
  have i1 : ¬ (n : Int) < 0 := by omega
  have i2 : (0 : Int) < (n : Int) := by omega
  have i1d : decide ((n : Int) < 0) = false := decide_eq_false i1
  have i2d : decide ((0 : Int) < (n : Int)) = true := decide_eq_true i2
  clear hROW hG hi0 hz0 hzs hzb
  go_enter Try.func89, Try.ntmps89
  go_wp2_with (at_builtin; refine Lib.wpList_append_run _ rfl _ _ _ _ rfl _ _ rfl rfl _ _ (hrz _) ?_)
  go_ret
  exact ⟨G, rfl, HO.out, HBl.out⟩

set_option maxHeartbeats 4000000 in
theorem concatN_any (g c n1 n2 c1 c2 : Nat) (a1 a2 : Option Addr) (xs ys : List Value) (w : World) (hg0 : w.cell? ⟨g, 0, none⟩ = some (.slice a1 n1 c1)) (hg1 : w.cell? ⟨g, 1, none⟩ = some (.slice a2 n2 c2)) (h1 : RdV w a1 n1 xs) (h2 : RdV w a2 n2 ys) (h0 : 0 < n1 + n2) (hn : n1 + n2 ≤ 1000) :
    Calls Try.prog 87 #[.slice (some ⟨g, 0, none⟩) 2 c] w fun e w' => ∃ gg cc, e = .returned (.slice (some ⟨gg, 0, none⟩) (n1 + n2) cc) ∧ w'.ownsRow w.heap.size 59 1 (.slice (some ⟨gg, 0, none⟩) (n1 + n2) cc) (n1 + n2) (xs ++ ys) ∧ Below w.heap.size w w' := by
  have HC : Hid (∀ W, Below w.heap.size w W → W.cell? ⟨g, 0, none⟩ = some (.slice a1 n1 c1) ∧ W.cell? ⟨g, 1, none⟩ = some (.slice a2 n2 c2) ∧ RdV W a1 n1 xs ∧ RdV W a2 n2 ys) := by
    intro W hW
    have hl := World.block_lt_of_cell? _ _ hg0
    exact ⟨(hW.cell (p := ⟨g, 0, none⟩) hl).trans hg0, (hW.cell (p := ⟨g, 1, none⟩) hl).trans hg1, h1.below hW, h2.below hW⟩
  clear h1 h2
  go_enter Try.func87, Try.ntmps87
  go_wp2
  go_loopw [3, 11] (fun q i wr => ∃ k : Nat, k ≤ 2 ∧ i = .int .i64 k ∧ q = .int .i64 (((if k = 0 then 0 else if k = 1 then n1 else n1 + n2 : Nat)) : Int) ∧ wr = w) (fun _ i _ => 2 - (intOf i).toNat)
  case atStart => exact ⟨0, by omega, rfl, rfl, rfl⟩
  case round =>
    obtain ⟨k, hk, rfl, rfl, hw⟩ := hrel
    have hw' := hw.symm
    clear hw
    subst hw'
    by_cases k0 : k = 0
    · subst k0
      go_wp2
      go_roundw
      case rel => exact ⟨1, by omega, by go_num, by first | go_num | simp, by simp⟩
      case measure => simp [intOf]
    · by_cases k1 : k = 1
      · subst k1
        have i1 : ¬ ((n1 : Int) + (n2 : Int)) < 0 := by omega
        have i1d : decide (((n1 : Int) + (n2 : Int)) < 0) = false := decide_eq_false i1
        go_wp2
        go_roundw
        case rel => exact ⟨2, by omega, by go_num, by first | go_num | simp, by simp⟩
        case measure => simp [intOf]
      · have k2 : k = 2 := by omega
        subst k2
        have HGr : Hid (Calls Try.prog 89 #[.slice none 0 0, .int .i64 ((n1 : Int) + (n2 : Int))] w fun e w' => ∃ c, e = .returned (.slice (some ⟨w.heap.size, 0, none⟩) 0 c) ∧ w'.ownsRow w.heap.size 59 1 (.slice (some ⟨w.heap.size, 0, none⟩) 0 c) 0 [] ∧ Below w.heap.size w w') := by
          have := growN_any (n1 + n2) h0 hn w
          rw [show (((n1 + n2 : Nat)) : Int) = (n1 : Int) + (n2 : Int) by omega] at this
          exact this
        clear hg0 hg1
        go_wp2_with fail
        (with_reducible refine HGr.out.mono ?_)
        rintro e w1 ⟨gc, rfl, ho1, hb1⟩
        have H1 : Hid (w1.ownsRow w.heap.size 59 1 (.slice (some ⟨w.heap.size, 0, none⟩) 0 gc) 0 [] ∧ Below w.heap.size w w1) := ⟨ho1, hb1⟩
        clear ho1 hb1 HGr
        go_wp2
        go_loopw [6, 27] (fun q i wx => ∃ (k nv cv : Nat) (av : Option Addr), k ≤ 2 ∧ i = .int .i64 k ∧ q = .slice av nv cv ∧ nv = (if k = 0 then 0 else if k = 1 then n1 else n1 + n2) ∧ wx.ownsRow w.heap.size 59 1 (.slice av nv cv) nv (if k = 0 then [] else if k = 1 then xs else xs ++ ys) ∧ Below w.heap.size w wx) (fun _ i _ => 2 - (intOf i).toNat)
        case atStart => exact ⟨0, 0, _, _, by omega, rfl, rfl, rfl, H1.out.1, H1.out.2⟩
        case round =>
          obtain ⟨k, nv, cv, av, hk, rfl, rfl, hnv, ho, hb⟩ := hrel
          have HS : Hid (wr.ownsRow w.heap.size 59 1 (.slice av nv cv) nv (if k = 0 then [] else if k = 1 then xs else xs ++ ys) ∧ Below w.heap.size w wr) := ⟨ho, hb⟩
          obtain ⟨y0, y1, r1, r2⟩ := HC.out wr hb
          have HR : Hid (RdV wr a1 n1 xs ∧ RdV wr a2 n2 ys) := ⟨r1, r2⟩
          have hbs := hb.size
          clear ho hb r1 r2
          by_cases k0 : k = 0
          · subst k0
            have e0 : nv = 0 := by simpa using hnv
            subst e0
            clear hnv
            go_wp2_with (at_builtin; refine wpList_append_vN rfl _ _ rfl w.heap.size (.slice av 0 cv) 0 [] rfl HS.out.1 a1 n1 c1 xs rfl HR.out.1 (by omega) hbs ?_)
            intro v' w' ho' hg'
            obtain ⟨av', cv', ev, _⟩ := own_form ho'
            subst ev
            have HX : Hid (w'.ownsRow w.heap.size 59 1 (.slice av' (0 + n1) cv') (0 + n1) xs ∧ Below w.heap.size w w') := ⟨by simpa using ho', HS.out.2.grown hg' hbs (fun g e => (own_lt HS.out.1 g e).1)⟩
            clear ho' hg'
            go_wp2
            go_roundw
            case rel => exact ⟨1, 0 + n1, cv', av', by omega, by go_num, by simp, by simp, HX.out⟩
            case measure => simp [intOf]
          · by_cases k1 : k = 1
            · subst k1
              have e1 : nv = n1 := by simpa using hnv
              subst e1
              clear hnv
              go_wp2_with (at_builtin; refine wpList_append_vN rfl _ _ rfl w.heap.size (.slice av nv cv) nv xs rfl HS.out.1 a2 n2 c2 ys rfl HR.out.2 (by omega) hbs ?_)
              intro v' w' ho' hg'
              obtain ⟨av', cv', ev, _⟩ := own_form ho'
              subst ev
              have HX : Hid (w'.ownsRow w.heap.size 59 1 (.slice av' (nv + n2) cv') (nv + n2) (xs ++ ys) ∧ Below w.heap.size w w') := ⟨ho', HS.out.2.grown hg' hbs (fun g e => (own_lt HS.out.1 g e).1)⟩
              clear ho' hg'
              go_wp2
              go_roundw
              case rel => exact ⟨2, nv + n2, cv', av', by omega, by go_num, rfl, by simp, HX.out⟩
              case measure => simp [intOf]
            · have k2 : k = 2 := by omega
              subst k2
              have e2 : nv = n1 + n2 := by simpa using hnv
              subst e2
              clear hnv
              obtain ⟨av', cv', e, hf⟩ := own_form HS.out.1
              injection e with e1 _ e3
              subst e1 e3
              obtain ⟨gg, rfl, _⟩ := hf (by omega)
              go_wp2
              go_ret
              exact ⟨gg, cv, rfl, by simpa using HS.out.1, HS.out.2⟩

set_option maxHeartbeats 1000000 in
theorem cutN_any (g n c k : Nat) (w : World) (hk : k ≤ n) (hn : n ≤ c) (hkn : k < n) :
    Calls Try.prog 86 #[.slice (some ⟨g, 0, none⟩) n c, .int .i64 (k : Int)] w fun e w' => e = .returned (.tuple #[.slice (some ⟨g, 0, none⟩) k k, .slice (some ⟨g, k, none⟩) (n - k) (c - k)]) ∧ w' = w.drew := by
  have s1 : ∀ W : World, (Instr.sliceAt 94 (.slice (some ⟨g, 0, none⟩) n c) none (some (.int .i64 (k : Int))) (some (.int .i64 (k : Int)))).run Try.prog W = .ok (.slice (some ⟨g, 0, none⟩) k k) W := by
    intro W
    have hkc : k ≤ c := by omega
    simp [Instr.sliceAt, Instr.slice, go_sem, hkc]
  have s2 : ∀ W : World, (Instr.sliceAt 94 (.slice (some ⟨g, 0, none⟩) n c) (some (.int .i64 (k : Int))) none none).run Try.prog W = .ok (.slice (some ⟨g, k, none⟩) (n - k) (c - k)) W := by
    intro W
    have hkc : ¬ c = k := by omega
    simp [Instr.sliceAt, Instr.slice, go_sem, hkc, hk]
  go_enter Try.func86, Try.ntmps86
  go_wp2
  go_region_held3 (fun _ => True) (go_keep) (fail)
  go_wp2
  refine bodyPost_ret (v := .tuple #[.slice (some ⟨g, 0, none⟩) k k, .slice (some ⟨g, k, none⟩) (n - k) (c - k)]) (by simp [results, Try.results86, go_sem]) rfl ⟨rfl, rfl⟩
end Go.Proofs.Ytakemeccigpbaaa

namespace Go.Proofs.Ytakemeccigpbaaa
open Go.RowKit Go.Deep Go.Shelf Go.Lib
set_option linter.unusedVariables false
set_option linter.unusedSimpArgs false
set_option maxRecDepth 100000

/-- What slices.Insert leaves of one more node in a row. -/
def RetIn (w : World) (b n : Nat) (L : List Value) (e : Ending) (w' : World) : Prop :=
  ∃ g c, e = .returned (.slice (some ⟨g, 0, none⟩) (n + 1) c) ∧ (n + 1 ≤ c ∧ c ≤ 9223372036854775807) ∧ g < w'.heap.size ∧ (g = b ∨ w.heap.size ≤ g) ∧ (∀ j v, L[j]? = some v → w'.cell? ⟨g, j, none⟩ = some v) ∧ w.grownBy w' (some b)

end Go.Proofs.Ytakemeccigpbaaa

namespace Go.Proofs.Ytakemeccigpbaaa
open Go.RowKit Go.Deep
set_option linter.unusedVariables false
set_option maxRecDepth 100000

/-- Cells that can be read, in a block of which S holds. -/
def RdO (S : Nat → Prop) (w : World) (a : Option Addr) (n : Nat) (f : Nat → Value) : Prop :=
  n = 0 ∨ ∃ b o, a = some ⟨b, o, none⟩ ∧ S b ∧ b < w.heap.size ∧ ∀ i, i < n → w.cell? ⟨b, o + i, none⟩ = some (f i)
theorem RdO.keep {S S' : Nat → Prop} {w w' : World} {a : Option Addr} {n : Nat} {f : Nat → Value} (h : RdO S w a n f) (hz : w.heap.size ≤ w'.heap.size) (hS : ∀ b, S b → b < w.heap.size → S' b ∧ w'.heap[b]? = w.heap[b]?) : RdO S' w' a n f := by
  rcases h with h | ⟨b, o, rfl, hs, hb, hc⟩
  · exact Or.inl h
  · obtain ⟨q1, q2⟩ := hS b hs hb
    exact Or.inr ⟨b, o, rfl, q1, by omega, fun i hi => by rw [World.cell?_of_block (a := ⟨b, o + i, none⟩) q2]; exact hc i hi⟩
theorem RdO.rdS {S : Nat → Prop} {w : World} {a : Option Addr} {n : Nat} {X : Nat → ByteArray} (h : RdO S w a n (fun i => .string (X i))) : RdS w a n X := by
  rcases h with h | ⟨b, o, rfl, _, _, hc⟩
  · exact Or.inl h
  · exact Or.inr ⟨b, o, rfl, hc⟩

/-- The program's node v is the tree t; its rows may begin anywhere in their blocks, of which S holds. -/
def TAo (S : Nat → Prop) (w : World) : (d : Nat) → Ro d → Value → Prop
  | 0, _, _ => False
  | d + 1, .inl t, v => ∃ b ka kc, v = .iface 53 (.pointer (some ⟨b, 0, none⟩)) ∧ S b ∧ Bx w b 57 #[.int .i64 (t.length : Int), .slice ka t.length kc] ∧ (t.length ≤ kc ∧ kc ≤ 9223372036854775807) ∧ RdO S w ka t.length (fun i => .string (gt t i))
  | d + 1, .inr l, v => ∃ (b g o kc : Nat) (xs : List Value), v = .iface 91 (.pointer (some ⟨b, 0, none⟩)) ∧ S b ∧ Bx w b 96 #[.int .i64 ((l.flatMap (keysR d)).length : Int), .slice (some ⟨g, o, none⟩) l.length kc] ∧ (S g ∧ g ≠ b) ∧ (g < w.heap.size ∧ l.length ≤ kc ∧ kc ≤ 9223372036854775807) ∧ 0 < l.length ∧ (∀ j u, xs[j]? = some u → w.cell? ⟨g, o + j, none⟩ = some u) ∧
      ∀ k (h : k < l.length), ∃ u, xs[k]? = some u ∧ TAo S w d l[k] u

theorem TAo.keep {S S' : Nat → Prop} {w w' : World} (hz : w.heap.size ≤ w'.heap.size) (hS : ∀ b, S b → b < w.heap.size → S' b ∧ w'.heap[b]? = w.heap[b]?) : ∀ {d : Nat} {t : Ro d} {v : Value}, TAo S w d t v → TAo S' w' d t v
  | 0, _, _, h => h
  | d + 1, .inl t, v, h => by
    obtain ⟨b, ka, kc, rfl, hs, hx, hc, hr⟩ := h
    obtain ⟨q1, q2⟩ := hS b hs hx.lt
    exact ⟨b, ka, kc, rfl, q1, hx.of_block q2, hc, hr.keep hz hS⟩
  | d + 1, .inr l, v, h => by
    obtain ⟨b, g, o, kc, xs, rfl, hs, hx, ⟨hg, hgb⟩, hl, h0, hc, hk⟩ := h
    obtain ⟨q1, q2⟩ := hS b hs hx.lt
    obtain ⟨q3, q4⟩ := hS g hg hl.1
    refine ⟨b, g, o, kc, xs, rfl, q1, hx.of_block q2, ⟨q3, hgb⟩, ⟨by omega, hl.2⟩, h0, fun j u hj => (World.cell?_of_block (a := ⟨g, o + j, none⟩) q4).trans (hc j u hj), fun k h => ?_⟩
    obtain ⟨u, e, ht⟩ := hk k h
    exact ⟨u, e, TAo.keep hz hS ht⟩

theorem TAo.below {S : Nat → Prop} {w w' : World} {d : Nat} {t : Ro d} {v : Value} (h : TAo S w d t v) (hb : Below w.heap.size w w') : TAo S w' d t v :=
  TAo.keep hb.size (fun b hs hl => ⟨hs, hb.block b hl⟩) h
theorem TAo.wide {S S' : Nat → Prop} {w : World} {d : Nat} {t : Ro d} {v : Value} (h : TAo S w d t v) (hS : ∀ b, S b → b < w.heap.size → S' b) : TAo S' w d t v :=
  TAo.keep (Nat.le_refl _) (fun b hs hl => ⟨hS b hs hl, rfl⟩) h

theorem TOw.tao {B : Nat} {w : World} : ∀ {d : Nat} {t : Ro d} {v : Value} {bs : List Nat}, TOw B w d t v bs → bs.Nodup → TAo (fun b => b ∈ bs) w d t v
  | 0, _, _, _, h, _ => h.elim
  | d + 1, .inl t, v, bs, h, hd => by
    obtain ⟨b, ka, kc, rfl, hB, hx, ho, rfl⟩ := h
    refine ⟨b, ka, kc, rfl, by simp, hx, own_cap ho, ?_⟩
    rcases ho.2 with ⟨q, q0⟩ | ⟨g, cap, cur, q1, q2, q3, q4⟩
    · exact .inl q0
    · injection q1 with q1 _ q5
      subst q1 q5
      refine .inr ⟨g, 0, rfl, by simp, (own_lt ho g rfl).2, fun i hi => ?_⟩
      rw [Nat.zero_add, ho.cellAt i (by omega), strL_get t i hi]
  | d + 1, .inr l, v, bs, h, hd => by
    obtain ⟨b, g, kc, xs, bss, rfl, hB, hx, ho, hl, hbl, rfl, hall⟩ := h
    have hc := own_cap ho
    rw [List.nodup_cons, List.nodup_cons] at hd
    refine ⟨b, g, 0, kc, xs, rfl, by simp, hx, ⟨by simp, fun e => hd.1 (by rw [e]; simp)⟩, ⟨(own_lt ho g rfl).2, hc.1, hc.2⟩, hl, fun j u hj => ?_, fun k h => ?_⟩
    · have hjl := (List.getElem?_eq_some_iff.1 hj).1
      rw [ho.1] at hjl
      rw [Nat.zero_add, ho.cellAt j hjl]
      exact hj
    · obtain ⟨u, us, e1, e2, e3⟩ := hall k h
      have hm : us ∈ bss := List.mem_of_getElem? e2
      refine ⟨u, e1, TAo.wide (TOw.tao e3 ?_) (fun b' hb' _ => ?_)⟩
      · exact (List.pairwise_flatten.1 hd.2.2).1 us hm
      · simp only [List.mem_cons, List.mem_flatten]
        exact .inr (.inr ⟨us, hm, hb'⟩)

theorem TAo.count {S : Nat → Prop} {w : World} : ∀ {d : Nat} {t : Ro d} {v : Value}, TAo S w d t v → ∃ b, S b ∧ b < w.heap.size ∧ w.cell? ⟨b, 0, none⟩ = some (.int .i64 ((keysR d t).length : Int)) ∧ (v = .iface 53 (.pointer (some ⟨b, 0, none⟩)) ∨ v = .iface 91 (.pointer (some ⟨b, 0, none⟩)))
  | 0, _, _, h => h.elim
  | d + 1, .inl t, v, h => by
    obtain ⟨b, ka, kc, rfl, hb, hx, hr⟩ := h
    exact ⟨b, hb, hx.lt, by rw [hx.cell 0]; rfl, Or.inl rfl⟩
  | d + 1, .inr l, v, h => by
    obtain ⟨b, g, o, kc, xs, rfl, hb, hx, _⟩ := h
    exact ⟨b, hb, hx.lt, by rw [hx.cell 0]; rfl, Or.inr rfl⟩

set_option maxHeartbeats 1000000 in
theorem leastO_any : ∀ (d : Nat) (l : List (Ro d)) (S : Nat → Prop) (b : Nat) (h : Nat) (w : World), TAo S w (d + 1) (.inr l) (.iface 91 (.pointer (some ⟨b, 0, none⟩))) → (∀ t, t ∈ l → BalR d false t h) →
    Calls Try.prog 124 #[.pointer (some ⟨b, 0, none⟩)] w fun e w' => e = .returned (.string (gt (l.flatMap (keysR d)) 0)) ∧ w' = w := by
  intro d
  induction d with
  | zero =>
    intro l S b h w ht hb
    obtain ⟨b', g, o, kc, xs, e, _, _, _, _, hl, _, hk⟩ := ht
    obtain ⟨u, _, q⟩ := hk 0 hl
    exact q.elim
  | succ d ih =>
    intro l S b h w ht hb
    obtain ⟨b', g, o, kc, xs, e, _, hx, _, _, hl, hc, hk⟩ := ht
    injection e with _ e
    injection e with e
    injection e with e
    injection e with e
    subst e
    obtain ⟨u, hu, hut⟩ := hk 0 hl
    have hpos := bal_pos (hb l[0] (List.getElem_mem hl))
    rw [head_flat hl hpos]
    have c1 := hx.cell 1
    simp at c1
    have c2 := hc 0 u hu
    rw [Nat.add_zero] at c2
    have hb0 := hb l[0] (List.getElem_mem hl)
    have hlI : (0 : Int) < (l.length : Int) := by omega
    clear hx hc hk hu
    generalize l[0] = t0 at *
    generalize l.length = ln at c1 hlI
    clear hl
    rcases t0 with t0 | l0
    · obtain ⟨b0, ka0, kc0, rfl, _, hx0, _, hr0⟩ := hut
      have HL : Hid (Calls Try.prog 107 #[.pointer (some ⟨b0, 0, none⟩)] w fun e w' => e = .returned (.string (gt t0 0)) ∧ w' = w) := leastLeaf_any b0 t0.length kc0 ka0 _ (gt t0) w hx0 hr0.rdS hpos
      clear hx0 hr0 ih hb hb0 hpos
      go_enter Try.func124, Try.ntmps124
      go_wp2_with fail
      refine HL.out.mono ?_
      rintro e w1 ⟨rfl, rfl⟩
      go_wp2
      go_ret
      exact ⟨rfl, rfl⟩
    · obtain ⟨h2, h4, h', _, hall⟩ := hb0
      have hut2 := hut
      obtain ⟨b0, g0, o0, kc0, xs0, rfl, _⟩ := hut2
      have HL : Hid (Calls Try.prog 124 #[.pointer (some ⟨b0, 0, none⟩)] w fun e w' => e = .returned (.string (gt (l0.flatMap (keysR d)) 0)) ∧ w' = w) := ih l0 S b0 h' w hut hall
      clear ih hut hall hpos hb
      go_enter Try.func124, Try.ntmps124
      go_wp2_with fail
      refine HL.out.mono ?_
      rintro e w1 ⟨rfl, rfl⟩
      go_wp2
      go_ret
      exact ⟨rfl, rfl⟩

set_option maxHeartbeats 1000000 in
theorem recountO_any (d b g o ln kc : Nat) (l : List (Ro d)) (x : Int) (xs : List Value) (w : World) (h : Bx w b 96 #[.int .i64 x, .slice (some ⟨g, o, none⟩) ln kc]) (hln : ln = l.length) (hl5 : ln ≤ 5000) (hlen : (l.flatMap (keysR d)).length ≤ 1099511627776)
    (hc : ∀ j u, xs[j]? = some u → w.cell? ⟨g, o + j, none⟩ = some u) (hg : g ≠ b) (hk : ∀ k (h : k < l.length), ∃ u bb, xs[k]? = some u ∧ bb ≠ b ∧ w.cell? ⟨bb, 0, none⟩ = some (.int .i64 ((keysR d l[k]).length : Int)) ∧ (u = .iface 53 (.pointer (some ⟨bb, 0, none⟩)) ∨ u = .iface 91 (.pointer (some ⟨bb, 0, none⟩)))) :
    Calls Try.prog 57 #[.pointer (some ⟨b, 0, none⟩)] w fun e w' => e = .returned (.tuple #[]) ∧ w.grownBy w' (some b) ∧ w'.heap.size = w.heap.size ∧ Bx w' b 96 #[.int .i64 ((l.flatMap (keysR d)).length : Int), .slice (some ⟨g, o, none⟩) ln kc] := by
  have HK : Hid (∀ W : World, w.grownBy W (some b) → ∀ k (h : k < l.length), ∃ u bb, W.cell? ⟨g, o + k, none⟩ = some u ∧ bb ≠ b ∧ W.cell? ⟨bb, 0, none⟩ = some (.int .i64 ((keysR d l[k]).length : Int)) ∧ (u = .iface 53 (.pointer (some ⟨bb, 0, none⟩)) ∨ u = .iface 91 (.pointer (some ⟨bb, 0, none⟩)))) := by
    intro W hW k hkl
    obtain ⟨u, bb, hu, hne, hb3, hb4⟩ := hk k hkl
    exact ⟨u, bb, hW.cell (hc k u hu) (fun e => by injection e with e; exact hg e), hne, hW.cell hb3 (fun e => by injection e with e; exact hne e), hb4⟩
  have HLn : Hid (ln = l.length ∧ (l.flatMap (keysR d)).length ≤ 1099511627776) := ⟨hln, hlen⟩
  have c1 := h.cell 1
  have c0 := h.cell 0
  have f0 := h.frozen 0
  have hlt := h.lt
  simp at c0 c1
  have H0 : Hid (w.grownBy (w.setCell ⟨b, 0, none⟩ (.int .i64 0)) (some b) ∧ Bx (w.setCell ⟨b, 0, none⟩ (.int .i64 0)) b 96 #[.int .i64 0, .slice (some ⟨g, o, none⟩) ln kc]) := by
    refine ⟨⟨rfl, rfl, rfl, by simp [World.setCell], fun k hk hne => Below.heap_setCell _ _ _ _ (fun e => hne (by rw [e]))⟩, h.set 0 _⟩
  clear h hc hk hln hlen
  go_enter Try.func57, Try.ntmps57
  go_wp2
  go_loopw [13] (fun i wr => ∃ k : Nat, k ≤ ln ∧ i = .int .i64 k ∧ w.grownBy wr (some b) ∧ wr.heap.size = w.heap.size ∧ Bx wr b 96 #[.int .i64 (((l.take k).flatMap (keysR d)).length : Int), .slice (some ⟨g, o, none⟩) ln kc]) (fun i _ => ln - (intOf i).toNat)
  case atStart => exact ⟨0, Nat.zero_le _, rfl, H0.out.1, by simp [World.setCell], by simpa using H0.out.2⟩
  case round =>
    obtain ⟨k, hkl, rfl, hgr, hsz, hbx⟩ := hrel
    clear H0 c0 c1 f0
    have HG : Hid (w.grownBy wr (some b) ∧ wr.heap.size = w.heap.size ∧ Bx wr b 96 #[.int .i64 (((l.take k).flatMap (keysR d)).length : Int), .slice (some ⟨g, o, none⟩) ln kc]) := ⟨hgr, hsz, hbx⟩
    obtain ⟨A, hA⟩ : ∃ A : Int, A = (((l.take k).flatMap (keysR d)).length : Int) := ⟨_, rfl⟩
    rw [← hA] at hbx
    have c0 := hbx.cell 0
    have f0 := hbx.frozen 0
    have hlt2 := hbx.lt
    simp at c0
    clear hgr hsz hbx
    by_cases hlt : k < ln
    · have hlk : k < l.length := by rw [← HLn.out.1]; exact hlt
      obtain ⟨u, bb, hu, hne, hcc, hform⟩ := HK.out wr HG.out.1 k hlk
      have e12 := flat_len_take l k hlk
      have hle := flat_take_le (keysR d) l (k + 1)
      have hL := HLn.out.2
      obtain ⟨C, hC⟩ : ∃ C : Int, C = ((keysR d l[k]).length : Int) := ⟨_, rfl⟩
      have hA0 : 0 ≤ A ∧ A ≤ 1099511627776 := by omega
      have hC0 : 0 ≤ C ∧ C ≤ 1099511627776 := by omega
      rw [← hC] at hcc
      have HS : Hid ((((l.take (k + 1)).flatMap (keysR d)).length : Int) = A + C) := by
        show (((l.take (k + 1)).flatMap (keysR d)).length : Int) = A + C
        rw [e12, hA, hC]
        omega
      have HX : Hid (w.grownBy (wr.drew.setCell ⟨b, 0, none⟩ (.int .i64 (A + C))) (some b) ∧ (wr.drew.setCell ⟨b, 0, none⟩ (.int .i64 (A + C))).heap.size = w.heap.size ∧ Bx (wr.drew.setCell ⟨b, 0, none⟩ (.int .i64 (A + C))) b 96 #[.int .i64 (((l.take (k + 1)).flatMap (keysR d)).length : Int), .slice (some ⟨g, o, none⟩) ln kc]) := by
        obtain ⟨q1, q2, q3⟩ := HG.out
        have hs : (wr.drew.setCell ⟨b, 0, none⟩ (.int .i64 (A + C))).heap.size = wr.heap.size := Eq.trans (show (wr.drew.setCell ⟨b, 0, none⟩ (.int .i64 (A + C))).heap.size = wr.drew.heap.size by simp [World.setCell]) rfl
        refine ⟨⟨q1.os, q1.tape, q1.output, by rw [hs]; exact q1.size, fun k hk hne => ?_⟩, by rw [hs]; exact q2, ?_⟩
        · rw [Below.heap_setCell _ _ _ _ (fun e => hne (by rw [e]))]
          exact q1.block k hk hne
        · rw [HS.out]
          exact q3.drew.set 0 _
      clear hA hC e12 hle hL
      rcases hform with rfl | rfl
      · have HB : Hid (∀ W : World, W.cell? ⟨bb, 0, none⟩ = some (.int .i64 C) → Calls Try.prog 83 #[.pointer (some ⟨bb, 0, none⟩)] W fun e w' => e = .returned (.int .i64 C) ∧ w' = W) := fun W hW => below_any bb C W hW
        go_wp2
        go_region_with (go_at_call 83; refine (HB.out _ (by simpa using hcc)).mono ?_; rintro e w2 ⟨rfl, rfl⟩)
        all_goals
          go_wp2
          go_roundw
          case rel => exact ⟨k + 1, by omega, by go_num, HX.out⟩
          case measure => simp [intOf]; omega
      · have HB : Hid (∀ W : World, W.cell? ⟨bb, 0, none⟩ = some (.int .i64 C) → Calls Try.prog 83 #[.pointer (some ⟨bb, 0, none⟩)] W fun e w' => e = .returned (.int .i64 C) ∧ w' = W) := fun W hW => below_any bb C W hW
        go_wp2
        go_region_with (go_at_call 83; refine (HB.out _ (by simpa using hcc)).mono ?_; rintro e w2 ⟨rfl, rfl⟩)
        all_goals
          go_wp2
          go_roundw
          case rel => exact ⟨k + 1, by omega, by go_num, HX.out⟩
          case measure => simp [intOf]; omega
    · have e : k = ln := by omega
      subst e
      have HE : Hid ((l.take k).flatMap (keysR d) = l.flatMap (keysR d)) := by
        show (l.take k).flatMap (keysR d) = l.flatMap (keysR d)
        rw [HLn.out.1, List.take_length]
      go_wp2
      go_end0
      refine ⟨rfl, HG.out.1, HG.out.2.1, ?_⟩
      have q := HG.out.2.2
      rw [HE.out] at q
      exact q
end Go.Proofs.Ytakemeccigpbaaa

namespace Go.Proofs.Ytakemeccigpbaaa
open Go.RowKit Go.Deep
set_option linter.unusedVariables false
set_option maxRecDepth 100000

theorem step_t2 {ops : Array Oper} {o : Oper} {a : Act} {w : World} {K : Act → World → Prop} {Q : Exit → Act → World → Prop} {E : Prop} (hgd : o.guard = none) (k : Nat) (i j : Nat) (tys : Array TypeId)
    (ho : o.op = .call { callee := .value (.func k), args := #[.tmp i, .tmp j], argTypes := tys }) (u v : Value) (hx : a.tmps[i]?.getD undef = u) (hy : a.tmps[j]?.getD undef = v) (heg : ∀ args w, (callFunc k args).run Try.prog w = .ok (.enter k args) w)
    (h : Calls Try.prog k #[u, v] w fun e w' => ∃ r, e = .returned r ∧ K (a.put o.dst r) w') :
    if Region.wanted o (yielded ops a.tmps) = true then Oper.wp Try.prog o a w K Q else E := by
  have hw : Region.wanted o (yielded ops a.tmps) = true := by simp [Region.wanted, hgd]
  rw [if_pos hw]
  unfold Oper.wp
  simp [execOp, ho, resolve, invoke, hx, hy, go_sem, heg]
  refine h.mono ?_
  rintro e w' ⟨u, rfl, hk⟩
  exact hk

theorem ta1 (p : Value) (W : World) : (Instr.typeAssert (.iface 53 p) 59 53 true).run Try.prog W = .ok (.tuple #[p, .bool true]) W := by kernel_rfl
theorem ta2 (p : Value) (W : World) : (Instr.typeAssert (.iface 53 p) 59 53 false).run Try.prog W = .ok p W := by kernel_rfl
theorem ta3 (p : Value) (W : World) : (Instr.typeAssert (.iface 91 p) 59 53 true).run Try.prog W = .ok (.tuple #[.pointer none, .bool false]) W := by kernel_rfl
theorem ta4 (p : Value) (W : World) : (Instr.typeAssert (.iface 91 p) 59 91 true).run Try.prog W = .ok (.tuple #[p, .bool true]) W := by kernel_rfl
theorem ta5 (p : Value) (W : World) : (Instr.typeAssert (.iface 91 p) 59 91 false).run Try.prog W = .ok p W := by kernel_rfl

/-- Nothing but these two of the old blocks has turned. -/
def Fr2 (w w' : World) (b r : Nat) : Prop := w'.os = w.os ∧ w'.tape = w.tape ∧ w'.output = w.output ∧ w.heap.size ≤ w'.heap.size ∧ ∀ k, k < w.heap.size → k ≠ b → k ≠ r → w'.heap[k]? = w.heap[k]?

theorem fr2_set2 (w : World) (b r i j : Nat) (v u : Value) : Fr2 w ((w.setCell ⟨b, i, none⟩ v).setCell ⟨r, j, none⟩ u) b r :=
  ⟨rfl, rfl, rfl, by simp [World.setCell], fun k _ h1 h2 => by rw [Below.heap_setCell _ _ _ _ (show k ≠ r from h2), Below.heap_setCell _ _ _ _ (show k ≠ b from h1)]⟩
theorem Fr2.trans {w w1 w2 : World} {b r : Nat} (h : Fr2 w w1 b r) (k : Fr2 w1 w2 b r) : Fr2 w w2 b r :=
  ⟨k.1.trans h.1, k.2.1.trans h.2.1, k.2.2.1.trans h.2.2.1, Nat.le_trans h.2.2.2.1 k.2.2.2.1, fun i hi h1 h2 => (k.2.2.2.2 i (Nat.lt_of_lt_of_le hi h.2.2.2.1) h1 h2).trans (h.2.2.2.2 i hi h1 h2)⟩
theorem fr2_of {w w' : World} (b r : Nat) (h : Below w.heap.size w w') : Fr2 w w' b r := ⟨h.os, h.tape, h.output, h.size, fun k hk _ _ => h.block k hk⟩

theorem dealLeaf_end (d : Nat) {b r n1 n2 st gg cc : Nat} {L : List ByteArray} {zs : List Value} {W w3 W4 : World} {x0 y0 : Int} (hz : zs = strL L) (hn : n1 + n2 = L.length) (hbr : b ≠ r) (hbW : b < W.heap.size) (hrW : r < W.heap.size) (hst : st < n1 + n2) (hb3 : Below W.heap.size W w3) (ho : w3.ownsRow (W.heap.size + 1) 9 1 (.slice (some ⟨gg, 0, none⟩) (n1 + n2) cc) (n1 + n2) zs) (hf : Fr2 w3 W4 b r) (x1 : Bx W4 b 57 #[.int .i64 x0, .slice (some ⟨gg, 0, none⟩) st st]) (x2 : Bx W4 r 57 #[.int .i64 y0, .slice (some ⟨gg, st, none⟩) (n1 + n2 - st) (cc - st)]) :
    Ending.returned (.tuple #[]) = .returned (.tuple #[]) ∧ Fr2 W ((W4.setCell ⟨b, 0, none⟩ (.int .i64 (st : Int))).setCell ⟨r, 0, none⟩ (.int .i64 ((n1 + n2 - st : Nat) : Int))) b r ∧ TAo (fun x => x = b ∨ W.heap.size ≤ x) ((W4.setCell ⟨b, 0, none⟩ (.int .i64 (st : Int))).setCell ⟨r, 0, none⟩ (.int .i64 ((n1 + n2 - st : Nat) : Int))) (d + 1) (.inl (L.take st)) (.iface 53 (.pointer (some ⟨b, 0, none⟩))) ∧ TAo (fun x => x = r ∨ W.heap.size ≤ x) ((W4.setCell ⟨b, 0, none⟩ (.int .i64 (st : Int))).setCell ⟨r, 0, none⟩ (.int .i64 ((n1 + n2 - st : Nat) : Int))) (d + 1) (.inl (L.drop st)) (.iface 53 (.pointer (some ⟨r, 0, none⟩))) := by
  have hcap := own_cap ho
  have hgl := own_lt ho gg rfl
  have f2 := fr2_set2 W4 b r 0 0 (.int .i64 (st : Int)) (.int .i64 ((n1 + n2 - st : Nat) : Int))
  have ft := hf.trans f2
  have y1 : Bx ((W4.setCell ⟨b, 0, none⟩ (.int .i64 (st : Int))).setCell ⟨r, 0, none⟩ (.int .i64 ((n1 + n2 - st : Nat) : Int))) b 57 #[.int .i64 (st : Int), .slice (some ⟨gg, 0, none⟩) st st] := by
    have q := (x1.set 0 (.int .i64 (st : Int))).other (p := ⟨r, 0, none⟩) hbr (.int .i64 ((n1 + n2 - st : Nat) : Int))
    simpa using q
  have y2 : Bx ((W4.setCell ⟨b, 0, none⟩ (.int .i64 (st : Int))).setCell ⟨r, 0, none⟩ (.int .i64 ((n1 + n2 - st : Nat) : Int))) r 57 #[.int .i64 ((n1 + n2 - st : Nat) : Int), .slice (some ⟨gg, st, none⟩) (n1 + n2 - st) (cc - st)] := by
    have q := (x2.other (p := ⟨b, 0, none⟩) hbr.symm (.int .i64 (st : Int))).set 0 (.int .i64 ((n1 + n2 - st : Nat) : Int))
    simpa using q
  generalize (W4.setCell ⟨b, 0, none⟩ (.int .i64 (st : Int))).setCell ⟨r, 0, none⟩ (.int .i64 ((n1 + n2 - st : Nat) : Int)) = W6 at *
  have hs3 := hb3.size
  have hs6 := ft.2.2.2.1
  have gne : ∀ x, x = b ∨ x = r → gg ≠ x := by
    rintro x (rfl | rfl) <;> omega
  have cell : ∀ j, j < n1 + n2 → W6.cell? ⟨gg, j, none⟩ = some (.string (gt L j)) := by
    intro j hj
    rw [World.cell?_of_block (a := ⟨gg, j, none⟩) (ft.2.2.2.2 gg hgl.2 (gne b (.inl rfl)) (gne r (.inr rfl))), ho.cellAt j (by omega), hz, strL_get L j (by omega)]
  have l1 : (L.take st).length = st := by rw [List.length_take]; omega
  have l2 : (L.drop st).length = n1 + n2 - st := by rw [List.length_drop]; omega
  refine ⟨rfl, (fr2_of b r hb3).trans ft, ⟨b, some ⟨gg, 0, none⟩, st, rfl, .inl rfl, by rw [l1]; exact y1, by omega, ?_⟩, ⟨r, some ⟨gg, st, none⟩, cc - st, rfl, .inl rfl, by rw [l2]; exact y2, by omega, ?_⟩⟩
  · refine .inr ⟨gg, 0, rfl, .inr (by omega), by omega, fun i hi => ?_⟩
    rw [Nat.zero_add, cell i (by omega)]
    congr 2
    unfold gt
    rw [List.getD_eq_getElem?_getD, List.getD_eq_getElem?_getD, List.getElem?_take, if_pos (by omega)]
  · refine .inr ⟨gg, st, rfl, .inr (by omega), by omega, fun i hi => ?_⟩
    rw [cell (st + i) (by omega)]
    congr 2
    unfold gt
    rw [List.getD_eq_getElem?_getD, List.getD_eq_getElem?_getD, List.getElem?_drop]

set_option maxHeartbeats 8000000 in
theorem dealLeaf_any (d b r n1 n2 c1 c2 st : Nat) (a1 a2 : Option Addr) (x0 y0 : Int) (L1 L2 : List ByteArray) (W : World) (hb : Bx W b 57 #[.int .i64 x0, .slice a1 n1 c1]) (hr : Bx W r 57 #[.int .i64 y0, .slice a2 n2 c2]) (hbr : b ≠ r) (h1 : RdV W a1 n1 (strL L1)) (h2 : RdV W a2 n2 (strL L2)) (hst : st < n1 + n2) (hst0 : 0 < st) (hn : n1 + n2 ≤ 1000) :
    Calls Try.prog 73 #[.iface 53 (.pointer (some ⟨b, 0, none⟩)), .iface 53 (.pointer (some ⟨r, 0, none⟩)), .int .i64 (st : Int)] W fun e w' => e = .returned (.tuple #[]) ∧ Fr2 W w' b r ∧ TAo (fun x => x = b ∨ W.heap.size ≤ x) w' (d + 1) (.inl ((L1 ++ L2).take st)) (.iface 53 (.pointer (some ⟨b, 0, none⟩))) ∧ TAo (fun x => x = r ∨ W.heap.size ≤ x) w' (d + 1) (.inl ((L1 ++ L2).drop st)) (.iface 53 (.pointer (some ⟨r, 0, none⟩))) := by
  obtain ⟨xs, hxs⟩ : ∃ xs, xs = strL L1 := ⟨_, rfl⟩
  obtain ⟨ys, hys⟩ : ∃ ys, ys = strL L2 := ⟨_, rfl⟩
  rw [← hxs] at h1
  rw [← hys] at h2
  have HXY : Hid (xs ++ ys = strL (L1 ++ L2) ∧ n1 + n2 = (L1 ++ L2).length) := ⟨by rw [hxs, hys, strL_app], by have q1 := h1.1; have q2 := h2.1; rw [hxs, strL_length] at q1; rw [hys, strL_length] at q2; rw [List.length_append]; omega⟩
  have HRD : Hid (RdV W a1 n1 xs ∧ RdV W a2 n2 ys) := ⟨h1, h2⟩
  obtain ⟨X0, hX0⟩ : ∃ X0 : Value, X0 = .int .i64 x0 := ⟨_, rfl⟩
  have HX : Hid (Bx W b 57 #[.int .i64 x0, .slice a1 n1 c1] ∧ Bx W r 57 #[.int .i64 y0, .slice a2 n2 c2]) := ⟨hb, hr⟩
  have p1 := hb.cell 1
  have p2 := hr.cell 1
  simp at p1 p2
  have pz1 := hb.lt
  have pz2 := hr.lt
  clear h1 h2 hb hr hxs hys hX0 X0
  have t1 := ta1 (.pointer (some ⟨b, 0, none⟩))
  have t2 := ta2 (.pointer (some ⟨r, 0, none⟩))
  go_enter Try.func73, Try.ntmps73
  go_upto_region 4 with fail
  have HConc : Hid (Calls Try.prog 85 #[.slice (some ⟨W.heap.size, 0, none⟩) 2 2] (W.alloc (.cells #[.slice a1 n1 c1, .slice a2 n2 c2] 27)).drew fun e w' => ∃ gg cc, e = .returned (.slice (some ⟨gg, 0, none⟩) (n1 + n2) cc) ∧ w'.ownsRow (W.alloc (.cells #[.slice a1 n1 c1, .slice a2 n2 c2] 27)).drew.heap.size 9 1 (.slice (some ⟨gg, 0, none⟩) (n1 + n2) cc) (n1 + n2) (xs ++ ys) ∧ Below (W.alloc (.cells #[.slice a1 n1 c1, .slice a2 n2 c2] 27)).drew.heap.size (W.alloc (.cells #[.slice a1 n1 c1, .slice a2 n2 c2] 27)).drew w') := by
    have nb := (Bx.new W #[.slice a1 n1 c1, .slice a2 n2 c2] 27).drew
    have hbl : Below W.heap.size W (W.alloc (.cells #[.slice a1 n1 c1, .slice a2 n2 c2] 27)).drew := (below_alloc W _).drew
    exact concatS_any W.heap.size 2 n1 n2 c1 c2 a1 a2 xs ys _ ((nb.cell 0).trans (by simp)) ((nb.cell 1).trans (by simp)) (HRD.out.1.below hbl) (HRD.out.2.below hbl) (by omega) hn
  have HB0 : Hid (∀ w2, Below (W.alloc (.cells #[.slice a1 n1 c1, .slice a2 n2 c2] 27)).drew.heap.size (W.alloc (.cells #[.slice a1 n1 c1, .slice a2 n2 c2] 27)).drew w2 → Below W.heap.size W w2) := fun w2 h => (below_alloc W _).drew.trans (h.mono (by show W.heap.size ≤ (W.alloc _).heap.size; simp))
  refine wp_region_late (S := fun _ => True) 22 (by kernel_rfl) trivial (fun hHeld => ?_)
  refine late_take 0 .zero (v := ?_) (by kernel_rfl) (by kernel_rfl) (by kernel_rfl) (by kernel_rfl) (fun _ _ _ h => h) (by rfl) ?_ (by assumption) ?_
  rotate_left
  · (intro w hSw; go_simp) <;> with_reducible rfl
  simp only [Act.put, List.setIfInBounds_toArray, List.set_cons_zero, List.set_cons_succ]
  refine late_take 1 (.succ .zero) (v := ?_) (by kernel_rfl) (by kernel_rfl) (by kernel_rfl) (by kernel_rfl) (fun _ _ _ h => h) (by rfl) ?_ (by assumption) ?_
  rotate_left
  · (intro w hSw; go_simp) <;> with_reducible rfl
  simp only [Act.put, List.setIfInBounds_toArray, List.set_cons_zero, List.set_cons_succ]
  refine late_take 2 (.succ (.succ .zero)) (v := ?_) (by kernel_rfl) (by kernel_rfl) (by kernel_rfl) (by kernel_rfl) (fun _ _ _ h => h) (by rfl) ?_ (by assumption) ?_
  rotate_left
  · (intro w hSw; go_simp) <;> with_reducible rfl
  simp only [Act.put, List.setIfInBounds_toArray, List.set_cons_zero, List.set_cons_succ]
  refine late_take 3 (.succ (.succ (.succ .zero))) (v := ?_) (by kernel_rfl) (by kernel_rfl) (by kernel_rfl) (by kernel_rfl) (fun _ _ _ h => h) (by rfl) ?_ (by assumption) ?_
  rotate_left
  · (intro w hSw; go_simp) <;> with_reducible rfl
  simp only [Act.put, List.setIfInBounds_toArray, List.set_cons_zero, List.set_cons_succ]
  refine late_take 4 (.succ (.succ (.succ (.succ .zero)))) (v := ?_) (by kernel_rfl) (by kernel_rfl) (by kernel_rfl) (by kernel_rfl) (fun _ _ _ h => h) (by rfl) ?_ (by assumption) ?_
  rotate_left
  · (intro w hSw; go_simp) <;> with_reducible rfl
  simp only [Act.put, List.setIfInBounds_toArray, List.set_cons_zero, List.set_cons_succ]
  refine late_take 6 (.succ (.succ (.succ (.succ (.succ (.succ .zero)))))) (v := ?_) (by kernel_rfl) (by kernel_rfl) (by kernel_rfl) (by kernel_rfl) (fun _ _ _ h => h) (by rfl) ?_ (by assumption) ?_
  rotate_left
  · (intro w hSw; go_simp) <;> with_reducible rfl
  simp only [Act.put, List.setIfInBounds_toArray, List.set_cons_zero, List.set_cons_succ]
  refine late_take 7 (.succ (.succ (.succ (.succ (.succ (.succ (.succ .zero))))))) (v := ?_) (by kernel_rfl) (by kernel_rfl) (by kernel_rfl) (by kernel_rfl) (fun _ _ _ h => h) (by rfl) ?_ (by assumption) ?_
  rotate_left
  · (intro w hSw; go_simp) <;> with_reducible rfl
  simp only [Act.put, List.setIfInBounds_toArray, List.set_cons_zero, List.set_cons_succ]
  refine late_take 8 (.succ (.succ (.succ (.succ (.succ (.succ (.succ (.succ .zero)))))))) (v := ?_) (by kernel_rfl) (by kernel_rfl) (by kernel_rfl) (by kernel_rfl) (fun _ _ _ h => h) (by rfl) ?_ (by assumption) ?_
  rotate_left
  · (intro w hSw; go_simp) <;> with_reducible rfl
  simp only [Act.put, List.setIfInBounds_toArray, List.set_cons_zero, List.set_cons_succ]
  refine late_take 12 (.succ (.succ (.succ (.succ (.succ (.succ (.succ (.succ (.succ (.succ (.succ (.succ .zero)))))))))))) (v := ?_) (by kernel_rfl) (by kernel_rfl) (by kernel_rfl) (by kernel_rfl) (fun _ _ _ h => h) (by rfl) ?_ (by assumption) ?_
  rotate_left
  · (intro w hSw; go_simp) <;> with_reducible rfl
  simp only [Act.put, List.setIfInBounds_toArray, List.set_cons_zero, List.set_cons_succ]
  refine late_two 5 9 (.succ (.succ (.succ (.succ (.succ .zero))))) (.succ (.succ (.succ (.succ (.succ (.succ (.succ (.succ (.succ .zero))))))))) (by kernel_rfl) (fun K hK => ?_) (fun K hK => ?_)
  · skip
    go_simp
    refine hK.out _ _ ?_ (fun hHeld2 => ?_)
    · (intro _; trivial)
    clear hK K
    replace hHeld := hHeld2 (by decide)
    clear hHeld2
    try simp only [Act.put, List.setIfInBounds_toArray, List.set_cons_zero, List.set_cons_succ]
    refine late_one 9 (.succ (.succ (.succ (.succ (.succ (.succ (.succ (.succ (.succ .zero))))))))) (by kernel_rfl) (fun K hK => ?_)
    go_simp
    refine hK.out _ _ ?_ (fun hHeld2 => ?_)
    · (intro _; trivial)
    clear hK K
    replace hHeld := hHeld2 (by decide)
    clear hHeld2
    try simp only [Act.put, List.setIfInBounds_toArray, List.set_cons_zero, List.set_cons_succ]
    refine late_one 10 (.succ (.succ (.succ (.succ (.succ (.succ (.succ (.succ (.succ (.succ .zero)))))))))) (by kernel_rfl) (fun K hK => ?_)
    go_simp
    refine hK.out _ _ ?_ (fun hHeld2 => ?_)
    · (intro _; trivial)
    clear hK K
    replace hHeld := hHeld2 (by decide)
    clear hHeld2
    try simp only [Act.put, List.setIfInBounds_toArray, List.set_cons_zero, List.set_cons_succ]
    refine late_one 11 (.succ (.succ (.succ (.succ (.succ (.succ (.succ (.succ (.succ (.succ (.succ .zero))))))))))) (by kernel_rfl) (fun K hK => ?_)
    refine step_t1 (by rfl) 85 27 _ (by rfl) (.slice (some ⟨W.heap.size, 0, none⟩) 2 2) (by rfl) (fun _ _ => by rfl) ?_
    (with_reducible refine HConc.out.mono ?_)
    rintro e w2 ⟨gg, cc, rfl, ho2, hb2⟩
    refine ⟨_, rfl, ?_⟩
    have H2 : Hid (w2.ownsRow (W.heap.size + 1) 9 1 (.slice (some ⟨gg, 0, none⟩) (n1 + n2) cc) (n1 + n2) (xs ++ ys) ∧ Below W.heap.size W w2) := ⟨by have q : (W.alloc (.cells #[.slice a1 n1 c1, .slice a2 n2 c2] 27)).drew.heap.size = W.heap.size + 1 := (show (W.alloc (.cells #[.slice a1 n1 c1, .slice a2 n2 c2] 27)).heap.size = W.heap.size + 1 by simp); rw [q] at ho2; exact ho2, HB0.out w2 hb2⟩
    have hcc := own_cap H2.out.1
    clear ho2 hb2
    refine hK.out _ _ ?_ (fun hHeld2 => ?_)
    · (intro _; trivial)
    clear hK K
    replace hHeld := hHeld2 (by decide)
    clear hHeld2
    try simp only [Act.put, List.setIfInBounds_toArray, List.set_cons_zero, List.set_cons_succ]
    refine late_one 13 (.succ (.succ (.succ (.succ (.succ (.succ (.succ (.succ (.succ (.succ (.succ (.succ (.succ .zero))))))))))))) (by kernel_rfl) (fun K hK => ?_)
    have HCut : Hid (Calls Try.prog 84 #[.slice (some ⟨gg, 0, none⟩) (n1 + n2) cc, .int .i64 (st : Int)] w2 fun e w' => e = .returned (.tuple #[.slice (some ⟨gg, 0, none⟩) st st, .slice (some ⟨gg, st, none⟩) (n1 + n2 - st) (cc - st)]) ∧ w' = w2.drew) := cutS_any gg (n1 + n2) cc st w2 (by omega) hcc.1 hst
    refine step_t2 (by rfl) 84 28 29 _ (by rfl) (.slice (some ⟨gg, 0, none⟩) (n1 + n2) cc) (.int .i64 (st : Int)) (by rfl) (by rfl) (fun _ _ => by rfl) ?_
    (with_reducible refine HCut.out.mono ?_)
    rintro e w3 ⟨rfl, hw3⟩
    refine ⟨_, rfl, ?_⟩
    have H3 : Hid (Bx w3 b 57 #[.int .i64 x0, .slice a1 n1 c1] ∧ Bx w3 r 57 #[.int .i64 y0, .slice a2 n2 c2] ∧ w3.ownsRow (W.heap.size + 1) 9 1 (.slice (some ⟨gg, 0, none⟩) (n1 + n2) cc) (n1 + n2) (xs ++ ys) ∧ Below W.heap.size W w3) := by
      subst hw3
      exact ⟨(HX.out.1.below H2.out.2).drew, (HX.out.2.below H2.out.2).drew, own_below H2.out.1 (Below.refl _ _).drew, H2.out.2.drew⟩
    have l1 := H3.out.1.cell 1
    have l2 := H3.out.2.1.cell 1
    simp at l1 l2
    have lf1 := H3.out.1.frozen 1
    have lf2 := H3.out.2.1.frozen 1
    have lz1 := H3.out.1.lt
    have lz2 := H3.out.2.1.lt
    clear hw3 HCut
    refine hK.out _ _ ?_ (fun hHeld2 => ?_)
    · (intro _; trivial)
    clear hK K
    replace hHeld := hHeld2 (by decide)
    clear hHeld2
    try simp only [Act.put, List.setIfInBounds_toArray, List.set_cons_zero, List.set_cons_succ]
    refine late_one 14 (.succ (.succ (.succ (.succ (.succ (.succ (.succ (.succ (.succ (.succ (.succ (.succ (.succ (.succ .zero)))))))))))))) (by kernel_rfl) (fun K hK => ?_)
    go_simp
    refine hK.out _ _ ?_ (fun hHeld2 => ?_)
    · (intro _; trivial)
    clear hK K
    replace hHeld := hHeld2 (by decide)
    clear hHeld2
    try simp only [Act.put, List.setIfInBounds_toArray, List.set_cons_zero, List.set_cons_succ]
    refine late_take 15 (.succ (.succ (.succ (.succ (.succ (.succ (.succ (.succ (.succ (.succ (.succ (.succ (.succ (.succ (.succ .zero))))))))))))))) (v := ?_) (by kernel_rfl) (by kernel_rfl) (by kernel_rfl) (by kernel_rfl) (fun _ _ _ h => h) (by rfl) ?_ (by assumption) ?_
    rotate_left
    · (intro w hSw; go_simp) <;> with_reducible rfl
    simp only [Act.put, List.setIfInBounds_toArray, List.set_cons_zero, List.set_cons_succ]
    refine late_take 16 (.succ (.succ (.succ (.succ (.succ (.succ (.succ (.succ (.succ (.succ (.succ (.succ (.succ (.succ (.succ (.succ .zero)))))))))))))))) (v := ?_) (by kernel_rfl) (by kernel_rfl) (by kernel_rfl) (by kernel_rfl) (fun _ _ _ h => h) (by rfl) ?_ (by assumption) ?_
    rotate_left
    · (intro w hSw; go_simp) <;> with_reducible rfl
    simp only [Act.put, List.setIfInBounds_toArray, List.set_cons_zero, List.set_cons_succ]
    refine late_take 17 (.succ (.succ (.succ (.succ (.succ (.succ (.succ (.succ (.succ (.succ (.succ (.succ (.succ (.succ (.succ (.succ (.succ .zero))))))))))))))))) (v := ?_) (by kernel_rfl) (by kernel_rfl) (by kernel_rfl) (by kernel_rfl) (fun _ _ _ h => h) (by rfl) ?_ (by assumption) ?_
    rotate_left
    · (intro w hSw; go_simp) <;> with_reducible rfl
    simp only [Act.put, List.setIfInBounds_toArray, List.set_cons_zero, List.set_cons_succ]
    refine late_take 18 (.succ (.succ (.succ (.succ (.succ (.succ (.succ (.succ (.succ (.succ (.succ (.succ (.succ (.succ (.succ (.succ (.succ (.succ .zero)))))))))))))))))) (v := ?_) (by kernel_rfl) (by kernel_rfl) (by kernel_rfl) (by kernel_rfl) (fun _ _ _ h => h) (by rfl) ?_ (by assumption) ?_
    rotate_left
    · (intro w hSw; go_simp) <;> with_reducible rfl
    simp only [Act.put, List.setIfInBounds_toArray, List.set_cons_zero, List.set_cons_succ]
    refine late_one 19 (.succ (.succ (.succ (.succ (.succ (.succ (.succ (.succ (.succ (.succ (.succ (.succ (.succ (.succ (.succ (.succ (.succ (.succ (.succ .zero))))))))))))))))))) (by kernel_rfl) (fun K hK => ?_)
    go_simp
    refine hK.out _ _ ?_ (fun hHeld2 => ?_)
    · (intro _; trivial)
    clear hK K
    replace hHeld := hHeld2 (by decide)
    clear hHeld2
    try simp only [Act.put, List.setIfInBounds_toArray, List.set_cons_zero, List.set_cons_succ]
    refine late_one 20 (.succ (.succ (.succ (.succ (.succ (.succ (.succ (.succ (.succ (.succ (.succ (.succ (.succ (.succ (.succ (.succ (.succ (.succ (.succ (.succ .zero)))))))))))))))))))) (by kernel_rfl) (fun K hK => ?_)
    go_simp
    refine hK.out _ _ ?_ (fun hHeld2 => ?_)
    · (intro _; trivial)
    clear hK K
    replace hHeld := hHeld2 (by decide)
    clear hHeld2
    try simp only [Act.put, List.setIfInBounds_toArray, List.set_cons_zero, List.set_cons_succ]
    refine late_one 21 (.succ (.succ (.succ (.succ (.succ (.succ (.succ (.succ (.succ (.succ (.succ (.succ (.succ (.succ (.succ (.succ (.succ (.succ (.succ (.succ (.succ .zero))))))))))))))))))))) (by kernel_rfl) (fun K hK => ?_)
    go_simp
    refine hK.out _ _ ?_ (fun hHeld2 => ?_)
    · (intro _; trivial)
    clear hK K
    replace hHeld := hHeld2 (by decide)
    clear hHeld2
    try simp only [Act.put, List.setIfInBounds_toArray, List.set_cons_zero, List.set_cons_succ]
    refine late_one 22 (.succ (.succ (.succ (.succ (.succ (.succ (.succ (.succ (.succ (.succ (.succ (.succ (.succ (.succ (.succ (.succ (.succ (.succ (.succ (.succ (.succ (.succ .zero)))))))))))))))))))))) (by kernel_rfl) (fun K hK => ?_)
    go_simp
    refine hK.out _ _ ?_ (fun hHeld2 => ?_)
    · (intro hne; exact absurd rfl hne)
    clear hK K hHeld2
    refine wpLate_done (by kernel_rfl) ?_ _
    have HW : Hid (Bx ((w3.setCell ⟨b, 1, none⟩ (.slice (some ⟨gg, 0, none⟩) st st)).setCell ⟨r, 1, none⟩ (.slice (some ⟨gg, st, none⟩) (n1 + n2 - st) (cc - st))) b 57 #[.int .i64 x0, .slice (some ⟨gg, 0, none⟩) st st] ∧ Bx ((w3.setCell ⟨b, 1, none⟩ (.slice (some ⟨gg, 0, none⟩) st st)).setCell ⟨r, 1, none⟩ (.slice (some ⟨gg, st, none⟩) (n1 + n2 - st) (cc - st))) r 57 #[.int .i64 y0, .slice (some ⟨gg, st, none⟩) (n1 + n2 - st) (cc - st)] ∧ Fr2 w3 ((w3.setCell ⟨b, 1, none⟩ (.slice (some ⟨gg, 0, none⟩) st st)).setCell ⟨r, 1, none⟩ (.slice (some ⟨gg, st, none⟩) (n1 + n2 - st) (cc - st))) b r) := by
      refine ⟨?_, ?_, fr2_set2 _ _ _ _ _ _ _⟩
      · have q := (H3.out.1.set 1 (.slice (some ⟨gg, 0, none⟩) st st)).other (p := ⟨r, 1, none⟩) hbr (.slice (some ⟨gg, st, none⟩) (n1 + n2 - st) (cc - st))
        simpa using q
      · have q := (H3.out.2.1.other (p := ⟨b, 1, none⟩) hbr.symm (.slice (some ⟨gg, 0, none⟩) st st)).set 1 (.slice (some ⟨gg, st, none⟩) (n1 + n2 - st) (cc - st))
        simpa using q
    generalize (w3.setCell ⟨b, 1, none⟩ (.slice (some ⟨gg, 0, none⟩) st st)).setCell ⟨r, 1, none⟩ (.slice (some ⟨gg, st, none⟩) (n1 + n2 - st) (cc - st)) = W4 at HW ⊢
    clear l1 l2 lf1 lf2 lz1 lz2 hHeld
    have HR1 : Hid (Calls Try.prog 82 #[.pointer (some ⟨b, 0, none⟩)] W4 fun e w' => e = .returned (.tuple #[]) ∧ w' = W4.setCell ⟨b, 0, none⟩ (.int .i64 (st : Int))) := recountLeaf_any b st st _ x0 W4 HW.out.1
    go_wp2_with fail
    (with_reducible refine HR1.out.mono ?_)
    rintro e w5 ⟨rfl, rfl⟩
    have HX5 : Hid (Bx (W4.setCell ⟨b, 0, none⟩ (.int .i64 (st : Int))) b 57 #[.int .i64 (st : Int), .slice (some ⟨gg, 0, none⟩) st st] ∧ Bx (W4.setCell ⟨b, 0, none⟩ (.int .i64 (st : Int))) r 57 #[.int .i64 y0, .slice (some ⟨gg, st, none⟩) (n1 + n2 - st) (cc - st)]) := ⟨by simpa using HW.out.1.set 0 (.int .i64 (st : Int)), HW.out.2.1.other (p := ⟨b, 0, none⟩) hbr.symm _⟩
    have HR2 : Hid (Calls Try.prog 82 #[.pointer (some ⟨r, 0, none⟩)] (W4.setCell ⟨b, 0, none⟩ (.int .i64 (st : Int))) fun e w' => e = .returned (.tuple #[]) ∧ w' = (W4.setCell ⟨b, 0, none⟩ (.int .i64 (st : Int))).setCell ⟨r, 0, none⟩ (.int .i64 ((n1 + n2 - st : Nat) : Int))) := recountLeaf_any r (n1 + n2 - st) (cc - st) _ y0 _ HX5.out.2
    go_wp2_with fail
    (with_reducible refine HR2.out.mono ?_)
    rintro e w6 ⟨rfl, rfl⟩
    go_wp2
    go_end0
    exact dealLeaf_end d HXY.out.1 HXY.out.2 hbr pz1 pz2 hst H3.out.2.2.2 H3.out.2.2.1 HW.out.2.2 HW.out.1 HW.out.2.1
  · skip
    go_simp
    refine hK.out _ _ ?_ (fun hHeld2 => ?_)
    · (intro _; trivial)
    clear hK K
    replace hHeld := hHeld2 (by decide)
    clear hHeld2
    try simp only [Act.put, List.setIfInBounds_toArray, List.set_cons_zero, List.set_cons_succ]
    refine late_one 5 (.succ (.succ (.succ (.succ (.succ .zero))))) (by kernel_rfl) (fun K hK => ?_)
    go_simp
    refine hK.out _ _ ?_ (fun hHeld2 => ?_)
    · (intro _; trivial)
    clear hK K
    replace hHeld := hHeld2 (by decide)
    clear hHeld2
    try simp only [Act.put, List.setIfInBounds_toArray, List.set_cons_zero, List.set_cons_succ]
    refine late_one 10 (.succ (.succ (.succ (.succ (.succ (.succ (.succ (.succ (.succ (.succ .zero)))))))))) (by kernel_rfl) (fun K hK => ?_)
    go_simp
    refine hK.out _ _ ?_ (fun hHeld2 => ?_)
    · (intro _; trivial)
    clear hK K
    replace hHeld := hHeld2 (by decide)
    clear hHeld2
    try simp only [Act.put, List.setIfInBounds_toArray, List.set_cons_zero, List.set_cons_succ]
    refine late_one 11 (.succ (.succ (.succ (.succ (.succ (.succ (.succ (.succ (.succ (.succ (.succ .zero))))))))))) (by kernel_rfl) (fun K hK => ?_)
    refine step_t1 (by rfl) 85 27 _ (by rfl) (.slice (some ⟨W.heap.size, 0, none⟩) 2 2) (by rfl) (fun _ _ => by rfl) ?_
    (with_reducible refine HConc.out.mono ?_)
    rintro e w2 ⟨gg, cc, rfl, ho2, hb2⟩
    refine ⟨_, rfl, ?_⟩
    have H2 : Hid (w2.ownsRow (W.heap.size + 1) 9 1 (.slice (some ⟨gg, 0, none⟩) (n1 + n2) cc) (n1 + n2) (xs ++ ys) ∧ Below W.heap.size W w2) := ⟨by have q : (W.alloc (.cells #[.slice a1 n1 c1, .slice a2 n2 c2] 27)).drew.heap.size = W.heap.size + 1 := (show (W.alloc (.cells #[.slice a1 n1 c1, .slice a2 n2 c2] 27)).heap.size = W.heap.size + 1 by simp); rw [q] at ho2; exact ho2, HB0.out w2 hb2⟩
    have hcc := own_cap H2.out.1
    clear ho2 hb2
    refine hK.out _ _ ?_ (fun hHeld2 => ?_)
    · (intro _; trivial)
    clear hK K
    replace hHeld := hHeld2 (by decide)
    clear hHeld2
    try simp only [Act.put, List.setIfInBounds_toArray, List.set_cons_zero, List.set_cons_succ]
    refine late_one 13 (.succ (.succ (.succ (.succ (.succ (.succ (.succ (.succ (.succ (.succ (.succ (.succ (.succ .zero))))))))))))) (by kernel_rfl) (fun K hK => ?_)
    have HCut : Hid (Calls Try.prog 84 #[.slice (some ⟨gg, 0, none⟩) (n1 + n2) cc, .int .i64 (st : Int)] w2 fun e w' => e = .returned (.tuple #[.slice (some ⟨gg, 0, none⟩) st st, .slice (some ⟨gg, st, none⟩) (n1 + n2 - st) (cc - st)]) ∧ w' = w2.drew) := cutS_any gg (n1 + n2) cc st w2 (by omega) hcc.1 hst
    refine step_t2 (by rfl) 84 28 29 _ (by rfl) (.slice (some ⟨gg, 0, none⟩) (n1 + n2) cc) (.int .i64 (st : Int)) (by rfl) (by rfl) (fun _ _ => by rfl) ?_
    (with_reducible refine HCut.out.mono ?_)
    rintro e w3 ⟨rfl, hw3⟩
    refine ⟨_, rfl, ?_⟩
    have H3 : Hid (Bx w3 b 57 #[.int .i64 x0, .slice a1 n1 c1] ∧ Bx w3 r 57 #[.int .i64 y0, .slice a2 n2 c2] ∧ w3.ownsRow (W.heap.size + 1) 9 1 (.slice (some ⟨gg, 0, none⟩) (n1 + n2) cc) (n1 + n2) (xs ++ ys) ∧ Below W.heap.size W w3) := by
      subst hw3
      exact ⟨(HX.out.1.below H2.out.2).drew, (HX.out.2.below H2.out.2).drew, own_below H2.out.1 (Below.refl _ _).drew, H2.out.2.drew⟩
    have l1 := H3.out.1.cell 1
    have l2 := H3.out.2.1.cell 1
    simp at l1 l2
    have lf1 := H3.out.1.frozen 1
    have lf2 := H3.out.2.1.frozen 1
    have lz1 := H3.out.1.lt
    have lz2 := H3.out.2.1.lt
    clear hw3 HCut
    refine hK.out _ _ ?_ (fun hHeld2 => ?_)
    · (intro _; trivial)
    clear hK K
    replace hHeld := hHeld2 (by decide)
    clear hHeld2
    try simp only [Act.put, List.setIfInBounds_toArray, List.set_cons_zero, List.set_cons_succ]
    refine late_one 14 (.succ (.succ (.succ (.succ (.succ (.succ (.succ (.succ (.succ (.succ (.succ (.succ (.succ (.succ .zero)))))))))))))) (by kernel_rfl) (fun K hK => ?_)
    go_simp
    refine hK.out _ _ ?_ (fun hHeld2 => ?_)
    · (intro _; trivial)
    clear hK K
    replace hHeld := hHeld2 (by decide)
    clear hHeld2
    try simp only [Act.put, List.setIfInBounds_toArray, List.set_cons_zero, List.set_cons_succ]
    refine late_take 15 (.succ (.succ (.succ (.succ (.succ (.succ (.succ (.succ (.succ (.succ (.succ (.succ (.succ (.succ (.succ .zero))))))))))))))) (v := ?_) (by kernel_rfl) (by kernel_rfl) (by kernel_rfl) (by kernel_rfl) (fun _ _ _ h => h) (by rfl) ?_ (by assumption) ?_
    rotate_left
    · (intro w hSw; go_simp) <;> with_reducible rfl
    simp only [Act.put, List.setIfInBounds_toArray, List.set_cons_zero, List.set_cons_succ]
    refine late_take 16 (.succ (.succ (.succ (.succ (.succ (.succ (.succ (.succ (.succ (.succ (.succ (.succ (.succ (.succ (.succ (.succ .zero)))))))))))))))) (v := ?_) (by kernel_rfl) (by kernel_rfl) (by kernel_rfl) (by kernel_rfl) (fun _ _ _ h => h) (by rfl) ?_ (by assumption) ?_
    rotate_left
    · (intro w hSw; go_simp) <;> with_reducible rfl
    simp only [Act.put, List.setIfInBounds_toArray, List.set_cons_zero, List.set_cons_succ]
    refine late_take 17 (.succ (.succ (.succ (.succ (.succ (.succ (.succ (.succ (.succ (.succ (.succ (.succ (.succ (.succ (.succ (.succ (.succ .zero))))))))))))))))) (v := ?_) (by kernel_rfl) (by kernel_rfl) (by kernel_rfl) (by kernel_rfl) (fun _ _ _ h => h) (by rfl) ?_ (by assumption) ?_
    rotate_left
    · (intro w hSw; go_simp) <;> with_reducible rfl
    simp only [Act.put, List.setIfInBounds_toArray, List.set_cons_zero, List.set_cons_succ]
    refine late_take 18 (.succ (.succ (.succ (.succ (.succ (.succ (.succ (.succ (.succ (.succ (.succ (.succ (.succ (.succ (.succ (.succ (.succ (.succ .zero)))))))))))))))))) (v := ?_) (by kernel_rfl) (by kernel_rfl) (by kernel_rfl) (by kernel_rfl) (fun _ _ _ h => h) (by rfl) ?_ (by assumption) ?_
    rotate_left
    · (intro w hSw; go_simp) <;> with_reducible rfl
    simp only [Act.put, List.setIfInBounds_toArray, List.set_cons_zero, List.set_cons_succ]
    refine late_one 19 (.succ (.succ (.succ (.succ (.succ (.succ (.succ (.succ (.succ (.succ (.succ (.succ (.succ (.succ (.succ (.succ (.succ (.succ (.succ .zero))))))))))))))))))) (by kernel_rfl) (fun K hK => ?_)
    go_simp
    refine hK.out _ _ ?_ (fun hHeld2 => ?_)
    · (intro _; trivial)
    clear hK K
    replace hHeld := hHeld2 (by decide)
    clear hHeld2
    try simp only [Act.put, List.setIfInBounds_toArray, List.set_cons_zero, List.set_cons_succ]
    refine late_one 20 (.succ (.succ (.succ (.succ (.succ (.succ (.succ (.succ (.succ (.succ (.succ (.succ (.succ (.succ (.succ (.succ (.succ (.succ (.succ (.succ .zero)))))))))))))))))))) (by kernel_rfl) (fun K hK => ?_)
    go_simp
    refine hK.out _ _ ?_ (fun hHeld2 => ?_)
    · (intro _; trivial)
    clear hK K
    replace hHeld := hHeld2 (by decide)
    clear hHeld2
    try simp only [Act.put, List.setIfInBounds_toArray, List.set_cons_zero, List.set_cons_succ]
    refine late_one 21 (.succ (.succ (.succ (.succ (.succ (.succ (.succ (.succ (.succ (.succ (.succ (.succ (.succ (.succ (.succ (.succ (.succ (.succ (.succ (.succ (.succ .zero))))))))))))))))))))) (by kernel_rfl) (fun K hK => ?_)
    go_simp
    refine hK.out _ _ ?_ (fun hHeld2 => ?_)
    · (intro _; trivial)
    clear hK K
    replace hHeld := hHeld2 (by decide)
    clear hHeld2
    try simp only [Act.put, List.setIfInBounds_toArray, List.set_cons_zero, List.set_cons_succ]
    refine late_one 22 (.succ (.succ (.succ (.succ (.succ (.succ (.succ (.succ (.succ (.succ (.succ (.succ (.succ (.succ (.succ (.succ (.succ (.succ (.succ (.succ (.succ (.succ .zero)))))))))))))))))))))) (by kernel_rfl) (fun K hK => ?_)
    go_simp
    refine hK.out _ _ ?_ (fun hHeld2 => ?_)
    · (intro hne; exact absurd rfl hne)
    clear hK K hHeld2
    refine wpLate_done (by kernel_rfl) ?_ _
    have HW : Hid (Bx ((w3.setCell ⟨b, 1, none⟩ (.slice (some ⟨gg, 0, none⟩) st st)).setCell ⟨r, 1, none⟩ (.slice (some ⟨gg, st, none⟩) (n1 + n2 - st) (cc - st))) b 57 #[.int .i64 x0, .slice (some ⟨gg, 0, none⟩) st st] ∧ Bx ((w3.setCell ⟨b, 1, none⟩ (.slice (some ⟨gg, 0, none⟩) st st)).setCell ⟨r, 1, none⟩ (.slice (some ⟨gg, st, none⟩) (n1 + n2 - st) (cc - st))) r 57 #[.int .i64 y0, .slice (some ⟨gg, st, none⟩) (n1 + n2 - st) (cc - st)] ∧ Fr2 w3 ((w3.setCell ⟨b, 1, none⟩ (.slice (some ⟨gg, 0, none⟩) st st)).setCell ⟨r, 1, none⟩ (.slice (some ⟨gg, st, none⟩) (n1 + n2 - st) (cc - st))) b r) := by
      refine ⟨?_, ?_, fr2_set2 _ _ _ _ _ _ _⟩
      · have q := (H3.out.1.set 1 (.slice (some ⟨gg, 0, none⟩) st st)).other (p := ⟨r, 1, none⟩) hbr (.slice (some ⟨gg, st, none⟩) (n1 + n2 - st) (cc - st))
        simpa using q
      · have q := (H3.out.2.1.other (p := ⟨b, 1, none⟩) hbr.symm (.slice (some ⟨gg, 0, none⟩) st st)).set 1 (.slice (some ⟨gg, st, none⟩) (n1 + n2 - st) (cc - st))
        simpa using q
    generalize (w3.setCell ⟨b, 1, none⟩ (.slice (some ⟨gg, 0, none⟩) st st)).setCell ⟨r, 1, none⟩ (.slice (some ⟨gg, st, none⟩) (n1 + n2 - st) (cc - st)) = W4 at HW ⊢
    clear l1 l2 lf1 lf2 lz1 lz2 hHeld
    have HR1 : Hid (Calls Try.prog 82 #[.pointer (some ⟨b, 0, none⟩)] W4 fun e w' => e = .returned (.tuple #[]) ∧ w' = W4.setCell ⟨b, 0, none⟩ (.int .i64 (st : Int))) := recountLeaf_any b st st _ x0 W4 HW.out.1
    go_wp2_with fail
    (with_reducible refine HR1.out.mono ?_)
    rintro e w5 ⟨rfl, rfl⟩
    have HX5 : Hid (Bx (W4.setCell ⟨b, 0, none⟩ (.int .i64 (st : Int))) b 57 #[.int .i64 (st : Int), .slice (some ⟨gg, 0, none⟩) st st] ∧ Bx (W4.setCell ⟨b, 0, none⟩ (.int .i64 (st : Int))) r 57 #[.int .i64 y0, .slice (some ⟨gg, st, none⟩) (n1 + n2 - st) (cc - st)]) := ⟨by simpa using HW.out.1.set 0 (.int .i64 (st : Int)), HW.out.2.1.other (p := ⟨b, 0, none⟩) hbr.symm _⟩
    have HR2 : Hid (Calls Try.prog 82 #[.pointer (some ⟨r, 0, none⟩)] (W4.setCell ⟨b, 0, none⟩ (.int .i64 (st : Int))) fun e w' => e = .returned (.tuple #[]) ∧ w' = (W4.setCell ⟨b, 0, none⟩ (.int .i64 (st : Int))).setCell ⟨r, 0, none⟩ (.int .i64 ((n1 + n2 - st : Nat) : Int))) := recountLeaf_any r (n1 + n2 - st) (cc - st) _ y0 _ HX5.out.2
    go_wp2_with fail
    (with_reducible refine HR2.out.mono ?_)
    rintro e w6 ⟨rfl, rfl⟩
    go_wp2
    go_end0
    exact dealLeaf_end d HXY.out.1 HXY.out.2 hbr pz1 pz2 hst H3.out.2.2.2 H3.out.2.2.1 HW.out.2.2 HW.out.1 HW.out.2.1

theorem dealIn_kid {d b r : Nat} {S : Nat → Prop} {W W4 : World} {l : List (Ro d)} {zs : List Value} (hk : ∀ k (h : k < l.length), ∃ u, zs[k]? = some u ∧ TAo S W d l[k] u) (hSb : ¬ S b) (hSr : ¬ S r) (hf : Fr2 W W4 b r) (k : Nat) (h : k < l.length) : ∃ u bb, zs[k]? = some u ∧ (bb ≠ b ∧ bb ≠ r) ∧ W4.cell? ⟨bb, 0, none⟩ = some (.int .i64 ((keysR d l[k]).length : Int)) ∧ (u = .iface 53 (.pointer (some ⟨bb, 0, none⟩)) ∨ u = .iface 91 (.pointer (some ⟨bb, 0, none⟩))) := by
  obtain ⟨u, hu, ht⟩ := hk k h
  obtain ⟨bb, q1, q2, q3, q4⟩ := ht.count
  have n1 : bb ≠ b := fun e => hSb (e ▸ q1)
  have n2 : bb ≠ r := fun e => hSr (e ▸ q1)
  exact ⟨u, bb, hu, ⟨n1, n2⟩, (World.cell?_of_block (a := ⟨bb, 0, none⟩) (hf.2.2.2.2 bb q2 n1 n2)).trans q3, q4⟩

theorem fr2_grown {w w' : World} {b r : Nat} (h : w.grownBy w' (some b)) : Fr2 w w' b r := ⟨h.os, h.tape, h.output, h.size, fun k hk h1 _ => h.block k hk (fun e => h1 (by injection e))⟩
theorem fr2_grown' {w w' : World} {b r : Nat} (h : w.grownBy w' (some r)) : Fr2 w w' b r := ⟨h.os, h.tape, h.output, h.size, fun k hk _ h1 => h.block k hk (fun e => h1 (by injection e))⟩

theorem dealIn_side {d : Nat} {b r x gg o cc : Nat} {S : Nat → Prop} {W W6 : World} {l : List (Ro d)} {zs : List Value} {k0 m : Nat} (hk : ∀ k (h : k < l.length), ∃ u, zs[k]? = some u ∧ TAo S W d l[k] u) (hSb : ¬ S b) (hSr : ¬ S r) (hf : Fr2 W W6 b r) (hx : Bx W6 x 96 #[.int .i64 ((((l.drop k0).take m).flatMap (keysR d)).length : Int), .slice (some ⟨gg, o, none⟩) m cc]) (hgW : W.heap.size ≤ gg) (hg6 : gg < W6.heap.size) (hxg : gg ≠ x) (hm : k0 + m ≤ l.length) (hm0 : 0 < m) (hcap : m ≤ cc ∧ cc ≤ 9223372036854775807) (hc : ∀ j u, ((zs.drop k0).take m)[j]? = some u → W6.cell? ⟨gg, o + j, none⟩ = some u) :
    TAo (fun y => S y ∨ y = x ∨ W.heap.size ≤ y) W6 (d + 1) (.inr ((l.drop k0).take m)) (.iface 91 (.pointer (some ⟨x, 0, none⟩))) := by
  have lm : ((l.drop k0).take m).length = m := by rw [List.length_take, List.length_drop]; omega
  refine ⟨x, gg, o, cc, (zs.drop k0).take m, rfl, .inr (.inl rfl), by rw [lm]; exact hx, ⟨.inr (.inr hgW), hxg⟩, ⟨hg6, by rw [lm]; exact hcap⟩, by omega, hc, fun k h => ?_⟩
  rw [lm] at h
  obtain ⟨u, hu, ht⟩ := hk (k0 + k) (by omega)
  refine ⟨u, by rw [List.getElem?_take, if_pos h, List.getElem?_drop]; exact hu, ?_⟩
  rw [List.getElem_take, List.getElem_drop]
  exact TAo.keep hf.2.2.2.1 (fun y hy hl => ⟨.inl hy, hf.2.2.2.2 y hl (fun e => hSb (e ▸ hy)) (fun e => hSr (e ▸ hy))⟩) ht

set_option maxHeartbeats 8000000 in
theorem dealInner_any (d b r n1 n2 c1 c2 st : Nat) (a1 a2 : Option Addr) (x0 y0 : Int) (xs ys : List Value) (l : List (Ro d)) (S : Nat → Prop) (W : World) (hb : Bx W b 96 #[.int .i64 x0, .slice a1 n1 c1]) (hr : Bx W r 96 #[.int .i64 y0, .slice a2 n2 c2]) (hbr : b ≠ r) (h1 : RdV W a1 n1 xs) (h2 : RdV W a2 n2 ys) (hl : n1 + n2 = l.length) (hk : ∀ k (h : k < l.length), ∃ u, (xs ++ ys)[k]? = some u ∧ TAo S W d l[k] u) (hSb : ¬ S b) (hSr : ¬ S r) (hkeys : (l.flatMap (keysR d)).length ≤ 1099511627776) (hst : st < n1 + n2) (hst0 : 0 < st) (hn : n1 + n2 ≤ 1000) :
    Calls Try.prog 73 #[.iface 91 (.pointer (some ⟨b, 0, none⟩)), .iface 91 (.pointer (some ⟨r, 0, none⟩)), .int .i64 (st : Int)] W fun e w' => e = .returned (.tuple #[]) ∧ Fr2 W w' b r ∧ TAo (fun x => S x ∨ x = b ∨ W.heap.size ≤ x) w' (d + 1) (.inr ((l.drop 0).take st)) (.iface 91 (.pointer (some ⟨b, 0, none⟩))) ∧ TAo (fun x => S x ∨ x = r ∨ W.heap.size ≤ x) w' (d + 1) (.inr ((l.drop st).take (n1 + n2 - st))) (.iface 91 (.pointer (some ⟨r, 0, none⟩))) := by
  have HK : Hid ((∀ k (h : k < l.length), ∃ u, (xs ++ ys)[k]? = some u ∧ TAo S W d l[k] u) ∧ ¬ S b ∧ ¬ S r) := ⟨hk, hSb, hSr⟩
  have HL : Hid (n1 + n2 = l.length ∧ (l.flatMap (keysR d)).length ≤ 1099511627776) := ⟨hl, hkeys⟩
  have HRD : Hid (RdV W a1 n1 xs ∧ RdV W a2 n2 ys) := ⟨h1, h2⟩
  have HX : Hid (Bx W b 96 #[.int .i64 x0, .slice a1 n1 c1] ∧ Bx W r 96 #[.int .i64 y0, .slice a2 n2 c2]) := ⟨hb, hr⟩
  have p1 := hb.cell 1
  have p2 := hr.cell 1
  simp at p1 p2
  have pz1 := hb.lt
  have pz2 := hr.lt
  clear h1 h2 hb hr hk hSb hSr hl hkeys
  have t3 := ta3 (.pointer (some ⟨b, 0, none⟩))
  have t4 := ta4 (.pointer (some ⟨b, 0, none⟩))
  have t5 := ta5 (.pointer (some ⟨r, 0, none⟩))
  go_enter Try.func73, Try.ntmps73
  go_upto_region 8 with fail
  have HConc : Hid (Calls Try.prog 87 #[.slice (some ⟨W.heap.size, 0, none⟩) 2 2] (W.alloc (.cells #[.slice a1 n1 c1, .slice a2 n2 c2] 94)).drew fun e w' => ∃ gg cc, e = .returned (.slice (some ⟨gg, 0, none⟩) (n1 + n2) cc) ∧ w'.ownsRow (W.alloc (.cells #[.slice a1 n1 c1, .slice a2 n2 c2] 94)).drew.heap.size 59 1 (.slice (some ⟨gg, 0, none⟩) (n1 + n2) cc) (n1 + n2) (xs ++ ys) ∧ Below (W.alloc (.cells #[.slice a1 n1 c1, .slice a2 n2 c2] 94)).drew.heap.size (W.alloc (.cells #[.slice a1 n1 c1, .slice a2 n2 c2] 94)).drew w') := by
    have nb := (Bx.new W #[.slice a1 n1 c1, .slice a2 n2 c2] 94).drew
    have hbl : Below W.heap.size W (W.alloc (.cells #[.slice a1 n1 c1, .slice a2 n2 c2] 94)).drew := (below_alloc W _).drew
    exact concatN_any W.heap.size 2 n1 n2 c1 c2 a1 a2 xs ys _ ((nb.cell 0).trans (by simp)) ((nb.cell 1).trans (by simp)) (HRD.out.1.below hbl) (HRD.out.2.below hbl) (by omega) hn
  have HB0 : Hid (∀ w2, Below (W.alloc (.cells #[.slice a1 n1 c1, .slice a2 n2 c2] 94)).drew.heap.size (W.alloc (.cells #[.slice a1 n1 c1, .slice a2 n2 c2] 94)).drew w2 → Below W.heap.size W w2) := fun w2 h => (below_alloc W _).drew.trans (h.mono (by show W.heap.size ≤ (W.alloc _).heap.size; simp))
  refine wp_region_late (S := fun _ => True) 22 (by kernel_rfl) trivial (fun hHeld => ?_)
  refine late_take 0 .zero (v := ?_) (by kernel_rfl) (by kernel_rfl) (by kernel_rfl) (by kernel_rfl) (fun _ _ _ h => h) (by rfl) ?_ (by assumption) ?_
  rotate_left
  · (intro w hSw; go_simp) <;> with_reducible rfl
  simp only [Act.put, List.setIfInBounds_toArray, List.set_cons_zero, List.set_cons_succ]
  refine late_take 1 (.succ .zero) (v := ?_) (by kernel_rfl) (by kernel_rfl) (by kernel_rfl) (by kernel_rfl) (fun _ _ _ h => h) (by rfl) ?_ (by assumption) ?_
  rotate_left
  · (intro w hSw; go_simp) <;> with_reducible rfl
  simp only [Act.put, List.setIfInBounds_toArray, List.set_cons_zero, List.set_cons_succ]
  refine late_take 2 (.succ (.succ .zero)) (v := ?_) (by kernel_rfl) (by kernel_rfl) (by kernel_rfl) (by kernel_rfl) (fun _ _ _ h => h) (by rfl) ?_ (by assumption) ?_
  rotate_left
  · (intro w hSw; go_simp) <;> with_reducible rfl
  simp only [Act.put, List.setIfInBounds_toArray, List.set_cons_zero, List.set_cons_succ]
  refine late_take 3 (.succ (.succ (.succ .zero))) (v := ?_) (by kernel_rfl) (by kernel_rfl) (by kernel_rfl) (by kernel_rfl) (fun _ _ _ h => h) (by rfl) ?_ (by assumption) ?_
  rotate_left
  · (intro w hSw; go_simp) <;> with_reducible rfl
  simp only [Act.put, List.setIfInBounds_toArray, List.set_cons_zero, List.set_cons_succ]
  refine late_take 4 (.succ (.succ (.succ (.succ .zero)))) (v := ?_) (by kernel_rfl) (by kernel_rfl) (by kernel_rfl) (by kernel_rfl) (fun _ _ _ h => h) (by rfl) ?_ (by assumption) ?_
  rotate_left
  · (intro w hSw; go_simp) <;> with_reducible rfl
  simp only [Act.put, List.setIfInBounds_toArray, List.set_cons_zero, List.set_cons_succ]
  refine late_take 6 (.succ (.succ (.succ (.succ (.succ (.succ .zero)))))) (v := ?_) (by kernel_rfl) (by kernel_rfl) (by kernel_rfl) (by kernel_rfl) (fun _ _ _ h => h) (by rfl) ?_ (by assumption) ?_
  rotate_left
  · (intro w hSw; go_simp) <;> with_reducible rfl
  simp only [Act.put, List.setIfInBounds_toArray, List.set_cons_zero, List.set_cons_succ]
  refine late_take 7 (.succ (.succ (.succ (.succ (.succ (.succ (.succ .zero))))))) (v := ?_) (by kernel_rfl) (by kernel_rfl) (by kernel_rfl) (by kernel_rfl) (fun _ _ _ h => h) (by rfl) ?_ (by assumption) ?_
  rotate_left
  · (intro w hSw; go_simp) <;> with_reducible rfl
  simp only [Act.put, List.setIfInBounds_toArray, List.set_cons_zero, List.set_cons_succ]
  refine late_take 8 (.succ (.succ (.succ (.succ (.succ (.succ (.succ (.succ .zero)))))))) (v := ?_) (by kernel_rfl) (by kernel_rfl) (by kernel_rfl) (by kernel_rfl) (fun _ _ _ h => h) (by rfl) ?_ (by assumption) ?_
  rotate_left
  · (intro w hSw; go_simp) <;> with_reducible rfl
  simp only [Act.put, List.setIfInBounds_toArray, List.set_cons_zero, List.set_cons_succ]
  refine late_take 12 (.succ (.succ (.succ (.succ (.succ (.succ (.succ (.succ (.succ (.succ (.succ (.succ .zero)))))))))))) (v := ?_) (by kernel_rfl) (by kernel_rfl) (by kernel_rfl) (by kernel_rfl) (fun _ _ _ h => h) (by rfl) ?_ (by assumption) ?_
  rotate_left
  · (intro w hSw; go_simp) <;> with_reducible rfl
  simp only [Act.put, List.setIfInBounds_toArray, List.set_cons_zero, List.set_cons_succ]
  refine late_two 5 9 (.succ (.succ (.succ (.succ (.succ .zero))))) (.succ (.succ (.succ (.succ (.succ (.succ (.succ (.succ (.succ .zero))))))))) (by kernel_rfl) (fun K hK => ?_) (fun K hK => ?_)
  · skip
    go_simp
    refine hK.out _ _ ?_ (fun hHeld2 => ?_)
    · (intro _; trivial)
    clear hK K
    replace hHeld := hHeld2 (by decide)
    clear hHeld2
    try simp only [Act.put, List.setIfInBounds_toArray, List.set_cons_zero, List.set_cons_succ]
    refine late_one 9 (.succ (.succ (.succ (.succ (.succ (.succ (.succ (.succ (.succ .zero))))))))) (by kernel_rfl) (fun K hK => ?_)
    go_simp
    refine hK.out _ _ ?_ (fun hHeld2 => ?_)
    · (intro _; trivial)
    clear hK K
    replace hHeld := hHeld2 (by decide)
    clear hHeld2
    try simp only [Act.put, List.setIfInBounds_toArray, List.set_cons_zero, List.set_cons_succ]
    refine late_one 10 (.succ (.succ (.succ (.succ (.succ (.succ (.succ (.succ (.succ (.succ .zero)))))))))) (by kernel_rfl) (fun K hK => ?_)
    go_simp
    refine hK.out _ _ ?_ (fun hHeld2 => ?_)
    · (intro _; trivial)
    clear hK K
    replace hHeld := hHeld2 (by decide)
    clear hHeld2
    try simp only [Act.put, List.setIfInBounds_toArray, List.set_cons_zero, List.set_cons_succ]
    refine late_one 11 (.succ (.succ (.succ (.succ (.succ (.succ (.succ (.succ (.succ (.succ (.succ .zero))))))))))) (by kernel_rfl) (fun K hK => ?_)
    refine step_t1 (by rfl) 87 53 _ (by rfl) (.slice (some ⟨W.heap.size, 0, none⟩) 2 2) (by rfl) (fun _ _ => by rfl) ?_
    (with_reducible refine HConc.out.mono ?_)
    rintro e w2 ⟨gg, cc, rfl, ho2, hb2⟩
    refine ⟨_, rfl, ?_⟩
    have H2 : Hid (w2.ownsRow (W.heap.size + 1) 59 1 (.slice (some ⟨gg, 0, none⟩) (n1 + n2) cc) (n1 + n2) (xs ++ ys) ∧ Below W.heap.size W w2) := ⟨by have q : (W.alloc (.cells #[.slice a1 n1 c1, .slice a2 n2 c2] 94)).drew.heap.size = W.heap.size + 1 := (show (W.alloc (.cells #[.slice a1 n1 c1, .slice a2 n2 c2] 94)).heap.size = W.heap.size + 1 by simp); rw [q] at ho2; exact ho2, HB0.out w2 hb2⟩
    have hcc := own_cap H2.out.1
    clear ho2 hb2
    refine hK.out _ _ ?_ (fun hHeld2 => ?_)
    · (intro _; trivial)
    clear hK K
    replace hHeld := hHeld2 (by decide)
    clear hHeld2
    try simp only [Act.put, List.setIfInBounds_toArray, List.set_cons_zero, List.set_cons_succ]
    refine late_one 13 (.succ (.succ (.succ (.succ (.succ (.succ (.succ (.succ (.succ (.succ (.succ (.succ (.succ .zero))))))))))))) (by kernel_rfl) (fun K hK => ?_)
    have HCut : Hid (Calls Try.prog 86 #[.slice (some ⟨gg, 0, none⟩) (n1 + n2) cc, .int .i64 (st : Int)] w2 fun e w' => e = .returned (.tuple #[.slice (some ⟨gg, 0, none⟩) st st, .slice (some ⟨gg, st, none⟩) (n1 + n2 - st) (cc - st)]) ∧ w' = w2.drew) := cutN_any gg (n1 + n2) cc st w2 (by omega) hcc.1 hst
    refine step_t2 (by rfl) 86 54 55 _ (by rfl) (.slice (some ⟨gg, 0, none⟩) (n1 + n2) cc) (.int .i64 (st : Int)) (by rfl) (by rfl) (fun _ _ => by rfl) ?_
    (with_reducible refine HCut.out.mono ?_)
    rintro e w3 ⟨rfl, hw3⟩
    refine ⟨_, rfl, ?_⟩
    have H3 : Hid (Bx w3 b 96 #[.int .i64 x0, .slice a1 n1 c1] ∧ Bx w3 r 96 #[.int .i64 y0, .slice a2 n2 c2] ∧ w3.ownsRow (W.heap.size + 1) 59 1 (.slice (some ⟨gg, 0, none⟩) (n1 + n2) cc) (n1 + n2) (xs ++ ys) ∧ Below W.heap.size W w3) := by
      subst hw3
      exact ⟨(HX.out.1.below H2.out.2).drew, (HX.out.2.below H2.out.2).drew, own_below H2.out.1 (Below.refl _ _).drew, H2.out.2.drew⟩
    have l1 := H3.out.1.cell 1
    have l2 := H3.out.2.1.cell 1
    simp at l1 l2
    have lf1 := H3.out.1.frozen 1
    have lf2 := H3.out.2.1.frozen 1
    have lz1 := H3.out.1.lt
    have lz2 := H3.out.2.1.lt
    clear hw3 HCut
    refine hK.out _ _ ?_ (fun hHeld2 => ?_)
    · (intro _; trivial)
    clear hK K
    replace hHeld := hHeld2 (by decide)
    clear hHeld2
    try simp only [Act.put, List.setIfInBounds_toArray, List.set_cons_zero, List.set_cons_succ]
    refine late_one 14 (.succ (.succ (.succ (.succ (.succ (.succ (.succ (.succ (.succ (.succ (.succ (.succ (.succ (.succ .zero)))))))))))))) (by kernel_rfl) (fun K hK => ?_)
    go_simp
    refine hK.out _ _ ?_ (fun hHeld2 => ?_)
    · (intro _; trivial)
    clear hK K
    replace hHeld := hHeld2 (by decide)
    clear hHeld2
    try simp only [Act.put, List.setIfInBounds_toArray, List.set_cons_zero, List.set_cons_succ]
    refine late_take 15 (.succ (.succ (.succ (.succ (.succ (.succ (.succ (.succ (.succ (.succ (.succ (.succ (.succ (.succ (.succ .zero))))))))))))))) (v := ?_) (by kernel_rfl) (by kernel_rfl) (by kernel_rfl) (by kernel_rfl) (fun _ _ _ h => h) (by rfl) ?_ (by assumption) ?_
    rotate_left
    · (intro w hSw; go_simp) <;> with_reducible rfl
    simp only [Act.put, List.setIfInBounds_toArray, List.set_cons_zero, List.set_cons_succ]
    refine late_take 16 (.succ (.succ (.succ (.succ (.succ (.succ (.succ (.succ (.succ (.succ (.succ (.succ (.succ (.succ (.succ (.succ .zero)))))))))))))))) (v := ?_) (by kernel_rfl) (by kernel_rfl) (by kernel_rfl) (by kernel_rfl) (fun _ _ _ h => h) (by rfl) ?_ (by assumption) ?_
    rotate_left
    · (intro w hSw; go_simp) <;> with_reducible rfl
    simp only [Act.put, List.setIfInBounds_toArray, List.set_cons_zero, List.set_cons_succ]
    refine late_take 17 (.succ (.succ (.succ (.succ (.succ (.succ (.succ (.succ (.succ (.succ (.succ (.succ (.succ (.succ (.succ (.succ (.succ .zero))))))))))))))))) (v := ?_) (by kernel_rfl) (by kernel_rfl) (by kernel_rfl) (by kernel_rfl) (fun _ _ _ h => h) (by rfl) ?_ (by assumption) ?_
    rotate_left
    · (intro w hSw; go_simp) <;> with_reducible rfl
    simp only [Act.put, List.setIfInBounds_toArray, List.set_cons_zero, List.set_cons_succ]
    refine late_take 18 (.succ (.succ (.succ (.succ (.succ (.succ (.succ (.succ (.succ (.succ (.succ (.succ (.succ (.succ (.succ (.succ (.succ (.succ .zero)))))))))))))))))) (v := ?_) (by kernel_rfl) (by kernel_rfl) (by kernel_rfl) (by kernel_rfl) (fun _ _ _ h => h) (by rfl) ?_ (by assumption) ?_
    rotate_left
    · (intro w hSw; go_simp) <;> with_reducible rfl
    simp only [Act.put, List.setIfInBounds_toArray, List.set_cons_zero, List.set_cons_succ]
    refine late_one 19 (.succ (.succ (.succ (.succ (.succ (.succ (.succ (.succ (.succ (.succ (.succ (.succ (.succ (.succ (.succ (.succ (.succ (.succ (.succ .zero))))))))))))))))))) (by kernel_rfl) (fun K hK => ?_)
    go_simp
    refine hK.out _ _ ?_ (fun hHeld2 => ?_)
    · (intro _; trivial)
    clear hK K
    replace hHeld := hHeld2 (by decide)
    clear hHeld2
    try simp only [Act.put, List.setIfInBounds_toArray, List.set_cons_zero, List.set_cons_succ]
    refine late_one 20 (.succ (.succ (.succ (.succ (.succ (.succ (.succ (.succ (.succ (.succ (.succ (.succ (.succ (.succ (.succ (.succ (.succ (.succ (.succ (.succ .zero)))))))))))))))))))) (by kernel_rfl) (fun K hK => ?_)
    go_simp
    refine hK.out _ _ ?_ (fun hHeld2 => ?_)
    · (intro _; trivial)
    clear hK K
    replace hHeld := hHeld2 (by decide)
    clear hHeld2
    try simp only [Act.put, List.setIfInBounds_toArray, List.set_cons_zero, List.set_cons_succ]
    refine late_one 21 (.succ (.succ (.succ (.succ (.succ (.succ (.succ (.succ (.succ (.succ (.succ (.succ (.succ (.succ (.succ (.succ (.succ (.succ (.succ (.succ (.succ .zero))))))))))))))))))))) (by kernel_rfl) (fun K hK => ?_)
    go_simp
    refine hK.out _ _ ?_ (fun hHeld2 => ?_)
    · (intro _; trivial)
    clear hK K
    replace hHeld := hHeld2 (by decide)
    clear hHeld2
    try simp only [Act.put, List.setIfInBounds_toArray, List.set_cons_zero, List.set_cons_succ]
    refine late_one 22 (.succ (.succ (.succ (.succ (.succ (.succ (.succ (.succ (.succ (.succ (.succ (.succ (.succ (.succ (.succ (.succ (.succ (.succ (.succ (.succ (.succ (.succ .zero)))))))))))))))))))))) (by kernel_rfl) (fun K hK => ?_)
    go_simp
    refine hK.out _ _ ?_ (fun hHeld2 => ?_)
    · (intro hne; exact absurd rfl hne)
    clear hK K hHeld2
    refine wpLate_done (by kernel_rfl) ?_ _
    have HW : Hid (Bx ((w3.setCell ⟨b, 1, none⟩ (.slice (some ⟨gg, 0, none⟩) st st)).setCell ⟨r, 1, none⟩ (.slice (some ⟨gg, st, none⟩) (n1 + n2 - st) (cc - st))) b 96 #[.int .i64 x0, .slice (some ⟨gg, 0, none⟩) st st] ∧ Bx ((w3.setCell ⟨b, 1, none⟩ (.slice (some ⟨gg, 0, none⟩) st st)).setCell ⟨r, 1, none⟩ (.slice (some ⟨gg, st, none⟩) (n1 + n2 - st) (cc - st))) r 96 #[.int .i64 y0, .slice (some ⟨gg, st, none⟩) (n1 + n2 - st) (cc - st)] ∧ Fr2 w3 ((w3.setCell ⟨b, 1, none⟩ (.slice (some ⟨gg, 0, none⟩) st st)).setCell ⟨r, 1, none⟩ (.slice (some ⟨gg, st, none⟩) (n1 + n2 - st) (cc - st))) b r) := by
      refine ⟨?_, ?_, fr2_set2 _ _ _ _ _ _ _⟩
      · have q := (H3.out.1.set 1 (.slice (some ⟨gg, 0, none⟩) st st)).other (p := ⟨r, 1, none⟩) hbr (.slice (some ⟨gg, st, none⟩) (n1 + n2 - st) (cc - st))
        simpa using q
      · have q := (H3.out.2.1.other (p := ⟨b, 1, none⟩) hbr.symm (.slice (some ⟨gg, 0, none⟩) st st)).set 1 (.slice (some ⟨gg, st, none⟩) (n1 + n2 - st) (cc - st))
        simpa using q
    generalize (w3.setCell ⟨b, 1, none⟩ (.slice (some ⟨gg, 0, none⟩) st st)).setCell ⟨r, 1, none⟩ (.slice (some ⟨gg, st, none⟩) (n1 + n2 - st) (cc - st)) = W4 at HW ⊢
    clear l1 l2 lf1 lf2 lz1 lz2 hHeld
    have hcc2 : st ≤ cc := by omega
    have HF : Hid (Fr2 W W4 b r) := (fr2_of b r H3.out.2.2.2).trans HW.out.2.2
    have hgl := own_lt H3.out.2.2.1 gg rfl
    have HCe : Hid (∀ j u, (xs ++ ys)[j]? = some u → W4.cell? ⟨gg, j, none⟩ = some u) := by
      intro j u hj
      have hjl := (List.getElem?_eq_some_iff.1 hj).1
      have hz := H3.out.2.2.1.1
      rw [World.cell?_of_block (a := ⟨gg, j, none⟩) (HW.out.2.2.2.2.2.2 gg hgl.2 (by omega) (by omega)), H3.out.2.2.1.cellAt j (by omega)]
      exact hj
    have HR1 : Hid (Calls Try.prog 57 #[.pointer (some ⟨b, 0, none⟩)] W4 fun e w' => e = .returned (.tuple #[]) ∧ W4.grownBy w' (some b) ∧ w'.heap.size = W4.heap.size ∧ Bx w' b 96 #[.int .i64 ((((l.drop 0).take st).flatMap (keysR d)).length : Int), .slice (some ⟨gg, 0, none⟩) st st]) := by
      refine recountO_any d b gg 0 st st ((l.drop 0).take st) x0 (((xs ++ ys).drop 0).take st) W4 HW.out.1 (by rw [List.length_take, List.length_drop, ← HL.out.1]; omega) (by omega) ?_ (fun j u hj => ?_) (by omega) (fun k h => ?_)
      · have := flat_take_le (keysR d) l st
        rw [List.drop_zero]
        have := HL.out.2
        omega
      · rw [List.getElem?_take] at hj
        split at hj
        · rw [List.getElem?_drop] at hj
          exact HCe.out _ u hj
        · cases hj
      · rw [List.length_take, List.length_drop] at h
        obtain ⟨u, bb, q1, q2, q3, q4⟩ := dealIn_kid HK.out.1 HK.out.2.1 HK.out.2.2 HF.out k (by omega)
        refine ⟨u, bb, by rw [List.getElem?_take, if_pos (by omega), List.getElem?_drop, Nat.zero_add]; exact q1, q2.1, ?_, q4⟩
        rw [q3, List.getElem_take, List.getElem_drop]
        simp
    go_wp2_with fail
    (with_reducible refine HR1.out.mono ?_)
    rintro e w5 ⟨rfl, hg5, hs5, hx5⟩
    have HX5 : Hid (W4.grownBy w5 (some b) ∧ Bx w5 b 96 #[.int .i64 ((((l.drop 0).take st).flatMap (keysR d)).length : Int), .slice (some ⟨gg, 0, none⟩) st st] ∧ Bx w5 r 96 #[.int .i64 y0, .slice (some ⟨gg, st, none⟩) (n1 + n2 - st) (cc - st)]) := ⟨hg5, hx5, HW.out.2.1.grown hg5 (fun e => hbr (by injection e))⟩
    clear hg5 hs5 hx5 HR1
    have HR2 : Hid (Calls Try.prog 57 #[.pointer (some ⟨r, 0, none⟩)] w5 fun e w' => e = .returned (.tuple #[]) ∧ w5.grownBy w' (some r) ∧ w'.heap.size = w5.heap.size ∧ Bx w' r 96 #[.int .i64 ((((l.drop st).take (n1 + n2 - st)).flatMap (keysR d)).length : Int), .slice (some ⟨gg, st, none⟩) (n1 + n2 - st) (cc - st)]) := by
      refine recountO_any d r gg st (n1 + n2 - st) (cc - st) ((l.drop st).take (n1 + n2 - st)) y0 (((xs ++ ys).drop st).take (n1 + n2 - st)) w5 HX5.out.2.2 (by rw [List.length_take, List.length_drop, ← HL.out.1]; omega) (by omega) ?_ (fun j u hj => ?_) (by omega) (fun k h => ?_)
      · have h1 := flat_take_le (keysR d) (l.drop st) (n1 + n2 - st)
        have h2 : ((l.drop st).flatMap (keysR d)).length ≤ (l.flatMap (keysR d)).length := by
          conv => rhs; rw [← List.take_append_drop st l, List.flatMap_append, List.length_append]
          omega
        have := HL.out.2
        omega
      · rw [List.getElem?_take] at hj
        split at hj
        · rw [List.getElem?_drop] at hj
          exact HX5.out.1.cell (HCe.out _ u hj) (fun e => by injection e with e; have e' : gg = b := e; omega)
        · cases hj
      · rw [List.length_take, List.length_drop] at h
        obtain ⟨u, bb, q1, q2, q3, q4⟩ := dealIn_kid HK.out.1 HK.out.2.1 HK.out.2.2 (HF.out.trans (fr2_grown HX5.out.1)) (st + k) (by omega)
        refine ⟨u, bb, by rw [List.getElem?_take, if_pos (by omega), List.getElem?_drop]; exact q1, q2.2, ?_, q4⟩
        rw [q3, List.getElem_take, List.getElem_drop]
    go_wp2_with fail
    (with_reducible refine HR2.out.mono ?_)
    rintro e w6 ⟨rfl, hg6, hs6, hx6⟩
    have HX6 : Hid (Fr2 W w6 b r ∧ w5.grownBy w6 (some r) ∧ Bx w6 b 96 #[.int .i64 ((((l.drop 0).take st).flatMap (keysR d)).length : Int), .slice (some ⟨gg, 0, none⟩) st st] ∧ Bx w6 r 96 #[.int .i64 ((((l.drop st).take (n1 + n2 - st)).flatMap (keysR d)).length : Int), .slice (some ⟨gg, st, none⟩) (n1 + n2 - st) (cc - st)]) := ⟨(HF.out.trans (fr2_grown HX5.out.1)).trans (fr2_grown' hg6), hg6, HX5.out.2.1.grown hg6 (fun e => hbr (by injection e with e; exact e.symm)), hx6⟩
    clear hg6 hs6 hx6 HR2
    go_wp2
    go_end0
    have hL := HL.out.1
    have hs4 := HF.out.2.2.2.1
    have hz4 := HW.out.2.2.2.2.2.1
    have hz5 := HX5.out.1.size
    have hz6 := HX6.out.2.1.size
    have hce6 : ∀ j u, (xs ++ ys)[j]? = some u → w6.cell? ⟨gg, j, none⟩ = some u := fun j u hj => HX6.out.2.1.cell (HX5.out.1.cell (HCe.out j u hj) (fun e => by injection e with e; have e' : gg = b := e; omega)) (fun e => by injection e with e; have e' : gg = r := e; omega)
    refine ⟨rfl, HX6.out.1, dealIn_side HK.out.1 HK.out.2.1 HK.out.2.2 HX6.out.1 HX6.out.2.2.1 (by omega) (by omega) (by omega) (by omega) hst0 (by omega) (fun j u hj => ?_), dealIn_side HK.out.1 HK.out.2.1 HK.out.2.2 HX6.out.1 HX6.out.2.2.2 (by omega) (by omega) (by omega) (by omega) (by omega) (by omega) (fun j u hj => ?_)⟩
    · rw [List.getElem?_take] at hj
      split at hj
      · rw [List.getElem?_drop] at hj
        exact hce6 _ u hj
      · cases hj
    · rw [List.getElem?_take] at hj
      split at hj
      · rw [List.getElem?_drop] at hj
        exact hce6 _ u hj
      · cases hj
  · skip
    go_simp
    refine hK.out _ _ ?_ (fun hHeld2 => ?_)
    · (intro _; trivial)
    clear hK K
    replace hHeld := hHeld2 (by decide)
    clear hHeld2
    try simp only [Act.put, List.setIfInBounds_toArray, List.set_cons_zero, List.set_cons_succ]
    refine late_one 5 (.succ (.succ (.succ (.succ (.succ .zero))))) (by kernel_rfl) (fun K hK => ?_)
    go_simp
    refine hK.out _ _ ?_ (fun hHeld2 => ?_)
    · (intro _; trivial)
    clear hK K
    replace hHeld := hHeld2 (by decide)
    clear hHeld2
    try simp only [Act.put, List.setIfInBounds_toArray, List.set_cons_zero, List.set_cons_succ]
    refine late_one 10 (.succ (.succ (.succ (.succ (.succ (.succ (.succ (.succ (.succ (.succ .zero)))))))))) (by kernel_rfl) (fun K hK => ?_)
    go_simp
    refine hK.out _ _ ?_ (fun hHeld2 => ?_)
    · (intro _; trivial)
    clear hK K
    replace hHeld := hHeld2 (by decide)
    clear hHeld2
    try simp only [Act.put, List.setIfInBounds_toArray, List.set_cons_zero, List.set_cons_succ]
    refine late_one 11 (.succ (.succ (.succ (.succ (.succ (.succ (.succ (.succ (.succ (.succ (.succ .zero))))))))))) (by kernel_rfl) (fun K hK => ?_)
    refine step_t1 (by rfl) 87 53 _ (by rfl) (.slice (some ⟨W.heap.size, 0, none⟩) 2 2) (by rfl) (fun _ _ => by rfl) ?_
    (with_reducible refine HConc.out.mono ?_)
    rintro e w2 ⟨gg, cc, rfl, ho2, hb2⟩
    refine ⟨_, rfl, ?_⟩
    have H2 : Hid (w2.ownsRow (W.heap.size + 1) 59 1 (.slice (some ⟨gg, 0, none⟩) (n1 + n2) cc) (n1 + n2) (xs ++ ys) ∧ Below W.heap.size W w2) := ⟨by have q : (W.alloc (.cells #[.slice a1 n1 c1, .slice a2 n2 c2] 94)).drew.heap.size = W.heap.size + 1 := (show (W.alloc (.cells #[.slice a1 n1 c1, .slice a2 n2 c2] 94)).heap.size = W.heap.size + 1 by simp); rw [q] at ho2; exact ho2, HB0.out w2 hb2⟩
    have hcc := own_cap H2.out.1
    clear ho2 hb2
    refine hK.out _ _ ?_ (fun hHeld2 => ?_)
    · (intro _; trivial)
    clear hK K
    replace hHeld := hHeld2 (by decide)
    clear hHeld2
    try simp only [Act.put, List.setIfInBounds_toArray, List.set_cons_zero, List.set_cons_succ]
    refine late_one 13 (.succ (.succ (.succ (.succ (.succ (.succ (.succ (.succ (.succ (.succ (.succ (.succ (.succ .zero))))))))))))) (by kernel_rfl) (fun K hK => ?_)
    have HCut : Hid (Calls Try.prog 86 #[.slice (some ⟨gg, 0, none⟩) (n1 + n2) cc, .int .i64 (st : Int)] w2 fun e w' => e = .returned (.tuple #[.slice (some ⟨gg, 0, none⟩) st st, .slice (some ⟨gg, st, none⟩) (n1 + n2 - st) (cc - st)]) ∧ w' = w2.drew) := cutN_any gg (n1 + n2) cc st w2 (by omega) hcc.1 hst
    refine step_t2 (by rfl) 86 54 55 _ (by rfl) (.slice (some ⟨gg, 0, none⟩) (n1 + n2) cc) (.int .i64 (st : Int)) (by rfl) (by rfl) (fun _ _ => by rfl) ?_
    (with_reducible refine HCut.out.mono ?_)
    rintro e w3 ⟨rfl, hw3⟩
    refine ⟨_, rfl, ?_⟩
    have H3 : Hid (Bx w3 b 96 #[.int .i64 x0, .slice a1 n1 c1] ∧ Bx w3 r 96 #[.int .i64 y0, .slice a2 n2 c2] ∧ w3.ownsRow (W.heap.size + 1) 59 1 (.slice (some ⟨gg, 0, none⟩) (n1 + n2) cc) (n1 + n2) (xs ++ ys) ∧ Below W.heap.size W w3) := by
      subst hw3
      exact ⟨(HX.out.1.below H2.out.2).drew, (HX.out.2.below H2.out.2).drew, own_below H2.out.1 (Below.refl _ _).drew, H2.out.2.drew⟩
    have l1 := H3.out.1.cell 1
    have l2 := H3.out.2.1.cell 1
    simp at l1 l2
    have lf1 := H3.out.1.frozen 1
    have lf2 := H3.out.2.1.frozen 1
    have lz1 := H3.out.1.lt
    have lz2 := H3.out.2.1.lt
    clear hw3 HCut
    refine hK.out _ _ ?_ (fun hHeld2 => ?_)
    · (intro _; trivial)
    clear hK K
    replace hHeld := hHeld2 (by decide)
    clear hHeld2
    try simp only [Act.put, List.setIfInBounds_toArray, List.set_cons_zero, List.set_cons_succ]
    refine late_one 14 (.succ (.succ (.succ (.succ (.succ (.succ (.succ (.succ (.succ (.succ (.succ (.succ (.succ (.succ .zero)))))))))))))) (by kernel_rfl) (fun K hK => ?_)
    go_simp
    refine hK.out _ _ ?_ (fun hHeld2 => ?_)
    · (intro _; trivial)
    clear hK K
    replace hHeld := hHeld2 (by decide)
    clear hHeld2
    try simp only [Act.put, List.setIfInBounds_toArray, List.set_cons_zero, List.set_cons_succ]
    refine late_take 15 (.succ (.succ (.succ (.succ (.succ (.succ (.succ (.succ (.succ (.succ (.succ (.succ (.succ (.succ (.succ .zero))))))))))))))) (v := ?_) (by kernel_rfl) (by kernel_rfl) (by kernel_rfl) (by kernel_rfl) (fun _ _ _ h => h) (by rfl) ?_ (by assumption) ?_
    rotate_left
    · (intro w hSw; go_simp) <;> with_reducible rfl
    simp only [Act.put, List.setIfInBounds_toArray, List.set_cons_zero, List.set_cons_succ]
    refine late_take 16 (.succ (.succ (.succ (.succ (.succ (.succ (.succ (.succ (.succ (.succ (.succ (.succ (.succ (.succ (.succ (.succ .zero)))))))))))))))) (v := ?_) (by kernel_rfl) (by kernel_rfl) (by kernel_rfl) (by kernel_rfl) (fun _ _ _ h => h) (by rfl) ?_ (by assumption) ?_
    rotate_left
    · (intro w hSw; go_simp) <;> with_reducible rfl
    simp only [Act.put, List.setIfInBounds_toArray, List.set_cons_zero, List.set_cons_succ]
    refine late_take 17 (.succ (.succ (.succ (.succ (.succ (.succ (.succ (.succ (.succ (.succ (.succ (.succ (.succ (.succ (.succ (.succ (.succ .zero))))))))))))))))) (v := ?_) (by kernel_rfl) (by kernel_rfl) (by kernel_rfl) (by kernel_rfl) (fun _ _ _ h => h) (by rfl) ?_ (by assumption) ?_
    rotate_left
    · (intro w hSw; go_simp) <;> with_reducible rfl
    simp only [Act.put, List.setIfInBounds_toArray, List.set_cons_zero, List.set_cons_succ]
    refine late_take 18 (.succ (.succ (.succ (.succ (.succ (.succ (.succ (.succ (.succ (.succ (.succ (.succ (.succ (.succ (.succ (.succ (.succ (.succ .zero)))))))))))))))))) (v := ?_) (by kernel_rfl) (by kernel_rfl) (by kernel_rfl) (by kernel_rfl) (fun _ _ _ h => h) (by rfl) ?_ (by assumption) ?_
    rotate_left
    · (intro w hSw; go_simp) <;> with_reducible rfl
    simp only [Act.put, List.setIfInBounds_toArray, List.set_cons_zero, List.set_cons_succ]
    refine late_one 19 (.succ (.succ (.succ (.succ (.succ (.succ (.succ (.succ (.succ (.succ (.succ (.succ (.succ (.succ (.succ (.succ (.succ (.succ (.succ .zero))))))))))))))))))) (by kernel_rfl) (fun K hK => ?_)
    go_simp
    refine hK.out _ _ ?_ (fun hHeld2 => ?_)
    · (intro _; trivial)
    clear hK K
    replace hHeld := hHeld2 (by decide)
    clear hHeld2
    try simp only [Act.put, List.setIfInBounds_toArray, List.set_cons_zero, List.set_cons_succ]
    refine late_one 20 (.succ (.succ (.succ (.succ (.succ (.succ (.succ (.succ (.succ (.succ (.succ (.succ (.succ (.succ (.succ (.succ (.succ (.succ (.succ (.succ .zero)))))))))))))))))))) (by kernel_rfl) (fun K hK => ?_)
    go_simp
    refine hK.out _ _ ?_ (fun hHeld2 => ?_)
    · (intro _; trivial)
    clear hK K
    replace hHeld := hHeld2 (by decide)
    clear hHeld2
    try simp only [Act.put, List.setIfInBounds_toArray, List.set_cons_zero, List.set_cons_succ]
    refine late_one 21 (.succ (.succ (.succ (.succ (.succ (.succ (.succ (.succ (.succ (.succ (.succ (.succ (.succ (.succ (.succ (.succ (.succ (.succ (.succ (.succ (.succ .zero))))))))))))))))))))) (by kernel_rfl) (fun K hK => ?_)
    go_simp
    refine hK.out _ _ ?_ (fun hHeld2 => ?_)
    · (intro _; trivial)
    clear hK K
    replace hHeld := hHeld2 (by decide)
    clear hHeld2
    try simp only [Act.put, List.setIfInBounds_toArray, List.set_cons_zero, List.set_cons_succ]
    refine late_one 22 (.succ (.succ (.succ (.succ (.succ (.succ (.succ (.succ (.succ (.succ (.succ (.succ (.succ (.succ (.succ (.succ (.succ (.succ (.succ (.succ (.succ (.succ .zero)))))))))))))))))))))) (by kernel_rfl) (fun K hK => ?_)
    go_simp
    refine hK.out _ _ ?_ (fun hHeld2 => ?_)
    · (intro hne; exact absurd rfl hne)
    clear hK K hHeld2
    refine wpLate_done (by kernel_rfl) ?_ _
    have HW : Hid (Bx ((w3.setCell ⟨b, 1, none⟩ (.slice (some ⟨gg, 0, none⟩) st st)).setCell ⟨r, 1, none⟩ (.slice (some ⟨gg, st, none⟩) (n1 + n2 - st) (cc - st))) b 96 #[.int .i64 x0, .slice (some ⟨gg, 0, none⟩) st st] ∧ Bx ((w3.setCell ⟨b, 1, none⟩ (.slice (some ⟨gg, 0, none⟩) st st)).setCell ⟨r, 1, none⟩ (.slice (some ⟨gg, st, none⟩) (n1 + n2 - st) (cc - st))) r 96 #[.int .i64 y0, .slice (some ⟨gg, st, none⟩) (n1 + n2 - st) (cc - st)] ∧ Fr2 w3 ((w3.setCell ⟨b, 1, none⟩ (.slice (some ⟨gg, 0, none⟩) st st)).setCell ⟨r, 1, none⟩ (.slice (some ⟨gg, st, none⟩) (n1 + n2 - st) (cc - st))) b r) := by
      refine ⟨?_, ?_, fr2_set2 _ _ _ _ _ _ _⟩
      · have q := (H3.out.1.set 1 (.slice (some ⟨gg, 0, none⟩) st st)).other (p := ⟨r, 1, none⟩) hbr (.slice (some ⟨gg, st, none⟩) (n1 + n2 - st) (cc - st))
        simpa using q
      · have q := (H3.out.2.1.other (p := ⟨b, 1, none⟩) hbr.symm (.slice (some ⟨gg, 0, none⟩) st st)).set 1 (.slice (some ⟨gg, st, none⟩) (n1 + n2 - st) (cc - st))
        simpa using q
    generalize (w3.setCell ⟨b, 1, none⟩ (.slice (some ⟨gg, 0, none⟩) st st)).setCell ⟨r, 1, none⟩ (.slice (some ⟨gg, st, none⟩) (n1 + n2 - st) (cc - st)) = W4 at HW ⊢
    clear l1 l2 lf1 lf2 lz1 lz2 hHeld
    have hcc2 : st ≤ cc := by omega
    have HF : Hid (Fr2 W W4 b r) := (fr2_of b r H3.out.2.2.2).trans HW.out.2.2
    have hgl := own_lt H3.out.2.2.1 gg rfl
    have HCe : Hid (∀ j u, (xs ++ ys)[j]? = some u → W4.cell? ⟨gg, j, none⟩ = some u) := by
      intro j u hj
      have hjl := (List.getElem?_eq_some_iff.1 hj).1
      have hz := H3.out.2.2.1.1
      rw [World.cell?_of_block (a := ⟨gg, j, none⟩) (HW.out.2.2.2.2.2.2 gg hgl.2 (by omega) (by omega)), H3.out.2.2.1.cellAt j (by omega)]
      exact hj
    have HR1 : Hid (Calls Try.prog 57 #[.pointer (some ⟨b, 0, none⟩)] W4 fun e w' => e = .returned (.tuple #[]) ∧ W4.grownBy w' (some b) ∧ w'.heap.size = W4.heap.size ∧ Bx w' b 96 #[.int .i64 ((((l.drop 0).take st).flatMap (keysR d)).length : Int), .slice (some ⟨gg, 0, none⟩) st st]) := by
      refine recountO_any d b gg 0 st st ((l.drop 0).take st) x0 (((xs ++ ys).drop 0).take st) W4 HW.out.1 (by rw [List.length_take, List.length_drop, ← HL.out.1]; omega) (by omega) ?_ (fun j u hj => ?_) (by omega) (fun k h => ?_)
      · have := flat_take_le (keysR d) l st
        rw [List.drop_zero]
        have := HL.out.2
        omega
      · rw [List.getElem?_take] at hj
        split at hj
        · rw [List.getElem?_drop] at hj
          exact HCe.out _ u hj
        · cases hj
      · rw [List.length_take, List.length_drop] at h
        obtain ⟨u, bb, q1, q2, q3, q4⟩ := dealIn_kid HK.out.1 HK.out.2.1 HK.out.2.2 HF.out k (by omega)
        refine ⟨u, bb, by rw [List.getElem?_take, if_pos (by omega), List.getElem?_drop, Nat.zero_add]; exact q1, q2.1, ?_, q4⟩
        rw [q3, List.getElem_take, List.getElem_drop]
        simp
    go_wp2_with fail
    (with_reducible refine HR1.out.mono ?_)
    rintro e w5 ⟨rfl, hg5, hs5, hx5⟩
    have HX5 : Hid (W4.grownBy w5 (some b) ∧ Bx w5 b 96 #[.int .i64 ((((l.drop 0).take st).flatMap (keysR d)).length : Int), .slice (some ⟨gg, 0, none⟩) st st] ∧ Bx w5 r 96 #[.int .i64 y0, .slice (some ⟨gg, st, none⟩) (n1 + n2 - st) (cc - st)]) := ⟨hg5, hx5, HW.out.2.1.grown hg5 (fun e => hbr (by injection e))⟩
    clear hg5 hs5 hx5 HR1
    have HR2 : Hid (Calls Try.prog 57 #[.pointer (some ⟨r, 0, none⟩)] w5 fun e w' => e = .returned (.tuple #[]) ∧ w5.grownBy w' (some r) ∧ w'.heap.size = w5.heap.size ∧ Bx w' r 96 #[.int .i64 ((((l.drop st).take (n1 + n2 - st)).flatMap (keysR d)).length : Int), .slice (some ⟨gg, st, none⟩) (n1 + n2 - st) (cc - st)]) := by
      refine recountO_any d r gg st (n1 + n2 - st) (cc - st) ((l.drop st).take (n1 + n2 - st)) y0 (((xs ++ ys).drop st).take (n1 + n2 - st)) w5 HX5.out.2.2 (by rw [List.length_take, List.length_drop, ← HL.out.1]; omega) (by omega) ?_ (fun j u hj => ?_) (by omega) (fun k h => ?_)
      · have h1 := flat_take_le (keysR d) (l.drop st) (n1 + n2 - st)
        have h2 : ((l.drop st).flatMap (keysR d)).length ≤ (l.flatMap (keysR d)).length := by
          conv => rhs; rw [← List.take_append_drop st l, List.flatMap_append, List.length_append]
          omega
        have := HL.out.2
        omega
      · rw [List.getElem?_take] at hj
        split at hj
        · rw [List.getElem?_drop] at hj
          exact HX5.out.1.cell (HCe.out _ u hj) (fun e => by injection e with e; have e' : gg = b := e; omega)
        · cases hj
      · rw [List.length_take, List.length_drop] at h
        obtain ⟨u, bb, q1, q2, q3, q4⟩ := dealIn_kid HK.out.1 HK.out.2.1 HK.out.2.2 (HF.out.trans (fr2_grown HX5.out.1)) (st + k) (by omega)
        refine ⟨u, bb, by rw [List.getElem?_take, if_pos (by omega), List.getElem?_drop]; exact q1, q2.2, ?_, q4⟩
        rw [q3, List.getElem_take, List.getElem_drop]
    go_wp2_with fail
    (with_reducible refine HR2.out.mono ?_)
    rintro e w6 ⟨rfl, hg6, hs6, hx6⟩
    have HX6 : Hid (Fr2 W w6 b r ∧ w5.grownBy w6 (some r) ∧ Bx w6 b 96 #[.int .i64 ((((l.drop 0).take st).flatMap (keysR d)).length : Int), .slice (some ⟨gg, 0, none⟩) st st] ∧ Bx w6 r 96 #[.int .i64 ((((l.drop st).take (n1 + n2 - st)).flatMap (keysR d)).length : Int), .slice (some ⟨gg, st, none⟩) (n1 + n2 - st) (cc - st)]) := ⟨(HF.out.trans (fr2_grown HX5.out.1)).trans (fr2_grown' hg6), hg6, HX5.out.2.1.grown hg6 (fun e => hbr (by injection e with e; exact e.symm)), hx6⟩
    clear hg6 hs6 hx6 HR2
    go_wp2
    go_end0
    have hL := HL.out.1
    have hs4 := HF.out.2.2.2.1
    have hz4 := HW.out.2.2.2.2.2.1
    have hz5 := HX5.out.1.size
    have hz6 := HX6.out.2.1.size
    have hce6 : ∀ j u, (xs ++ ys)[j]? = some u → w6.cell? ⟨gg, j, none⟩ = some u := fun j u hj => HX6.out.2.1.cell (HX5.out.1.cell (HCe.out j u hj) (fun e => by injection e with e; have e' : gg = b := e; omega)) (fun e => by injection e with e; have e' : gg = r := e; omega)
    refine ⟨rfl, HX6.out.1, dealIn_side HK.out.1 HK.out.2.1 HK.out.2.2 HX6.out.1 HX6.out.2.2.1 (by omega) (by omega) (by omega) (by omega) hst0 (by omega) (fun j u hj => ?_), dealIn_side HK.out.1 HK.out.2.1 HK.out.2.2 HX6.out.1 HX6.out.2.2.2 (by omega) (by omega) (by omega) (by omega) (by omega) (by omega) (fun j u hj => ?_)⟩
    · rw [List.getElem?_take] at hj
      split at hj
      · rw [List.getElem?_drop] at hj
        exact hce6 _ u hj
      · cases hj
    · rw [List.getElem?_take] at hj
      split at hj
      · rw [List.getElem?_drop] at hj
        exact hce6 _ u hj
      · cases hj
end Go.Proofs.Ytakemeccigpbaaa

namespace Go.Proofs.Ytakemeccigpbaaa
open Go.RowKit Go.Deep
set_option linter.unusedVariables false
set_option maxRecDepth 100000

/-- A node of the program with its own box b, all else in blocks of which S holds. -/
def NdI (S : Nat → Prop) (w : World) (b : Nat) : (d : Nat) → Ro d → Value → Prop
  | 0, _, _ => False
  | d + 1, .inl t, v => v = .iface 53 (.pointer (some ⟨b, 0, none⟩)) ∧ ∃ ka kc, Bx w b 57 #[.int .i64 (t.length : Int), .slice ka t.length kc] ∧ (t.length ≤ kc ∧ kc ≤ 9223372036854775807) ∧ RdO S w ka t.length (fun i => .string (gt t i))
  | d + 1, .inr l, v => v = .iface 91 (.pointer (some ⟨b, 0, none⟩)) ∧ ∃ (g o kc : Nat) (xs : List Value), Bx w b 96 #[.int .i64 ((l.flatMap (keysR d)).length : Int), .slice (some ⟨g, o, none⟩) l.length kc] ∧ S g ∧ (g < w.heap.size ∧ l.length ≤ kc ∧ kc ≤ 9223372036854775807) ∧ (0 < l.length ∧ xs.length = l.length) ∧ (∀ j u, xs[j]? = some u → w.cell? ⟨g, o + j, none⟩ = some u) ∧
      ∀ k (h : k < l.length), ∃ u, xs[k]? = some u ∧ TAo S w d l[k] u

theorem NdI.tao {S : Nat → Prop} {w : World} {b : Nat} : ∀ {d : Nat} {t : Ro d} {v : Value}, NdI S w b d t v → ¬ S b → TAo (fun x => S x ∨ x = b) w d t v
  | 0, _, _, h, _ => h.elim
  | d + 1, .inl t, v, h, hb => by
    obtain ⟨rfl, ka, kc, hx, hc, hr⟩ := h
    exact ⟨b, ka, kc, rfl, .inr rfl, hx, hc, hr.keep (Nat.le_refl _) (fun x hx _ => ⟨.inl hx, rfl⟩)⟩
  | d + 1, .inr l, v, h, hb => by
    obtain ⟨rfl, g, o, kc, xs, hx, hg, hc, h0, hcc, hk⟩ := h
    refine ⟨b, g, o, kc, xs, rfl, .inr rfl, hx, ⟨.inl hg, fun e => hb (e ▸ hg)⟩, hc, h0.1, hcc, fun k h => ?_⟩
    obtain ⟨u, e, ht⟩ := hk k h
    exact ⟨u, e, ht.wide (fun x hx _ => .inl hx)⟩

theorem NdI.keep {S S' : Nat → Prop} {w w' : World} {b : Nat} (hz : w.heap.size ≤ w'.heap.size) (hb : w'.heap[b]? = w.heap[b]?) (hS : ∀ x, S x → x < w.heap.size → S' x ∧ w'.heap[x]? = w.heap[x]?) : ∀ {d : Nat} {t : Ro d} {v : Value}, NdI S w b d t v → NdI S' w' b d t v
  | 0, _, _, h => h
  | d + 1, .inl t, v, h => by
    obtain ⟨rfl, ka, kc, hx, hc, hr⟩ := h
    exact ⟨rfl, ka, kc, hx.of_block hb, hc, hr.keep hz hS⟩
  | d + 1, .inr l, v, h => by
    obtain ⟨rfl, g, o, kc, xs, hx, hg, hc, h0, hcc, hk⟩ := h
    obtain ⟨q1, q2⟩ := hS g hg hc.1
    refine ⟨rfl, g, o, kc, xs, hx.of_block hb, q1, ⟨by omega, hc.2⟩, h0, fun j u hj => (World.cell?_of_block (a := ⟨g, o + j, none⟩) q2).trans (hcc j u hj), fun k h => ?_⟩
    obtain ⟨u, e, ht⟩ := hk k h
    exact ⟨u, e, TAo.keep hz hS ht⟩

theorem TAo.oneCell {S : Nat → Prop} {w : World} : ∀ {d : Nat} {t : Ro d} {v : Value}, TAo S w d t v → v.oneCell' = true
  | 0, _, _, h => h.elim
  | d + 1, .inl t, v, h => by obtain ⟨_, _, _, rfl, _⟩ := h; rfl
  | d + 1, .inr l, v, h => by obtain ⟨_, _, _, _, _, rfl, _⟩ := h; rfl

/-- What 'part' leaves: the node itself and its new right neighbour. -/
def RetPart (S : Nat → Prop) (w : World) (b d : Nat) (t : Ro (d + 1)) (v : Value) (e : Ending) (w' : World) : Prop :=
  ∃ u, e = .returned u ∧ Fr2 w w' b b ∧ TAo (fun x => S x ∨ x = b ∨ w.heap.size ≤ x) w' (d + 1) (cutR 0 3 t) v ∧ TAo (fun x => S x ∨ w.heap.size ≤ x) w' (d + 1) (cutR 3 5 t) u

end Go.Proofs.Ytakemeccigpbaaa

namespace Go.Proofs.Ytakemeccigpbaaa
open Go.RowKit Go.Deep
set_option linter.unusedVariables false
set_option maxRecDepth 100000

/-- One node or two, whatever the height. -/
def splU : (d : Nat) → Ro d → List (Ro d)
  | 0, _ => []
  | d + 1, t => splR t
/-- The node with the key put in, not parted yet. -/
def InsU (key : ByteArray) : (d : Nat) → Ro d → Ro d → Prop
  | 0, _, _ => False
  | d + 1, .inl ks, t' => t' = .inl (insK key ks)
  | d + 1, .inr l, t' => ∃ i, KidIs l key i ∧ ∃ (h : i < l.length) (u : Ro d), InsU key d l[i] u ∧ t' = .inr (l.take i ++ splU d u ++ l.drop (i + 1))

/-- A key of the tree is one of the child that it belongs to. -/
theorem mem_kid {d : Nat} {l : List (Ro d)} {key : ByteArray} {i : Nat} (ha : Asc (l.flatMap (keysR d))) (hp : ∀ k (h : k < l.length), 0 < (keysR d l[k]).length) (h : KidIs l key i) (hi : i < l.length) : key ∈ l.flatMap (keysR d) ↔ key ∈ keysR d l[i] := by
  constructor
  · intro hm
    rw [List.mem_flatMap] at hm
    obtain ⟨t, ht, hk⟩ := hm
    obtain ⟨j, hj, rfl⟩ := List.getElem_of_mem ht
    unfold Asc at ha
    rw [List.pairwise_flatMap] at ha
    have pw := List.pairwise_iff_getElem.1 ha.2
    rcases Nat.lt_trichotomy j i with h1 | h1 | h1
    · have q := pw j i hj hi h1 key hk _ (gt_mem (hp i hi))
      rw [h.2.1 hi (by omega)] at q
      cases q
    · subst h1; exact hk
    · have hi1 : i + 1 < l.length := by omega
      have q1 := h.2.2 hi1
      by_cases e : j = i + 1
      · subst e
        obtain ⟨m, hm, e2⟩ := List.getElem_of_mem hk
        have eg : gt (keysR d l[i + 1]) m = key := by
          unfold gt
          rw [List.getD_eq_getElem?_getD, List.getElem?_eq_getElem hm]
          exact e2
        by_cases m0 : m = 0
        · subst m0
          rw [eg, less_irrefl] at q1
          cases q1
        · have q2 := asc_lt (ha.1 _ (List.getElem_mem hi1)) (show 0 < m by omega) hm
          rw [eg] at q2
          rw [less_asym q2] at q1
          cases q1
      · have q := pw (i + 1) j hi1 hj (by omega) _ (gt_mem (hp _ hi1)) key hk
        rw [less_asym q] at q1
        cases q1
  · intro hm
    exact List.mem_flatMap.2 ⟨_, List.getElem_mem hi, hm⟩

/-- Values that are trees, one behind the other. -/
def AllK (S : Nat → Prop) (w : World) (d : Nat) (ts : List (Ro d)) (us : List Value) : Prop :=
  us.length = ts.length ∧ ∀ k (h : k < ts.length), ∃ u, us[k]? = some u ∧ TAo S w d ts[k] u
section
variable {S S' : Nat → Prop} {w w' : World} {d : Nat}
theorem AllK.keep {ts : List (Ro d)} {us : List Value} (h : AllK S w d ts us) (hz : w.heap.size ≤ w'.heap.size) (hS : ∀ b, S b → b < w.heap.size → S' b ∧ w'.heap[b]? = w.heap[b]?) : AllK S' w' d ts us :=
  ⟨h.1, fun k hk => by obtain ⟨u, e, q⟩ := h.2 k hk; exact ⟨u, e, TAo.keep hz hS q⟩⟩
theorem AllK.app {ts ts' : List (Ro d)} {us us' : List Value} (h : AllK S w d ts us) (h' : AllK S w d ts' us') : AllK S w d (ts ++ ts') (us ++ us') := by
  refine ⟨by rw [List.length_append, List.length_append, h.1, h'.1], fun k hk => ?_⟩
  by_cases e : k < ts.length
  · obtain ⟨u, e1, q⟩ := h.2 k e
    exact ⟨u, by rw [List.getElem?_append_left (by rw [h.1]; exact e)]; exact e1, by rw [List.getElem_append_left e]; exact q⟩
  · rw [List.length_append] at hk
    obtain ⟨u, e1, q⟩ := h'.2 (k - ts.length) (by omega)
    exact ⟨u, by rw [List.getElem?_append_right (by rw [h.1]; omega), h.1]; exact e1, by rw [List.getElem_append_right (by omega)]; exact q⟩
theorem AllK.one {t : Ro d} {u : Value} (h : TAo S w d t u) : AllK S w d [t] [u] :=
  ⟨rfl, fun k hk => by
    have e : k = 0 := by simp at hk; omega
    subst e
    exact ⟨u, rfl, h⟩⟩
end

theorem nodup_ne {bss : List (List Nat)} (h : bss.flatten.Nodup) {i k : Nat} {us ks : List Nat} (hi : bss[i]? = some us) (hk : bss[k]? = some ks) (hne : k ≠ i) {x : Nat} (hx : x ∈ ks) : x ∉ us := by
  unfold List.Nodup at h
  rw [List.pairwise_flatten] at h
  have pw := List.pairwise_iff_getElem.1 h.2
  obtain ⟨h1, e1⟩ := List.getElem?_eq_some_iff.1 hi
  obtain ⟨h2, e2⟩ := List.getElem?_eq_some_iff.1 hk
  intro hxu
  rcases Nat.lt_or_gt_of_ne hne with q | q
  · exact pw k i h2 h1 q x (by rw [e2]; exact hx) x (by rw [e1]; exact hxu) rfl
  · exact pw i k h1 h2 q x (by rw [e1]; exact hxu) x (by rw [e2]; exact hx) rfl

/-- Of the old blocks only these have turned. -/
def Frs (bs : List Nat) (w w' : World) : Prop := w'.os = w.os ∧ w'.tape = w.tape ∧ w'.output = w.output ∧ w.heap.size ≤ w'.heap.size ∧ ∀ k, k < w.heap.size → k ∉ bs → w'.heap[k]? = w.heap[k]?
theorem Frs.trans {bs : List Nat} {w w1 w2 : World} (h : Frs bs w w1) (k : Frs bs w1 w2) : Frs bs w w2 :=
  ⟨k.1.trans h.1, k.2.1.trans h.2.1, k.2.2.1.trans h.2.2.1, Nat.le_trans h.2.2.2.1 k.2.2.2.1, fun i hi h1 => (k.2.2.2.2 i (Nat.lt_of_lt_of_le hi h.2.2.2.1) h1).trans (h.2.2.2.2 i hi h1)⟩
theorem Frs.mono {bs bs' : List Nat} {w w' : World} (h : Frs bs w w') (hs : ∀ x, x ∈ bs → x ∈ bs') : Frs bs' w w' := ⟨h.1, h.2.1, h.2.2.1, h.2.2.2.1, fun i hi hn => h.2.2.2.2 i hi (fun q => hn (hs i q))⟩
theorem Frs.below {bs : List Nat} {w w' : World} {B : Nat} (h : Frs bs w w') (hB : B ≤ w.heap.size) (hs : ∀ x, x ∈ bs → B ≤ x) : Below B w w' := ⟨h.1, h.2.1, h.2.2.1, h.2.2.2.1, fun k hk => h.2.2.2.2 k (by omega) (fun q => by have := hs k q; omega)⟩

/-- A call of a node's insert. -/
def CallI (v : Value) (key : ByteArray) (w : World) (Q : Ending → World → Prop) : Prop :=
  (∃ b, v = .iface 53 (.pointer (some ⟨b, 0, none⟩)) ∧ Calls Try.prog 106 #[.pointer (some ⟨b, 0, none⟩), .string key] w Q) ∨
  (∃ b, v = .iface 91 (.pointer (some ⟨b, 0, none⟩)) ∧ Calls Try.prog 123 #[.pointer (some ⟨b, 0, none⟩), .string key] w Q)
/-- What a node's insert does; b: its box. -/
def RetO (key : ByteArray) (d : Nat) (t : Ro d) (v : Value) (bs : List Nat) (w : World) (e : Ending) (w' : World) : Prop :=
  (key ∈ keysR d t ∧ e = .returned (.bool false) ∧ Below w.heap.size w w') ∨
  (key ∉ keysR d t ∧ e = .returned (.bool true) ∧ Frs bs w w' ∧ ∃ u b, b ∈ bs ∧ InsU key d t u ∧ NdI (fun x => (x ∈ bs ∧ x ≠ b) ∨ w.heap.size ≤ x) w' b d u v)

end Go.Proofs.Ytakemeccigpbaaa

namespace Go.Proofs.Ytakemeccigpbaaa
open Go.RowKit Go.Deep
set_option linter.unusedVariables false
set_option maxRecDepth 100000

theorem step_t3 {ops : Array Oper} {o : Oper} {a : Act} {w : World} {K : Act → World → Prop} {Q : Exit → Act → World → Prop} {E : Prop} (hgd : o.guard = none) (k : Nat) (i j m : Nat) (tys : Array TypeId)
    (ho : o.op = .call { callee := .value (.func k), args := #[.tmp i, .tmp j, .tmp m], argTypes := tys }) (u v x : Value) (hx : a.tmps[i]?.getD undef = u) (hy : a.tmps[j]?.getD undef = v) (hz : a.tmps[m]?.getD undef = x) (heg : ∀ args w, (callFunc k args).run Try.prog w = .ok (.enter k args) w)
    (h : Calls Try.prog k #[u, v, x] w fun e w' => ∃ r, e = .returned r ∧ K (a.put o.dst r) w') :
    if Region.wanted o (yielded ops a.tmps) = true then Oper.wp Try.prog o a w K Q else E := by
  have hw : Region.wanted o (yielded ops a.tmps) = true := by simp [Region.wanted, hgd]
  rw [if_pos hw]
  unfold Oper.wp
  simp [execOp, ho, resolve, invoke, hx, hy, hz, go_sem, heg]
  refine h.mono ?_
  rintro e w' ⟨u, rfl, hk⟩
  exact hk

/-- The count anew, of a node whose children are there. -/
theorem ins_fin (d b gg kc : Nat) (x : Int) (M : List (Ro d)) (ys : List Value) (S : Nat → Prop) (w : World) (hx : Bx w b 96 #[.int .i64 x, .slice (some ⟨gg, 0, none⟩) M.length kc]) (hcap : M.length ≤ kc ∧ kc ≤ 9223372036854775807) (hM : 0 < M.length) (hM5 : M.length ≤ 1000) (hce : ∀ j u, ys[j]? = some u → w.cell? ⟨gg, j, none⟩ = some u) (hak : AllK S w d M ys) (hSb : ¬ S b) (hSg : S gg) (hgl : gg < w.heap.size) (hkeys : (M.flatMap (keysR d)).length ≤ 1099511627776) :
    Calls Try.prog 57 #[.pointer (some ⟨b, 0, none⟩)] w fun e w' => e = .returned (.tuple #[]) ∧ w.grownBy w' (some b) ∧ NdI S w' b (d + 1) (.inr M) (.iface 91 (.pointer (some ⟨b, 0, none⟩))) := by
  have hgb : gg ≠ b := fun e => hSb (e ▸ hSg)
  refine (recountO_any d b gg 0 M.length kc M x ys w hx rfl (by omega) hkeys (fun j u hj => by rw [Nat.zero_add]; exact hce j u hj) hgb (fun k h => ?_)).mono ?_
  · obtain ⟨u, e, ht⟩ := hak.2 k h
    obtain ⟨bb, q1, q2, q3, q4⟩ := ht.count
    exact ⟨u, bb, e, fun e => hSb (e ▸ q1), q3, q4⟩
  · rintro e w' ⟨rfl, hg, hs, hx'⟩
    have blk : ∀ y, S y → y < w.heap.size → S y ∧ w'.heap[y]? = w.heap[y]? := fun y hy hl => ⟨hy, hg.block y hl (fun e => hSb (by injection e with e; exact e ▸ hy))⟩
    have hk2 := hak.keep hg.size blk
    exact ⟨rfl, hg, rfl, gg, 0, kc, ys, hx', hSg, ⟨by have := hg.size; omega, hcap⟩, ⟨hM, hak.1⟩, fun j u hj => by rw [Nat.zero_add]; exact (World.cell?_of_block (a := ⟨gg, j, none⟩) (blk gg hSg hgl).2).trans (hce j u hj), hk2.2⟩

theorem frs_grown {w w' : World} {b : Nat} {bs : List Nat} (h : w.grownBy w' (some b)) (hb : b ∈ bs) : Frs bs w w' := ⟨h.os, h.tape, h.output, h.size, fun k hk hn => h.block k hk (fun e => hn (by injection e with e; rw [e]; exact hb))⟩
end Go.Proofs.Ytakemeccigpbaaa

namespace Go.Proofs.Ytakemeccigpbaaa
open Go.RowKit Go.Deep
set_option linter.unusedVariables false
set_option maxRecDepth 100000

theorem NdI.form {S : Nat → Prop} {w : World} {b d : Nat} {t : Ro (d + 1)} {v : Value} (h : NdI S w b (d + 1) t v) : (v = .iface 53 (.pointer (some ⟨b, 0, none⟩)) ∧ ∃ x ka kc, Bx w b 57 #[x, .slice ka (sizR t) kc]) ∨ (v = .iface 91 (.pointer (some ⟨b, 0, none⟩)) ∧ ∃ x ka kc, Bx w b 96 #[x, .slice ka (sizR t) kc]) := by
  rcases t with L | l
  · obtain ⟨rfl, ka, kc, hx, _⟩ := h
    exact .inl ⟨rfl, _, ka, kc, hx⟩
  · obtain ⟨rfl, g, o, kc, xs, hx, _⟩ := h
    exact .inr ⟨rfl, _, _, kc, hx⟩

/-- What grownRoot leaves of a root that is too large. -/
def RetGr (S : Nat → Prop) (w : World) (b d : Nat) (t : Ro (d + 1)) (e : Ending) (w' : World) : Prop :=
  ∃ v', e = .returned v' ∧ Fr2 w w' b b ∧ TAo (fun x => S x ∨ x = b ∨ w.heap.size ≤ x) w' (d + 2) (.inr [cutR 0 3 t, cutR 3 5 t]) v'

end Go.Proofs.Ytakemeccigpbaaa
