import Derived.Test.YtocmbnocdjnfpaaNg2
import Derived.Test.YtocmbnocdjnfpaaOwn
import Derived.Test.YtocmbnocdjnfpaaPpR
import Derived.Test.YtocmbnocdjnfpaaMkTx
import Derived.Deep.QuietTactic
import Derived.BigQuiet
import Derived.Deep.RegionWith
import Derived.Deep.RegionHeld3
import Derived.Deep.CutBlock
import Derived.Test.YtocmbnocdjnfpaaPpX
import Derived.Test.YtocmbnocdjnfpaaVpLaw
namespace Go.Proofs.Ytocmbnocdjnfpaa
open Go.RowKit Go.Deep
set_option linter.unusedVariables false
set_option maxRecDepth 100000
set_option linter.unusedSimpArgs false

def FcBig (f : Fc) : Prop := (f.s.size ≤ maxLen ∧ f.p.size ≤ maxLen) ∧ f.o.size ≤ maxLen ∧ f.g.size ≤ maxLen
set_option maxHeartbeats 1000000 in
theorem szFact_any (f : Fc) (l : Int) (w : World) (hf : FcBig f) (h0 : 0 ≤ l) (h1 : l ≤ 1048576) :
    Calls Try.prog 60 #[.agg #[.string f.s, .string f.p, .string f.o, .string f.g], .int .i64 l] w fun e w' => ∃ q : Int, e = .returned (.int .i64 q) ∧ (q = -1 ∨ (0 ≤ q ∧ q ≤ 1048576)) ∧ Below w.heap.size w w' := by
  obtain ⟨⟨hs, hp⟩, ho, hg⟩ := hf
  unfold maxLen at hs hp ho hg
  by_cases a1 : l - (f.s.size : Int) < 0
  · go_enter Try.func60, Try.ntmps60
    go_wp2
    go_ret
    exact ⟨-1, rfl, Or.inl rfl, below_alloc _ _⟩
  by_cases a2 : l - (f.s.size : Int) - (f.p.size : Int) < 0
  · go_enter Try.func60, Try.ntmps60
    go_wp2
    go_ret
    exact ⟨-1, rfl, Or.inl rfl, below_alloc _ _⟩
  by_cases a3 : l - (f.s.size : Int) - (f.p.size : Int) - (f.o.size : Int) < 0
  · go_enter Try.func60, Try.ntmps60
    go_wp2
    go_ret
    exact ⟨-1, rfl, Or.inl rfl, below_alloc _ _⟩
  by_cases a4 : l - (f.s.size : Int) - (f.p.size : Int) - (f.o.size : Int) - (f.g.size : Int) < 0
  · go_enter Try.func60, Try.ntmps60
    go_wp2
    go_ret
    exact ⟨-1, rfl, Or.inl rfl, below_alloc _ _⟩
  · go_enter Try.func60, Try.ntmps60
    go_wp2
    go_ret
    exact ⟨_, rfl, Or.inr ⟨by omega, by omega⟩, below_alloc _ _⟩
set_option maxHeartbeats 1000000 in
theorem szFactS_any (a : Option Addr) (n c : Nat) (fs : List Fc) (l : Int) (w : World) (h : RdF w a fs) (hn : n = fs.length) (hm : n ≤ maxLen) (hX : ∀ f, f ∈ fs → FcBig f) (h0 : 0 ≤ l) (h1 : l ≤ 1048576) :
    Calls Try.prog 29 #[.slice a n c, .int .i64 l] w fun e w' => ∃ r : Int, e = .returned (.int .i64 r) ∧ (r = -1 ∨ (0 ≤ r ∧ n ≤ 1048576)) ∧ Below w.heap.size w w' := by
  unfold maxLen at hm
  have HN : Hid (n = fs.length ∧ ∀ f, f ∈ fs → FcBig f) := ⟨hn, hX⟩
  have HR : Hid (RdF w a fs) := h
  clear hn hX h
  by_cases hneg : l - (n : Int) < 0
  · go_enter Try.func29, Try.ntmps29
    go_wp2
    go_ret
    exact ⟨-1, rfl, Or.inl rfl, Below.refl _ _⟩
  · go_enter Try.func29, Try.ntmps29
    go_wp2
    go_loopw [1, 5] (fun q i wr => ∃ (k : Nat) (l' : Int), k ≤ n ∧ i = .int .i64 k ∧ q = .int .i64 l' ∧ 0 ≤ l' ∧ l' ≤ 1048576 ∧ Below w.heap.size w wr) (fun _ i _ => n - (intOf i).toNat)
    case atStart => exact ⟨0, _, Nat.zero_le _, rfl, rfl, by omega, by omega, Below.refl _ _⟩
    case round =>
      obtain ⟨k, l', hk, rfl, rfl, hl0, hl1, hbel⟩ := hrel
      have HB : Hid (Below w.heap.size w wr) := hbel
      clear hbel
      by_cases hlt : k < n
      · have hkl : k < fs.length := by rw [← HN.out.1]; exact hlt
        obtain ⟨b, o, rfl, s0, s1, s2, s3⟩ := (HR.out.below HB.out).at hkl
        obtain ⟨f, hf⟩ : ∃ f, f = fs[k] := ⟨_, rfl⟩
        rw [← hf] at s0 s1 s2 s3
        have HF : Hid (FcBig f) := HN.out.2 f (by rw [hf]; exact List.getElem_mem hkl)
        have hsz := HB.out.size
        clear hf hkl
        go_wp2_with fail
        refine (szFact_any f l' _ HF.out hl0 hl1).mono ?_
        rintro e w1 ⟨q, rfl, hq, hb1⟩
        have HB1 : Hid (Below w.heap.size w w1) := HB.out.trans (hb1.mono (by simpa using hsz))
        clear hb1 s0 s1 s2 s3
        rcases hq with rfl | ⟨hq0, hq1⟩
        · go_wp2
          go_ret
          exact ⟨-1, rfl, Or.inl rfl, HB1.out⟩
        · have hq2 : ¬ q < 0 := by omega
          go_wp2
          go_roundw
          case rel => exact ⟨k + 1, q, by omega, by go_num, rfl, hq0, hq1, HB1.out⟩
          case measure => simp [intOf]; omega
      · have e : k = n := by omega
        subst e
        go_wp2
        go_ret
        exact ⟨l', rfl, Or.inr ⟨hl0, by omega⟩, HB.out⟩
set_option maxHeartbeats 400000 in
theorem toFact_any (f : Fc) (w : World) :
    Calls Try.prog 62 #[.agg #[.string f.s, .string f.p, .string f.o, .string f.g]] w fun e w' => e = .returned (.agg #[.string f.s, .string f.p, .string f.o, .string f.g]) ∧ Below w.heap.size w w' := by
  go_enter Try.func62, Try.ntmps62
  go_wp2
  refine bodyPost_ret (v := .agg #[.string f.s, .string f.p, .string f.o, .string f.g]) (by simp [results, Try.results62, go_sem]) rfl ⟨rfl, ?_⟩
  exact ((below_alloc _ _).alloc (by simp) _).alloc (by simp; omega) _
set_option maxHeartbeats 400000 in
theorem eqFact_yes (f : Fc) (w : World) :
    Calls Try.prog 68 #[.agg #[.string f.s, .string f.p, .string f.o, .string f.g], .agg #[.string f.s, .string f.p, .string f.o, .string f.g]] w fun e w' => e = .returned (.bool true) ∧ Below w.heap.size w w' := by
  have q1 : (f.s.toList == f.s.toList) = true := str_eq.2 rfl
  have q2 : (f.p.toList == f.p.toList) = true := str_eq.2 rfl
  have q3 : (f.o.toList == f.o.toList) = true := str_eq.2 rfl
  have q4 : (f.g.toList == f.g.toList) = true := str_eq.2 rfl
  go_enter Try.func68, Try.ntmps68
  go_wp2
  go_ret
  exact ⟨rfl, ((below_alloc _ _).alloc (by simp) _)⟩
set_option maxHeartbeats 1000000 in
theorem eqFactS_yes (a b : Option Addr) (n ca cb : Nat) (fs : List Fc) (w : World) (ha : RdF w a fs) (hb : RdF w b fs) (hn : n = fs.length) (hm : n ≤ 1048576) :
    Calls Try.prog 34 #[.slice a n ca, .slice b n cb] w fun e w' => e = .returned (.bool true) ∧ Below w.heap.size w w' := by
  have HN : Hid (n = fs.length) := hn
  have HR : Hid (RdF w a fs ∧ RdF w b fs) := ⟨ha, hb⟩
  clear hn ha hb
  go_enter Try.func34, Try.ntmps34
  go_wp2
  go_loopw [5] (fun i wr => ∃ k : Nat, k ≤ n ∧ i = .int .i64 k ∧ Below w.heap.size w wr) (fun i _ => n - (intOf i).toNat)
  case atStart => exact ⟨0, Nat.zero_le _, rfl, Below.refl _ _⟩
  case round =>
    obtain ⟨k, hk, rfl, hbel⟩ := hrel
    have HB : Hid (Below w.heap.size w wr) := hbel
    clear hbel
    by_cases hlt : k < n
    · have hkl : k < fs.length := by rw [← HN.out]; exact hlt
      obtain ⟨b1, o1, rfl, s0, s1, s2, s3⟩ := (HR.out.1.below HB.out).at hkl
      obtain ⟨b2, o2, rfl, t0, t1, t2, t3⟩ := (HR.out.2.below HB.out).at hkl
      obtain ⟨f, hf⟩ : ∃ f, f = fs[k] := ⟨_, rfl⟩
      rw [← hf] at s0 s1 s2 s3 t0 t1 t2 t3
      have hsz := HB.out.size
      clear hf hkl
      go_wp2
      go_region_with (go_at_call 68; refine (eqFact_yes f _).mono ?_; rintro e w2 ⟨rfl, hb2⟩)
      all_goals
        have HX : Hid (Below w.heap.size w w2) := (HB.out.drew).trans (hb2.mono (by simpa using hsz))
        clear hb2 s0 s1 s2 s3 t0 t1 t2 t3
        go_wp2
        go_roundw
        case rel => exact ⟨k + 1, by omega, by go_num, HX.out⟩
        case measure => simp [intOf]; omega
    · have e : k = n := by omega
      subst e
      go_wp2
      go_ret
      exact ⟨rfl, HB.out⟩
/-- The cells of a row of facts. -/
def fcF (F : Nat → Fc) (j : Nat) : Value := match j % 4 with | 0 => .string (F (j / 4)).s | 1 => .string (F (j / 4)).p | 2 => .string (F (j / 4)).o | _ => .string (F (j / 4)).g
theorem fcF_0 (F : Nat → Fc) (k : Nat) : fcF F (k * 4) = .string (F k).s := by unfold fcF; rw [show k * 4 % 4 = 0 by omega, show k * 4 / 4 = k by omega]; rfl
theorem fcF_1 (F : Nat → Fc) (k : Nat) : fcF F (k * 4 + 1) = .string (F k).p := by unfold fcF; rw [show (k * 4 + 1) % 4 = 1 by omega, show (k * 4 + 1) / 4 = k by omega]; rfl
theorem fcF_2 (F : Nat → Fc) (k : Nat) : fcF F (k * 4 + 2) = .string (F k).o := by unfold fcF; rw [show (k * 4 + 2) % 4 = 2 by omega, show (k * 4 + 2) / 4 = k by omega]; rfl
theorem fcF_3 (F : Nat → Fc) (k : Nat) : fcF F (k * 4 + 3) = .string (F k).g := by unfold fcF; rw [show (k * 4 + 3) % 4 = 3 by omega, show (k * 4 + 3) / 4 = k by omega]; rfl
def emF : Nat → Fc := fun _ => ⟨{ data := #[] }, { data := #[] }, { data := #[] }, { data := #[] }⟩
def gtF (fs : List Fc) (i : Nat) : Fc := fs.getD i ⟨{ data := #[] }, { data := #[] }, { data := #[] }, { data := #[] }⟩
theorem gtF_get {fs : List Fc} {i : Nat} {x : Fc} (h : fs[i]? = some x) : gtF fs i = x := by unfold gtF; rw [List.getD_eq_getElem?_getD, h]; rfl
theorem rdF_row {w : World} {g n : Nat} {fs : List Fc} (h : rowIn w g 98 (n * 4) (fcF (gtF fs))) (hn : n = fs.length) : RdF w (some ⟨g, 0, none⟩) fs := by
  refine .inr ⟨g, 0, rfl, fun i x hx => ?_⟩
  have hi := (List.getElem?_eq_some_iff.1 hx).1
  have e := gtF_get hx
  have c0 := h.cell (i := i * 4) (by omega)
  have c1 := h.cell (i := i * 4 + 1) (by omega)
  have c2 := h.cell (i := i * 4 + 2) (by omega)
  have c3 := h.cell (i := i * 4 + 3) (by omega)
  rw [fcF_0, e] at c0
  rw [fcF_1, e] at c1
  rw [fcF_2, e] at c2
  rw [fcF_3, e] at c3
  rw [Nat.zero_add]
  exact ⟨c0, c1, c2, c3⟩
theorem madeF (w : World) (n : Nat) : rowIn (w.alloc (.cells (madeCells #[.string { data := #[] }, .string { data := #[] }, .string { data := #[] }, .string { data := #[] }] (n * 4)) 98)) w.heap.size 98 (n * 4) (fcF emF) := by
  refine ⟨_, Array.getElem?_push_size, by rw [size_madeCells]; omega, fun i hi => ?_⟩
  have h4 : i % 4 = 0 ∨ i % 4 = 1 ∨ i % 4 = 2 ∨ i % 4 = 3 := by omega
  unfold fcF emF
  rcases h4 with h | h | h | h <;> simp [madeCells, hi, h]
set_option maxHeartbeats 2000000 in
theorem toFactS_any (a : Option Addr) (n c : Nat) (fs : List Fc) (w : World) (h : RdF w a fs) (hnn : n = fs.length) (hn : n ≤ 1048576) :
    Calls Try.prog 31 #[.slice a n c] w fun e w' => e = .returned (.slice (some ⟨w.heap.size, 0, none⟩) n n) ∧ rowIn w' w.heap.size 98 (n * 4) (fcF (gtF fs)) ∧ Below w.heap.size w w' := by
  have hmk : ∀ w : World, (Instr.makeSlice 51 (.int .i64 (n : Int)) (.int .i64 (n : Int))).run Try.prog w = .ok (.slice (some ⟨w.heap.size, 0, none⟩) n n) (w.alloc (.cells (madeCells #[.string { data := #[] }, .string { data := #[] }, .string { data := #[] }, .string { data := #[] }] (n * 4)) 98)) := by
    intro w
    obtain ⟨i0, hi, hz0, hz1, hz2⟩ := info_parts infoFc
    have := run_make (P := Try.prog) w 51 98 i0 _ underFcs hi hz0 .i64 .i64 n n (by omega) (by omega) (by rw [hz2]; omega) (by omega)
    rw [hz1, show (Value.agg #[.string { data := #[] }, .string { data := #[] }, .string { data := #[] }, .string { data := #[] }]).cells = #[.string { data := #[] }, .string { data := #[] }, .string { data := #[] }, .string { data := #[] }] from rfl] at this
    simpa using this
  have HN : Hid (n = fs.length ∧ RdF w a fs) := ⟨hnn, h⟩
  have H0 : Hid (rowIn (w.alloc (.cells (madeCells #[.string { data := #[] }, .string { data := #[] }, .string { data := #[] }, .string { data := #[] }] (n * 4)) 98)) w.heap.size 98 (n * 4) (fun j => if j < 0 * 4 then fcF (gtF fs) j else fcF emF j)) :=
    (madeF w n).congr (fun i _ => by simp)
  clear h hnn
  go_enter Try.func31, Try.ntmps31
  go_wp2
  go_loopw [4] (fun i wr => ∃ k : Nat, k ≤ n ∧ i = .int .i64 k ∧ rowIn wr w.heap.size 98 (n * 4) (fun j => if j < k * 4 then fcF (gtF fs) j else fcF emF j) ∧ Below w.heap.size w wr) (fun i _ => n - (intOf i).toNat)
  case atStart => exact ⟨0, Nat.zero_le _, rfl, H0.out, below_alloc _ _⟩
  case round =>
    obtain ⟨k, hk, rfl, hrow, hbel⟩ := hrel
    clear H0
    have HB : Hid (Below w.heap.size w wr) := hbel
    have HR : Hid (rowIn wr w.heap.size 98 (n * 4) (fun j => if j < k * 4 then fcF (gtF fs) j else fcF emF j)) := hrow
    have hsz := hbel.size
    clear hrow hbel
    by_cases hlt : k < n
    · have hkl : k < fs.length := by rw [← HN.out.1]; exact hlt
      obtain ⟨b, o, rfl, s0, s1, s2, s3⟩ := (HN.out.2.below HB.out).at hkl
      obtain ⟨f, hf⟩ : ∃ f, f = fs[k] := ⟨_, rfl⟩
      rw [← hf] at s0 s1 s2 s3
      have HG : Hid (gtF fs k = f) := gtF_get (by rw [List.getElem?_eq_getElem hkl, hf])
      clear hf hkl hmk
      go_wp2_with fail
      refine (toFact_any f _).mono ?_
      rintro e w1 ⟨rfl, hb1⟩
      have hrow := HR.out.of_block (hb1.block _ HR.out.lt)
      have hc0 := hrow.cell (i := k * 4) (by omega)
      have hc1 := hrow.cell (i := k * 4 + 1) (by omega)
      have hc2 := hrow.cell (i := k * 4 + 2) (by omega)
      have hc3 := hrow.cell (i := k * 4 + 3) (by omega)
      have hf0 := hrow.frozen (k * 4)
      have hf1 := hrow.frozen (k * 4 + 1)
      have hf2 := hrow.frozen (k * 4 + 2)
      have hf3 := hrow.frozen (k * 4 + 3)
      have HX : Hid (rowIn ((((w1.setCell ⟨w.heap.size, k * 4, none⟩ (.string f.s)).setCell ⟨w.heap.size, k * 4 + 1, none⟩ (.string f.p)).setCell ⟨w.heap.size, k * 4 + 2, none⟩ (.string f.o)).setCell ⟨w.heap.size, k * 4 + 3, none⟩ (.string f.g)) w.heap.size 98 (n * 4) (fun j => if j < (k + 1) * 4 then fcF (gtF fs) j else fcF emF j) ∧
          Below w.heap.size w ((((w1.setCell ⟨w.heap.size, k * 4, none⟩ (.string f.s)).setCell ⟨w.heap.size, k * 4 + 1, none⟩ (.string f.p)).setCell ⟨w.heap.size, k * 4 + 2, none⟩ (.string f.o)).setCell ⟨w.heap.size, k * 4 + 3, none⟩ (.string f.g))) := by
        refine ⟨((((hrow.set (k * 4) _).set (k * 4 + 1) _).set (k * 4 + 2) _).set (k * 4 + 3) _).congr (fun j hj => ?_), ((((HB.out.trans (hb1.mono hsz)).setCell (Nat.le_refl _) _).setCell (Nat.le_refl _) _).setCell (Nat.le_refl _) _).setCell (Nat.le_refl _) _⟩
        by_cases e3 : j = k * 4 + 3
        · subst e3
          rw [if_pos (by omega : k * 4 + 3 < (k + 1) * 4), fcF_3, HG.out]; simp
        by_cases e2 : j = k * 4 + 2
        · subst e2
          rw [if_pos (by omega : k * 4 + 2 < (k + 1) * 4), fcF_2, HG.out]; simp
        by_cases e1 : j = k * 4 + 1
        · subst e1
          rw [if_pos (by omega : k * 4 + 1 < (k + 1) * 4), fcF_1, HG.out]; simp
        by_cases e0 : j = k * 4
        · subst e0
          rw [if_pos (by omega : k * 4 < (k + 1) * 4), fcF_0, HG.out]; simp
        simp only [if_neg e0, if_neg e1, if_neg e2, if_neg e3]
        by_cases e : j < k * 4
        · rw [if_pos e, if_pos (by omega)]
        · rw [if_neg e, if_neg (by omega)]
      clear hrow hb1 HR
      go_wp2
      go_roundw
      case rel => exact ⟨k + 1, by omega, by go_num, HX.out.1, HX.out.2⟩
      case measure => simp [intOf]; omega
    · have e : k = n := by omega
      subst e
      have HX : Hid (rowIn wr w.heap.size 98 (k * 4) (fcF (gtF fs))) := HR.out.congr (fun j hj => by simp [hj])
      clear HR
      go_wp2
      go_ret
      exact ⟨rfl, HX.out, HB.out⟩
end Go.Proofs.Ytocmbnocdjnfpaa

namespace Go.Proofs.Ytocmbnocdjnfpaa
open Go.RowKit Go.Deep
set_option linter.unusedVariables false
set_option maxRecDepth 100000

theorem gw_set (w : World) (b i : Nat) (v : Value) : w.grownBy (w.setCell ⟨b, i, none⟩ v) (some b) :=
  ⟨rfl, rfl, rfl, by simp, fun b hb hne => Below.heap_setCell _ _ _ _ (fun e => hne (by rw [e]))⟩
theorem gw_refl (w : World) (r : Option Nat) : w.grownBy w r := ⟨rfl, rfl, rfl, Nat.le_refl _, fun _ _ _ => rfl⟩
theorem gw_trans {w w1 w2 : World} {r : Option Nat} (h : w.grownBy w1 r) (g : w1.grownBy w2 r) : w.grownBy w2 r := h.andThen g (fun j e => .inr e)
theorem gw_below {w w1 : World} {r : Option Nat} (h : Below w.heap.size w w1) : w.grownBy w1 r := ⟨h.os, h.tape, h.output, h.size, fun k hk _ => h.block k hk⟩
set_option maxHeartbeats 400000 in
theorem markTextI (x : Int) (k : Nat) (h : x = (k : Int)) (w : World) (hk : 1 ≤ k) (hk2 : k ≤ 1073741824) :
    Calls Try.prog 69 #[.int .i64 x] w fun e w' => e = .returned (.string (mkT k)) ∧ Below w.heap.size w w' := by
  subst h
  exact markText_any k w hk hk2

/-- A slice whose cells the call may write. -/
def OwnV (w : World) (t : TypeId) (a : Option Addr) (n : Nat) (f : Nat → Value) : Prop := n = 0 ∨ ∃ g, a = some ⟨g, 0, none⟩ ∧ rowIn w g t n f

set_option maxHeartbeats 2000000 in
theorem markStrs_any (a : Option Addr) (n c k : Nat) (X : Nat → ByteArray) (w : World) (h : OwnV w 9 a n (fun i => .string (X i))) (hk : 1 ≤ k) (hk2 : k + n ≤ 1073741824) :
    Calls Try.prog 36 #[.slice a n c, .int .i64 (k : Int)] w fun e w' => e = .returned (.int .i64 ((k + n : Nat) : Int)) ∧ w.grownBy w' (a.map (·.block)) ∧ (n = 0 → w' = w) ∧ OwnV w' 9 a n (fun i => .string (mkT (k + i))) := by
  by_cases hn0 : n = 0
  · subst hn0
    go_enter Try.func36, Try.ntmps36
    go_wp2
    go_loopw [1, 5] (fun q i wr => q = .int .i64 (k : Int) ∧ i = .int .i64 0 ∧ wr = w) (fun _ i _ => 1 - (intOf i).toNat)
    case atStart => exact ⟨rfl, rfl, rfl⟩
    case round =>
      obtain ⟨rfl, rfl, rfl⟩ := hrel
      go_wp2
      go_ret
      exact ⟨by simp, gw_refl _ _, fun _ => rfl, .inl rfl⟩
  · obtain ⟨g, rfl, hrow⟩ := h.resolve_left hn0
    have HR : Hid (rowIn w g 9 n (fun i => .string (X i))) := hrow
    clear hrow h
    have HN0 : Hid (¬ n = 0) := hn0
    clear hn0
    go_enter Try.func36, Try.ntmps36
    go_wp2
    go_loopw [1, 5] (fun q i wr => ∃ j p : Nat, j ≤ n ∧ i = .int .i64 j ∧ q = .int .i64 p ∧ p = k + j ∧ w.grownBy wr (some g) ∧ rowIn wr g 9 n (fun i => .string (if i < j then mkT (k + i) else X i))) (fun _ i _ => n - (intOf i).toNat)
    case atStart => exact ⟨0, k, Nat.zero_le _, rfl, rfl, rfl, gw_refl _ _, HR.out.congr (fun i _ => by simp)⟩
    case round =>
      obtain ⟨j, p, hj, rfl, rfl, hp, hgr, hrow⟩ := hrel
      have HS : Hid (p = k + j ∧ w.grownBy wr (some g) ∧ rowIn wr g 9 n (fun i => .string (if i < j then mkT (k + i) else X i))) := ⟨hp, hgr, hrow⟩
      by_cases hlt : j < n
      · have hpb : 1 ≤ p ∧ p ≤ 1073741824 := by omega
        have i0 : (0 : Int) ≤ (j : Int) := by omega
        have i1 : (j : Int) < (n : Int) := by omega
        clear hp hgr hrow HR
        go_wp2_with fail
        refine (markTextI _ p rfl wr hpb.1 hpb.2).mono ?_
        rintro e w1 ⟨rfl, hb1⟩
        have hrow1 := HS.out.2.2.of_block (hb1.block g HS.out.2.2.lt)
        have c1 := hrow1.cell hlt
        have f1 := hrow1.frozen j
        have l1 := hrow1.lt
        have HX : Hid (w.grownBy (w1.setCell ⟨g, j, none⟩ (.string (mkT p))) (some g) ∧ rowIn (w1.setCell ⟨g, j, none⟩ (.string (mkT p))) g 9 n (fun i => .string (if i < j + 1 then mkT (k + i) else X i))) := by
          refine ⟨gw_trans (gw_trans HS.out.2.1 (gw_below hb1)) (gw_set _ _ _ _), (hrow1.set j _).congr (fun i hi => ?_)⟩
          by_cases e : i = j
          · subst e; simp [HS.out.1]
          · by_cases e2 : i < j
            · have : i < j + 1 := by omega
              simp [e, e2, this]
            · have : ¬ i < j + 1 := by omega
              simp [e, e2, this]
        have HP : Hid (p + 1 = k + (j + 1)) := by
          show p + 1 = k + (j + 1)
          have := HS.out.1
          omega
        clear hrow1 hb1 HS
        go_wp2
        go_roundw
        case rel => exact ⟨j + 1, p + 1, by omega, by go_num, by go_num, HP.out, HX.out⟩
        case measure => simp [intOf]; omega
      · have e : j = n := by omega
        subst e
        clear hp hgr hrow
        go_wp2
        go_ret
        exact ⟨by rw [HS.out.1]; rfl, HS.out.2.1, fun h => absurd h HN0.out, .inr ⟨g, rfl, HS.out.2.2.congr (fun i hi => by simp [hi])⟩⟩

set_option maxHeartbeats 2000000 in
theorem heldStrs_any (a : Option Addr) (n c k : Nat) (w : World) (h : RdS w a n (fun i => mkT (k + i))) (hk : 1 ≤ k) (hk2 : k + n ≤ 1073741824) :
    Calls Try.prog 37 #[.slice a n c, .int .i64 (k : Int)] w fun e w' => e = .returned (.int .i64 ((k + n : Nat) : Int)) ∧ Below w.heap.size w w' := by
  have HR : Hid (RdS w a n (fun i => mkT (k + i))) := h
  clear h
  go_enter Try.func37, Try.ntmps37
  go_wp2
  go_loopw [1, 5] (fun q i wr => ∃ j p : Nat, j ≤ n ∧ i = .int .i64 j ∧ q = .int .i64 p ∧ p = k + j ∧ Below w.heap.size w wr) (fun _ i _ => n - (intOf i).toNat)
  case atStart => exact ⟨0, k, Nat.zero_le _, rfl, rfl, rfl, Below.refl _ _⟩
  case round =>
    obtain ⟨j, p, hj, rfl, rfl, hp, hbel⟩ := hrel
    have HS : Hid (p = k + j ∧ Below w.heap.size w wr) := ⟨hp, hbel⟩
    have hpb : 1 ≤ p ∧ p ≤ 1073741824 := by omega
    by_cases hlt : j < n
    · rcases HR.out.below hbel with q | ⟨b, o, rfl, hc⟩
      · omega
      have s1 : wr.cell? ⟨b, o + j, none⟩ = some (.string (mkT p)) := by rw [hp]; exact hc j hlt
      have i0 : (0 : Int) ≤ (j : Int) := by omega
      have i1 : (j : Int) < (n : Int) := by omega
      have hbl : b < wr.heap.size := World.block_lt_of_cell? _ _ s1
      have HM : Hid (∀ W : World, Calls Try.prog 69 #[.int .i64 (p : Int)] W fun e w' => e = .returned (.string (mkT p)) ∧ Below W.heap.size W w') := fun W => markTextI _ p rfl W hpb.1 hpb.2
      have HC : Hid (∀ w1 : World, Below wr.drew.heap.size wr.drew w1 → w1.cell? ⟨b, o + j, none⟩ = some (.string (mkT p))) := fun w1 hb1 => by
        rw [hb1.cell (p := ⟨b, o + j, none⟩) hbl]
        exact s1
      obtain ⟨T, hT⟩ : ∃ T, mkT p = T := ⟨_, rfl⟩
      rw [hT] at s1 HM HC
      clear hc hp hbel hT
      have hq : (T.toList == T.toList) = true := by simp
      go_wp2
      go_region_held3 (fun w' => w'.cell? ⟨b, o + j, none⟩ = some (.string T)) (go_keep) (first | (go_at_call 69; refine (HM.out _).mono ?_; rintro e w1 ⟨rfl, hb1⟩; have k1 := HC.out w1 hb1) | fail)
      have HB : Hid (Below w.heap.size w w1) := HS.out.2.trans ((show Below wr.heap.size wr w1 from (Below.refl _ _).drew.trans hb1).mono HS.out.2.size)
      have HP : Hid (p + 1 = k + (j + 1)) := by
        show p + 1 = k + (j + 1)
        have := HS.out.1
        omega
      clear hb1 k1 HS
      go_wp2
      go_roundw
      case rel => exact ⟨j + 1, p + 1, by omega, by go_num, by go_num, HP.out, HB.out⟩
      case measure => simp [intOf]; omega
    · have e : j = n := by omega
      subst e
      clear hp hbel
      go_wp2
      go_ret
      exact ⟨by rw [HS.out.1]; rfl, HS.out.2⟩
set_option maxHeartbeats 1000000 in
theorem eqStringS_yes (a b : Option Addr) (len ca cb : Nat) (f : Nat → ByteArray) (w : World) (ha : RdS w a len f) (hb : RdS w b len f) (hm : len ≤ 1048576) :
    Calls Try.prog 33 #[.slice a len ca, .slice b len cb] w fun e w' => e = .returned (.bool true) ∧ ∃ n, w' = w.drewN n := by
  have hll : ((len : Int) != (len : Int)) = false := by simp
  go_enter Try.func33, Try.ntmps33
  go_wp2
  go_loopw [5] (fun i wr => ∃ k n : Nat, k ≤ len ∧ i = .int .i64 k ∧ wr = w.drewN n) (fun i _ => len - (intOf i).toNat)
  case atStart => exact ⟨0, 0, Nat.zero_le _, rfl, rfl⟩
  case round =>
    obtain ⟨k, n, hk, rfl, rfl⟩ := hrel
    by_cases hlt : k < len
    · have hne : ¬ len = 0 := by omega
      rcases ha with h | ⟨ba, oa, rfl, hca⟩
      · exact absurd h hne
      rcases hb with h | ⟨bb, ob, rfl, hcb⟩
      · exact absurd h hne
      have h1 := hca k hlt
      have h2 := hcb k hlt
      clear hca hcb
      go_wp2
      go_quiet (fail)
      go_wp2
      go_roundw
      case rel => exact ⟨k + 1, _, by omega, by go_num, rfl⟩
      case measure => simp [intOf]; omega
    · have e : k = len := by omega
      subst e
      go_wp2
      go_ret
      exact ⟨rfl, n, rfl⟩

/-- A row of facts, whatever they are. -/
def FRow (w : World) (g n : Nat) : Prop := ∃ Y : Nat → ByteArray, rowIn w g 98 (n * 4) (fun j => .string (Y j))
theorem FRow.of {w : World} {g n : Nat} {F : Nat → Fc} (h : rowIn w g 98 (n * 4) (fcF F)) : FRow w g n := by
  refine ⟨fun j => match j % 4 with | 0 => (F (j / 4)).s | 1 => (F (j / 4)).p | 2 => (F (j / 4)).o | _ => (F (j / 4)).g, h.congr (fun i _ => ?_)⟩
  unfold fcF
  have h4 : i % 4 = 0 ∨ i % 4 = 1 ∨ i % 4 = 2 ∨ i % 4 = 3 := by omega
  rcases h4 with h | h | h | h <;> simp [h]
theorem FRow.below {w w' : World} {g n : Nat} (h : FRow w g n) (hb : Below w.heap.size w w') : FRow w' g n := by
  obtain ⟨Y, h⟩ := h
  exact ⟨Y, h.of_block (hb.block g h.lt)⟩
theorem FRow.set {w : World} {g n : Nat} (h : FRow w g n) (j : Nat) (y : ByteArray) : FRow (w.setCell ⟨g, j, none⟩ (.string y)) g n := by
  obtain ⟨Y, h⟩ := h
  refine ⟨fun i => if i = j then y else Y i, (h.set j _).congr (fun i _ => ?_)⟩
  by_cases e : i = j
  · subst e; simp
  · simp [e]
theorem FRow.cell {w : World} {g n j : Nat} (h : FRow w g n) (hj : j < n * 4) : (∃ y, w.cell? ⟨g, j, none⟩ = some (.string y)) ∧ w.frozen? ⟨g, j, none⟩ = false ∧ g < w.heap.size := by
  obtain ⟨Y, h⟩ := h
  exact ⟨⟨_, h.cell hj⟩, h.frozen j, h.lt⟩
set_option maxHeartbeats 2000000 in
theorem markFactS_any (g n c k : Nat) (w : World) (h : FRow w g n) (hk : 1 ≤ k) (hk2 : k + 4 * n ≤ 1073741824) :
    Calls Try.prog 35 #[.slice (some ⟨g, 0, none⟩) n c, .int .i64 (k : Int)] w fun e w' => ∃ q : Nat, e = .returned (.int .i64 (q : Int)) ∧ FRow w' g n ∧ w.grownBy w' (some g) := by
  have HR : Hid (FRow w g n) := h
  clear h
  go_enter Try.func35, Try.ntmps35
  go_wp2
  go_loopw [1, 5] (fun q i wr => ∃ j p : Nat, j ≤ n ∧ i = .int .i64 j ∧ q = .int .i64 p ∧ (p ≤ k + 4 * j ∧ 1 ≤ p) ∧ w.grownBy wr (some g) ∧ FRow wr g n) (fun _ i _ => n - (intOf i).toNat)
  case atStart => exact ⟨0, k, Nat.zero_le _, rfl, rfl, ⟨by omega, hk⟩, gw_refl _ _, HR.out⟩
  case round =>
    obtain ⟨j, p, hj, rfl, rfl, ⟨hp, hp1⟩, hgr, hrow⟩ := hrel
    have HS : Hid (w.grownBy wr (some g) ∧ FRow wr g n) := ⟨hgr, hrow⟩
    clear hgr hrow
    by_cases hlt : j < n
    · have i0 : (0 : Int) ≤ (j : Int) := by omega
      have i1 : (j : Int) < (n : Int) := by omega
      go_wp2_with fail
      refine (markTextI _ p (by omega) _ (by omega) (by omega)).mono ?_
      rintro e w1 ⟨rfl, hb1⟩
      have HT1 : Hid (w.grownBy w1 (some g) ∧ FRow w1 g n) := ⟨gw_trans HS.out.1 (gw_below hb1), HS.out.2.below hb1⟩
      clear HS hb1
      obtain ⟨⟨y0, c0⟩, f0, l0⟩ := HT1.out.2.cell (j := j * 4) (by omega)
      have HS : Hid (w.grownBy (w1.setCell ⟨g, j * 4, none⟩ (.string (mkT p))) (some g) ∧ FRow (w1.setCell ⟨g, j * 4, none⟩ (.string (mkT p))) g n) := ⟨gw_trans HT1.out.1 (gw_set _ _ _ _), HT1.out.2.set _ _⟩
      clear HT1
      go_wp2_with fail
      refine (markTextI _ (p + 1) (by omega) _ (by omega) (by omega)).mono ?_
      rintro e w2 ⟨rfl, hb2⟩
      have HT2 : Hid (w.grownBy w2 (some g) ∧ FRow w2 g n) := ⟨gw_trans HS.out.1 (gw_below hb2), HS.out.2.below hb2⟩
      clear HS hb2
      obtain ⟨⟨y1, c1⟩, f1, l1⟩ := HT2.out.2.cell (j := j * 4 + 1) (by omega)
      have HS : Hid (w.grownBy (w2.setCell ⟨g, j * 4 + 1, none⟩ (.string (mkT (p + 1)))) (some g) ∧ FRow (w2.setCell ⟨g, j * 4 + 1, none⟩ (.string (mkT (p + 1)))) g n) := ⟨gw_trans HT2.out.1 (gw_set _ _ _ _), HT2.out.2.set _ _⟩
      clear HT2
      go_wp2_with fail
      refine (markTextI _ (p + 2) (by omega) _ (by omega) (by omega)).mono ?_
      rintro e w3 ⟨rfl, hb3⟩
      have HT3 : Hid (w.grownBy w3 (some g) ∧ FRow w3 g n) := ⟨gw_trans HS.out.1 (gw_below hb3), HS.out.2.below hb3⟩
      clear HS hb3
      obtain ⟨⟨y2, c2⟩, f2, l2⟩ := HT3.out.2.cell (j := j * 4 + 2) (by omega)
      have HS : Hid (w.grownBy (w3.setCell ⟨g, j * 4 + 2, none⟩ (.string (mkT (p + 2)))) (some g) ∧ FRow (w3.setCell ⟨g, j * 4 + 2, none⟩ (.string (mkT (p + 2)))) g n) := ⟨gw_trans HT3.out.1 (gw_set _ _ _ _), HT3.out.2.set _ _⟩
      clear HT3
      go_wp2_with fail
      refine (markTextI _ (p + 3) (by omega) _ (by omega) (by omega)).mono ?_
      rintro e w4 ⟨rfl, hb4⟩
      have HT4 : Hid (w.grownBy w4 (some g) ∧ FRow w4 g n) := ⟨gw_trans HS.out.1 (gw_below hb4), HS.out.2.below hb4⟩
      clear HS hb4
      obtain ⟨⟨y3, c3⟩, f3, l3⟩ := HT4.out.2.cell (j := j * 4 + 3) (by omega)
      have HS : Hid (w.grownBy (w4.setCell ⟨g, j * 4 + 3, none⟩ (.string (mkT (p + 3)))) (some g) ∧ FRow (w4.setCell ⟨g, j * 4 + 3, none⟩ (.string (mkT (p + 3)))) g n) := ⟨gw_trans HT4.out.1 (gw_set _ _ _ _), HT4.out.2.set _ _⟩
      clear HT4
      go_wp2
      go_roundw
      case rel => exact ⟨j + 1, p + 4, by omega, by go_num, by go_num, ⟨by omega, by omega⟩, HS.out⟩
      case measure => simp [intOf]; omega
    · have e : j = n := by omega
      subst e
      go_wp2
      go_ret
      exact ⟨p, rfl, HS.out.2, HS.out.1⟩
end Go.Proofs.Ytocmbnocdjnfpaa

namespace Go.Proofs.Ytocmbnocdjnfpaa
open Go.RowKit Go.Deep
set_option linter.unusedVariables false
set_option maxRecDepth 100000
set_option linter.unusedSimpArgs false

/-- A row of texts of the call's own. -/
def OwG (W : World) (B : Nat) (ad : Option Addr) (L : List ByteArray) : Prop := L = [] ∨ ∃ g, ad = some ⟨g, 0, none⟩ ∧ B ≤ g ∧ rowIn W g 9 L.length (fun i => .string (gt L i))
theorem OwG.below {W W' : World} {B : Nat} {ad : Option Addr} {L : List ByteArray} (h : OwG W B ad L) (hb : Below W.heap.size W W') : OwG W' B ad L := by
  rcases h with h | ⟨g, e, hg, hr⟩
  · exact .inl h
  · exact .inr ⟨g, e, hg, hr.of_block (hb.block g hr.lt)⟩
theorem OwG.rd {W : World} {B : Nat} {ad : Option Addr} {L : List ByteArray} (h : OwG W B ad L) : RdG W ad L := by
  rcases h with rfl | ⟨g, rfl, hg, hr⟩
  · exact .inl rfl
  · exact .inr ⟨g, 0, rfl, fun i hi => by rw [Nat.zero_add]; exact hr.cell hi⟩
theorem OwG.v {W : World} {B : Nat} {ad : Option Addr} {L : List ByteArray} (h : OwG W B ad L) : OwnV W 9 ad L.length (fun i => .string (gt L i)) := by
  rcases h with rfl | ⟨g, e, hg, hr⟩
  · exact .inl rfl
  · exact .inr ⟨g, e, hr⟩
/-- What the law holds on to. -/
structure LSt (w W : World) (a : Option Addr) (n c g4 gF : Nat) (aS aG : Option Addr) (L : List ByteArray) : Prop where
  k : Below (w.heap.size + 1) (w.alloc (.cells #[.slice a n c] 24)) W
  h4 : w.heap.size + 1 ≤ g4 ∧ w.heap.size + 1 ≤ gF
  s : L = [] ∨ ∃ b o, aS = some ⟨b, o, none⟩ ∧ (b ≠ g4 ∧ b ≠ gF) ∧ (∀ g, aG = some ⟨g, 0, none⟩ → b ≠ g) ∧ ∀ i, i < L.length → W.cell? ⟨b, o + i, none⟩ = some (.string (gt L i))
  g : L = [] ∨ ∃ g, aG = some ⟨g, 0, none⟩ ∧ w.heap.size + 1 ≤ g ∧ (g ≠ g4 ∧ g ≠ gF)
section
variable {w W W' : World} {a : Option Addr} {n c g4 gF : Nat} {aS aG : Option Addr} {L : List ByteArray}
theorem LSt.rd (h : LSt w W a n c g4 gF aS aG L) : RdG W aS L := by
  rcases h.s with rfl | ⟨b, o, rfl, _, _, hc⟩
  · exact .inl rfl
  · exact .inr ⟨b, o, rfl, hc⟩
theorem LSt.keep (h : LSt w W a n c g4 gF aS aG L) (hb : Below W.heap.size W W') : LSt w W' a n c g4 gF aS aG L := by
  refine ⟨h.k.trans (hb.mono (by have := h.k.size; simpa using this)), h.h4, ?_, h.g⟩
  rcases h.s with h0 | ⟨b, o, e, h1, h2, hc⟩
  · exact .inl h0
  · exact .inr ⟨b, o, e, h1, h2, fun i hi => (hb.cell (World.block_lt_of_cell? _ _ (hc i hi))).trans (hc i hi)⟩
theorem LSt.grown (h : LSt w W a n c g4 gF aS aG L) {row : Option Nat} (hg : W.grownBy W' row) (hr : ∀ g, row = some g → (g = g4 ∨ g = gF) ∨ (L ≠ [] ∧ aG = some ⟨g, 0, none⟩)) : LSt w W' a n c g4 gF aS aG L := by
  have hz := h.k.size
  simp at hz
  refine ⟨?_, h.h4, ?_, h.g⟩
  · refine ⟨hg.os.trans h.k.os, hg.tape.trans h.k.tape, hg.output.trans h.k.output, Nat.le_trans h.k.size hg.size, fun b hb => (hg.block b (by omega) (fun e => ?_)).trans (h.k.block b hb)⟩
    have := h.h4
    rcases hr b e.symm with e | ⟨h0, e⟩
    · omega
    · rcases h.g with q | ⟨g, q1, q2, _⟩
      · exact h0 q
      · rw [e] at q1
        injection q1 with q1
        injection q1 with q1
        omega
  · rcases h.s with h0 | ⟨b, o, e, h1, h2, hc⟩
    · exact .inl h0
    · refine .inr ⟨b, o, e, h1, h2, fun i hi => ?_⟩
      have hlt := World.block_lt_of_cell? _ _ (hc i hi)
      have hbb : W'.heap[b]? = W.heap[b]? := hg.block b hlt (fun q => by
        rcases hr b q.symm with (q | q) | ⟨_, q⟩
        · exact h1.1 q
        · exact h1.2 q
        · exact h2 b q rfl)
      rw [← hc i hi]
      simp [World.cell?, hbb]
end
theorem eqStr_y (a b : Option Addr) (ca cb : Nat) (L : List ByteArray) (w : World) (ha : RdG w a L) (hb : RdG w b L) (hm : L.length ≤ 60000) :
    Calls Try.prog 33 #[.slice a L.length ca, .slice b L.length cb] w fun e w' => e = .returned (.bool true) ∧ Below w.heap.size w w' := by
  refine (eqStringS_yes a b L.length ca cb (gt L) w ha hb (by omega)).mono ?_
  rintro e w' ⟨rfl, n, rfl⟩
  exact ⟨rfl, below_drewN (Below.refl _ _) n⟩

set_option maxHeartbeats 1000000 in
theorem szPNodeS_le (a : Option Addr) (n c : Nat) (I : Nat → Int) (X : Nat → ByteArray) (R : Nat → ByteArray) (l : Int) (w : World) (h : RdN w a n I X R) (hn : n ≤ maxLen) (hX : ∀ i, i < n → (X i).size ≤ maxLen ∧ (R i).size ≤ maxLen) (h0 : 0 ≤ l) (h1 : l ≤ 1048576) :
    Calls Try.prog 39 #[.slice a n c, .int .i64 l] w fun e w' => ∃ r : Int, e = .returned (.int .i64 r) ∧ (r = -1 ∨ ((0 ≤ r ∧ r ≤ 1048576) ∧ n ≤ 1048576)) ∧ Below w.heap.size w w' := by
  unfold maxLen at hn
  by_cases hneg : l - (n : Int) < 0
  · go_enter Try.func39, Try.ntmps39
    go_wp2
    go_ret
    exact ⟨-1, rfl, Or.inl rfl, Below.refl _ _⟩
  · go_enter Try.func39, Try.ntmps39
    go_wp2
    go_loopw [1, 5] (fun q i wr => ∃ (k : Nat) (l' : Int), k ≤ n ∧ i = .int .i64 k ∧ q = .int .i64 l' ∧ 0 ≤ l' ∧ l' ≤ 1048576 ∧ Below w.heap.size w wr) (fun _ i _ => n - (intOf i).toNat)
    case atStart => exact ⟨0, _, Nat.zero_le _, rfl, rfl, by omega, by omega, Below.refl _ _⟩
    case round =>
      obtain ⟨k, l', hk, rfl, rfl, hl0, hl1, hbel⟩ := hrel
      by_cases hlt : k < n
      · have hne : ¬ n = 0 := by omega
        have h' := h.below hbel
        have HB : Hid (Below w.heap.size w wr) := hbel
        have hsz := hbel.size
        rcases h' with h' | ⟨b, o, rfl, hc⟩
        · exact absurd h' hne
        obtain ⟨c1, c2, c3⟩ := hc k hlt
        have HX := hX k hlt
        clear hc h hbel hX
        go_wp2_with fail
        refine (szPNode_any (I k) (X k) (R k) l' _ HX.1 HX.2 hl0 hl1).mono ?_
        rintro e w1 ⟨q, rfl, hq, hb1⟩
        have HB1 : Hid (Below w.heap.size w w1) := HB.out.trans (hb1.mono (by simpa using hsz))
        clear hb1 c1 c2 c3
        rcases hq with rfl | ⟨hq0, hq1⟩
        · go_wp2
          go_ret
          exact ⟨-1, rfl, Or.inl rfl, HB1.out⟩
        · have hq2 : ¬ q < 0 := by omega
          go_wp2
          go_roundw
          case rel => exact ⟨k + 1, q, by omega, by go_num, rfl, hq0, hq1, HB1.out⟩
          case measure => simp [intOf]; omega
      · have e : k = n := by omega
        subst e
        go_wp2
        go_ret
        exact ⟨l', rfl, Or.inr ⟨⟨hl0, hl1⟩, by omega⟩, hbel⟩

set_option maxHeartbeats 1000000 in
theorem szPath_le (a : Option Addr) (n c : Nat) (I : Nat → Int) (X : Nat → ByteArray) (R : Nat → ByteArray) (l : Int) (w : World) (h : RdN w a n I X R) (hn : n ≤ maxLen) (hX : ∀ i, i < n → (X i).size ≤ maxLen ∧ (R i).size ≤ maxLen) (h0 : 0 ≤ l) (h1 : l ≤ 1048576) :
    Calls Try.prog 9 #[.agg #[.slice a n c], .int .i64 l] w fun e w' => ∃ r : Int, e = .returned (.int .i64 r) ∧ (r = -1 ∨ ((0 ≤ r ∧ r ≤ 1048576) ∧ n ≤ 1048576)) ∧ Below w.heap.size w w' := by
  go_enter Try.func9, Try.ntmps9
  go_wp2_with fail
  refine (szPNodeS_le a n c I X R l _ (h.below (below_alloc _ _)) hn hX h0 h1).mono ?_
  rintro e w1 ⟨r, rfl, hr, hb1⟩
  have HB1 : Hid (Below w.heap.size w w1) := (below_alloc _ _).trans (hb1.mono (by simp))
  clear hb1
  rcases hr with rfl | ⟨⟨hr, hr9⟩, hrn⟩
  · go_wp2
    go_ret
    exact ⟨-1, rfl, Or.inl rfl, HB1.out⟩
  · have hr1 : ¬ r < 0 := by omega
    go_wp2
    go_ret
    exact ⟨r, rfl, Or.inr ⟨⟨hr, hr9⟩, hrn⟩, HB1.out⟩
set_option maxHeartbeats 4000000 in
theorem meLaw0 (L : List ByteArray) (a : Option Addr) (n c : Nat) (I : Nat → Int) (X R : Nat → ByteArray) (fa : Option Addr) (fn fc : Nat) (fs : List Fc) (w : World) (ha : RdN w a n I X R) (hX : ∀ i, i < n → (X i).size ≤ maxLen ∧ (R i).size ≤ maxLen) (hn : n ≤ maxLen) (hfa : RdF w fa fs) (hfn : fn = fs.length) (hfb : ∀ f, f ∈ fs → FcBig f) (hfm : fn ≤ maxLen)
    (hspec : n ≤ 1048576 → fn ≤ 1048576 → ∀ W a fa, RdN W a n I X R → RdF W fa fs → Calls Try.prog 30 #[.agg #[.slice a n n], .slice fa fn fn] W fun e w' => ∃ aS cS, e = .returned (.slice aS L.length cS) ∧ RdG w' aS L ∧ L.length ≤ 60000 ∧ Below W.heap.size W w') (himpl : n ≤ 1048576 → fn ≤ 1048576 → ∀ W a fa, RdN W a n I X R → RdF W fa fs → Calls Try.prog 32 #[.agg #[.slice a n n], .slice fa fn fn] W fun e w' => ∃ ad cc, e = .returned (.slice ad L.length cc) ∧ OwG w' W.heap.size ad L ∧ Below W.heap.size W w') :
    Calls Try.prog 7 #[.agg #[.slice a n c], .slice fa fn fc] w fun e w' => e = .returned (.bool true) ∧ Below w.heap.size w w' := by
  have HA : Hid (RdN w a n I X R) := ha
  have HXs : Hid (∀ i, i < n → (X i).size ≤ maxLen ∧ (R i).size ≤ maxLen) := hX
  have HFA : Hid (RdF w fa fs ∧ fn = fs.length ∧ (∀ f, f ∈ fs → FcBig f) ∧ fn ≤ maxLen) := ⟨hfa, hfn, hfb, hfm⟩
  have HSP : Hid (n ≤ 1048576 → fn ≤ 1048576 → ∀ W a fa, RdN W a n I X R → RdF W fa fs → Calls Try.prog 30 #[.agg #[.slice a n n], .slice fa fn fn] W fun e w' => ∃ aS cS, e = .returned (.slice aS L.length cS) ∧ RdG w' aS L ∧ L.length ≤ 60000 ∧ Below W.heap.size W w') := hspec
  have HIM : Hid (n ≤ 1048576 → fn ≤ 1048576 → ∀ W a fa, RdN W a n I X R → RdF W fa fs → Calls Try.prog 32 #[.agg #[.slice a n n], .slice fa fn fn] W fun e w' => ∃ ad cc, e = .returned (.slice ad L.length cc) ∧ OwG w' W.heap.size ad L ∧ Below W.heap.size W w') := himpl
  clear ha hX hspec himpl hfa hfn hfb hfm
  go_enter Try.func7, Try.ntmps7
  go_wp2_with fail
  refine (szPath_le a n c I X R 1048576 _ (HA.out.below (below_alloc _ _)) hn HXs.out (by omega) (by omega)).mono ?_
  rintro e w1 ⟨r, rfl, hr, hb1⟩
  rw [show ∀ O, (w.alloc O).heap.size = w.heap.size + 1 from fun O => by simp] at hb1
  have K1 : Hid (Below (w.heap.size + 1) (w.alloc (.cells #[.slice a n c] 24)) w1) := hb1
  have HJ : Hid (∀ {W : World}, Below (w.heap.size + 1) (w.alloc (.cells #[.slice a n c] 24)) W → Below w.heap.size w W) := fun h => (below_alloc _ _).trans (h.mono (by omega))
  have HZ : Hid (∀ {W : World}, Below (w.heap.size + 1) (w.alloc (.cells #[.slice a n c] 24)) W → w.heap.size + 1 ≤ W.heap.size) := fun h => by have := h.size; simpa using this
  clear hb1
  rcases hr with rfl | ⟨⟨hr0, hr9⟩, hn1⟩
  · go_wp2
    go_ret
    exact ⟨rfl, HJ.out K1.out⟩
  have hr1 : ¬ r < 0 := by omega
  clear hn
  go_wp2_with fail
  refine (szFactS_any fa fn fc fs r w1 (HFA.out.1.below (HJ.out K1.out)) HFA.out.2.1 HFA.out.2.2.2 HFA.out.2.2.1 hr0 hr9).mono ?_
  rintro e w1b ⟨rb, rfl, hrb, hb1⟩
  have K1b : Hid (Below (w.heap.size + 1) (w.alloc (.cells #[.slice a n c] 24)) w1b) := K1.out.trans (hb1.mono (HZ.out K1.out))
  clear hb1 K1
  obtain ⟨x0, xz1⟩ := pbox K1b.out
  rcases hrb with rfl | ⟨hrb0, hn2⟩
  · clear x0
    go_wp2
    go_ret
    exact ⟨rfl, HJ.out K1b.out⟩
  have hrb1 : ¬ rb < 0 := by omega
  go_wp2_with fail
  refine (toPath_any a n c I X R w1b (HA.out.below (HJ.out K1b.out)) hn1).mono ?_
  rintro e w2 ⟨g2, rfl, hg2, hr2, hb2⟩
  have K2 : Hid (Below (w.heap.size + 1) (w.alloc (.cells #[.slice a n c] 24)) w2) := K1b.out.trans (hb2.mono (HZ.out K1b.out))
  have H2 : Hid (rowIn w2 g2 61 (n * 3) (pnCell I X R)) := hr2
  clear x0 hr2 hb2 K1b
  go_wp2_with fail
  refine (toFactS_any fa fn fc fs w2 (HFA.out.1.below (HJ.out K2.out)) HFA.out.2.1 hn2).mono ?_
  rintro e w2b ⟨rfl, hr2, hb2⟩
  have K2b : Hid (Below (w.heap.size + 1) (w.alloc (.cells #[.slice a n c] 24)) w2b) := K2.out.trans (hb2.mono (HZ.out K2.out))
  have H2b : Hid (RdN w2b (some ⟨g2, 0, none⟩) n I X R ∧ RdF w2b (some ⟨w2.heap.size, 0, none⟩) fs) := ⟨(rdN_row H2.out).below hb2, rdF_row hr2 HFA.out.2.1⟩
  clear hr2 hb2 H2 K2
  go_wp2_with fail
  refine (HSP.out hn1 hn2 w2b (some ⟨g2, 0, none⟩) (some ⟨w2.heap.size, 0, none⟩) H2b.out.1 H2b.out.2).mono ?_
  rintro e w3 ⟨aS, cS, rfl, hS3, hpl, hb3⟩
  have K3 : Hid (Below (w.heap.size + 1) (w.alloc (.cells #[.slice a n c] 24)) w3) := K2b.out.trans (hb3.mono (HZ.out K2b.out))
  obtain ⟨x0, xz3⟩ := pbox K3.out
  have S3 : Hid (RdG w3 aS L) := hS3
  clear hb3 hS3 K2b H2b
  go_wp2_with fail
  refine (toPath_any a n c I X R w3 (HA.out.below (HJ.out K3.out)) hn1).mono ?_
  rintro e w4 ⟨g4, rfl, hg4, hr4, hb4⟩
  have K4 : Hid (Below (w.heap.size + 1) (w.alloc (.cells #[.slice a n c] 24)) w4) := K3.out.trans (hb4.mono (HZ.out K3.out))
  have H4 : Hid (rowIn w4 g4 61 (n * 3) (pnCell I X R) ∧ w3.heap.size ≤ g4 ∧ g4 < w4.heap.size) := ⟨hr4, hg4, hr4.lt⟩
  have L4 : Hid (Below w3.heap.size w3 w4) := hb4
  clear x0 hr4 hb4 hg4
  obtain ⟨W4, hW4⟩ : ∃ W4, W4 = w4.alloc (.cells #[.slice (some ⟨g4, 0, none⟩) n n] 29) := ⟨_, rfl⟩
  obtain ⟨bX, hbX⟩ : ∃ bX, bX = w4.heap.size := ⟨_, rfl⟩
  have HW4 : Hid (Below w4.heap.size w4 W4 ∧ W4.heap[bX]? = some (.cells #[.slice (some ⟨g4, 0, none⟩) n n] 29) ∧ W4.heap.size = bX + 1 ∧ bX = w4.heap.size) := by
    rw [hW4, hbX]
    exact ⟨below_alloc _ _, Array.getElem?_push_size, by simp, rfl⟩
  go_upto_region 10 with fail
  rw [← hW4, ← hbX]
  clear hW4 hbX
  have K4b : Hid (Below (w.heap.size + 1) (w.alloc (.cells #[.slice a n c] 24)) W4) := K4.out.trans (HW4.out.1.mono (HZ.out K4.out))
  go_wp2_with fail
  refine (toFactS_any fa fn fc fs W4 (HFA.out.1.below (HJ.out K4b.out)) HFA.out.2.1 hn2).mono ?_
  obtain ⟨gF, hgF⟩ : ∃ gF, gF = W4.heap.size := ⟨_, rfl⟩
  rw [← hgF]
  rintro e w4c ⟨rfl, hrF, hbF⟩
  rw [hgF] at hbF
  have K4c : Hid (Below (w.heap.size + 1) (w.alloc (.cells #[.slice a n c] 24)) w4c) := K4b.out.trans (hbF.mono (HZ.out K4b.out))
  have X4 : Hid (w4c.heap[bX]? = some (.cells #[.slice (some ⟨g4, 0, none⟩) n n] 29) ∧ rowIn w4c g4 61 (n * 3) (pnCell I X R) ∧ rowIn w4c gF 98 (fn * 4) (fcF (gtF fs)) ∧ (g4 < bX ∧ bX < gF ∧ gF < w4c.heap.size ∧ w3.heap.size ≤ g4) ∧ Below w3.heap.size w3 w4c) := by
    have e1 := HW4.out.2.2.1
    have e2 := HW4.out.2.2.2
    have h4 := H4.out
    refine ⟨(hbF.block bX (by omega)).trans HW4.out.2.1, h4.1.of_block ((hbF.block g4 (by omega)).trans (HW4.out.1.block g4 h4.2.2)), hrF, ⟨by omega, by omega, hrF.lt, h4.2.1⟩, L4.out.trans ((HW4.out.1.trans (hbF.mono HW4.out.1.size)).mono L4.out.size)⟩
  clear hgF hrF hbF HW4 H4 L4 K4 K4b
  have x4 : w4c.cell? ⟨bX, 0, none⟩ = some (.slice (some ⟨g4, 0, none⟩) n n) := by simp [World.cell?, X4.out.1]
  have l4 : bX < w4c.heap.size := by have := X4.out.2.2.2.1; omega
  go_wp2_with fail
  refine (HIM.out hn1 hn2 w4c (some ⟨g4, 0, none⟩) (some ⟨gF, 0, none⟩) (rdN_row X4.out.2.1) (rdF_row X4.out.2.2.1 HFA.out.2.1)).mono ?_
  rintro e w5 ⟨aG, cG, rfl, hG5, hb5⟩
  have K5 : Hid (Below (w.heap.size + 1) (w.alloc (.cells #[.slice a n c] 24)) w5) := K4c.out.trans (hb5.mono (HZ.out K4c.out))
  have P5 : Hid (LSt w w5 a n c g4 gF aS aG L ∧ OwG w5 (w.heap.size + 1) aG L ∧ (rowIn w5 g4 61 (n * 3) (pnCell I X R) ∧ rowIn w5 gF 98 (fn * 4) (fcF (gtF fs))) ∧ w5.heap[bX]? = some (.cells #[.slice (some ⟨g4, 0, none⟩) n n] 29)) := by
    have z3 := HZ.out K3.out
    have z4 := HZ.out K4c.out
    obtain ⟨q1, q2, q3, ⟨q4, q5, q6, q7⟩, q8⟩ := X4.out
    refine ⟨⟨K5.out, ⟨by omega, by omega⟩, ?_, ?_⟩, ?_, ⟨q2.of_block (hb5.block _ q2.lt), q3.of_block (hb5.block _ q3.lt)⟩, (hb5.block bX (by omega)).trans q1⟩
    · by_cases hp : L = []
      · exact .inl hp
      have h00 : 0 < L.length := by
        cases L with
        | nil => exact absurd rfl hp
        | cons x l => simp
      rcases S3.out with h0 | ⟨b, o, e, hc⟩
      · omega
      have hlt := World.block_lt_of_cell? _ _ (hc 0 h00)
      have hlt2 : b < w3.heap.size := hlt
      refine .inr ⟨b, o, e, ⟨by omega, by omega⟩, fun g q => ?_, fun i hi => ?_⟩
      · rcases hG5 with q0 | ⟨g', q1, q2, _⟩
        · exact absurd q0 hp
        · rw [q1] at q
          injection q with q
          injection q with q
          omega
      · have h1 := (q8.cell (World.block_lt_of_cell? _ _ (hc i hi))).trans (hc i hi)
        exact (hb5.cell (World.block_lt_of_cell? _ _ h1)).trans h1
    · rcases hG5 with q0 | ⟨g', q1, q2, _⟩
      · exact .inl q0
      · exact .inr ⟨g', q1, by omega, ⟨by omega, by omega⟩⟩
    · rcases hG5 with q0 | ⟨g', q1, q2, q3⟩
      · exact .inl q0
      · exact .inr ⟨g', q1, by omega, q3⟩
  clear hb5 hG5 X4 S3 x4 l4 K4c K3
  go_wp2_with fail
  refine (eqStr_y aG aS cG cS L w5 P5.out.2.1.rd P5.out.1.rd hpl).mono ?_
  rintro e w6 ⟨rfl, hb6⟩
  have P6 : Hid (LSt w w6 a n c g4 gF aS aG L ∧ OwG w6 (w.heap.size + 1) aG L ∧ (rowIn w6 g4 61 (n * 3) (pnCell I X R) ∧ rowIn w6 gF 98 (fn * 4) (fcF (gtF fs))) ∧ w6.heap[bX]? = some (.cells #[.slice (some ⟨g4, 0, none⟩) n n] 29)) := ⟨P5.out.1.keep hb6, P5.out.2.1.below hb6, ⟨P5.out.2.2.1.1.of_block (hb6.block _ P5.out.2.2.1.1.lt), P5.out.2.2.1.2.of_block (hb6.block _ P5.out.2.2.1.2.lt)⟩, (hb6.block bX (Array.getElem?_eq_some_iff.1 P5.out.2.2.2).1).trans P5.out.2.2.2⟩
  clear hb6 P5
  have HKX : Hid (∀ W, Below w6.heap.size w6 W → W.cell? ⟨bX, 0, none⟩ = some (.slice (some ⟨g4, 0, none⟩) n n) ∧ W.cell? ⟨w.heap.size, 0, none⟩ = some (.slice a n c) ∧ RdN W a n I X R ∧ RdN W (some ⟨g4, 0, none⟩) n I X R) := fun W hW => by
    have h1 := (hW.block bX (Array.getElem?_eq_some_iff.1 P6.out.2.2.2).1).trans P6.out.2.2.2
    have h2 := P6.out.1.keep hW
    refine ⟨by simp [World.cell?, h1], (pbox h2.k).1, HA.out.below (HJ.out h2.k), rdN_row (P6.out.2.2.1.1.of_block (hW.block _ P6.out.2.2.1.1.lt))⟩
  have J0 : Hid (Below w6.heap.size w6 w6.drew) := (Below.refl _ _).drew
  go_upto_region 14 with fail
  go_region_held3 (fun w' => w'.cell? ⟨bX, 0, none⟩ = some (.slice (some ⟨g4, 0, none⟩) n n) ∧ w'.cell? ⟨w.heap.size, 0, none⟩ = some (.slice a n c)) (first | exact ⟨(HKX.out _ J8.out).1, (HKX.out _ J8.out).2.1⟩ | exact ⟨(HKX.out _ J7.out.1).1, (HKX.out _ J7.out.1).2.1⟩ | exact ⟨(HKX.out _ J0.out).1, (HKX.out _ J0.out).2.1⟩ | go_keep)
    (first
    | (go_at_call 11; (with_reducible refine (toPath_any a n c I X R _ ((HKX.out _ J0.out).2.2.1) hn1).mono ?_); rintro e w7 ⟨g7, rfl, hg7, hr7, hb7⟩; have J7 : Hid (Below w6.heap.size w6 w7 ∧ RdN w7 (some ⟨g7, 0, none⟩) n I X R) := ⟨J0.out.trans (hb7.mono J0.out.size), rdN_row hr7⟩; clear hg7 hr7 hb7)
    | (go_at_call 13; (with_reducible refine (eqPath_yes (some ⟨g4, 0, none⟩) (some ⟨g7, 0, none⟩) n n n I X R _ ((HKX.out _ J7.out.1).2.2.2) J7.out.2 hn1).mono ?_); rintro e w8 ⟨rfl, hb8⟩; have J8 : Hid (Below w6.heap.size w6 w8) := J7.out.1.trans (hb8.mono J7.out.1.size); clear hb8)
    | fail)
  have P8 : Hid (LSt w w8 a n c g4 gF aS aG L ∧ OwG w8 (w.heap.size + 1) aG L ∧ (rowIn w8 g4 61 (n * 3) (pnCell I X R) ∧ rowIn w8 gF 98 (fn * 4) (fcF (gtF fs))) ∧ w8.heap[bX]? = some (.cells #[.slice (some ⟨g4, 0, none⟩) n n] 29)) := ⟨P6.out.1.keep J8.out, P6.out.2.1.below J8.out, ⟨P6.out.2.2.1.1.of_block (J8.out.block _ P6.out.2.2.1.1.lt), P6.out.2.2.1.2.of_block (J8.out.block _ P6.out.2.2.1.2.lt)⟩, (J8.out.block bX (Array.getElem?_eq_some_iff.1 P6.out.2.2.2).1).trans P6.out.2.2.2⟩
  clear P6 HKX J0 J7 J8
  go_wp2_with fail
  refine (toFactS_any fa fn fc fs w8 (HFA.out.1.below (HJ.out P8.out.1.k)) HFA.out.2.1 hn2).mono ?_
  rintro e w8b ⟨rfl, hr8, hb8⟩
  have P8b : Hid (LSt w w8b a n c g4 gF aS aG L ∧ OwG w8b (w.heap.size + 1) aG L ∧ (rowIn w8b g4 61 (n * 3) (pnCell I X R) ∧ rowIn w8b gF 98 (fn * 4) (fcF (gtF fs))) ∧ w8b.heap[bX]? = some (.cells #[.slice (some ⟨g4, 0, none⟩) n n] 29) ∧ RdF w8b (some ⟨w8.heap.size, 0, none⟩) fs) := ⟨P8.out.1.keep hb8, P8.out.2.1.below hb8, ⟨P8.out.2.2.1.1.of_block (hb8.block _ P8.out.2.2.1.1.lt), P8.out.2.2.1.2.of_block (hb8.block _ P8.out.2.2.1.2.lt)⟩, (hb8.block bX (Array.getElem?_eq_some_iff.1 P8.out.2.2.2).1).trans P8.out.2.2.2, rdF_row hr8 HFA.out.2.1⟩
  clear hr8 hb8 P8
  go_wp2_with fail
  refine (eqFactS_yes (some ⟨gF, 0, none⟩) (some ⟨w8.heap.size, 0, none⟩) fn fn fn fs w8b (rdF_row P8b.out.2.2.1.2 HFA.out.2.1) P8b.out.2.2.2.2 HFA.out.2.1 hn2).mono ?_
  rintro e w9 ⟨rfl, hb9⟩
  have P9 : Hid (LSt w w9 a n c g4 gF aS aG L ∧ OwG w9 (w.heap.size + 1) aG L ∧ (rowIn w9 g4 61 (n * 3) (pnCell I X R) ∧ rowIn w9 gF 98 (fn * 4) (fcF (gtF fs))) ∧ w9.heap[bX]? = some (.cells #[.slice (some ⟨g4, 0, none⟩) n n] 29)) := ⟨P8b.out.1.keep hb9, P8b.out.2.1.below hb9, ⟨P8b.out.2.2.1.1.of_block (hb9.block _ P8b.out.2.2.1.1.lt), P8b.out.2.2.1.2.of_block (hb9.block _ P8b.out.2.2.1.2.lt)⟩, (hb9.block bX (Array.getElem?_eq_some_iff.1 P8b.out.2.2.2.1).1).trans P8b.out.2.2.2.1⟩
  clear hb9 P8b
  have x9 : w9.cell? ⟨bX, 0, none⟩ = some (.slice (some ⟨g4, 0, none⟩) n n) := by simp [World.cell?, P9.out.2.2.2]
  have l9 : bX < w9.heap.size := (Array.getElem?_eq_some_iff.1 P9.out.2.2.2).1
  go_wp2_with fail
  refine (markPath_any g4 n n w9 ⟨I, X, R, P9.out.2.2.1.1⟩ (by omega)).mono ?_
  rintro e w10 ⟨rfl, hg10⟩
  have P10 : Hid (LSt w w10 a n c g4 gF aS aG L ∧ OwG w10 (w.heap.size + 1) aG L ∧ FRow w10 gF fn) := by
    have hd : gF ≠ g4 := fun e => by
      obtain ⟨c1, e1, _⟩ := P9.out.2.2.1.1
      obtain ⟨c2, e2, _⟩ := P9.out.2.2.1.2
      rw [e, e1] at e2
      injection e2 with e2
      injection e2 with _ e2 _
      exact absurd e2 (by decide)
    refine ⟨P9.out.1.grown hg10 (fun g e => .inl (.inl (by injection e with e; exact e.symm))), ?_, FRow.of (P9.out.2.2.1.2.of_block (hg10.block gF P9.out.2.2.1.2.lt (fun q => hd (by injection q))))⟩
    rcases P9.out.2.1 with h0 | ⟨g, e, h1, h2⟩
    · exact .inl h0
    · refine .inr ⟨g, e, h1, h2.of_block (hg10.block g h2.lt (fun q => ?_))⟩
      obtain ⟨c1, e1, _⟩ := P9.out.2.2.1.1
      obtain ⟨c2, e2, _⟩ := h2
      injection q with q
      rw [q, e1] at e2
      injection e2 with e2
      injection e2 with _ e2 _
      exact absurd e2 (by decide)
  clear hg10 P9 x9 l9
  obtain ⟨kk, hkk⟩ : ∃ kk : Nat, 1 + 3 * (n : Int) = (kk : Int) ∧ 1 ≤ kk ∧ kk ≤ 3145729 := ⟨1 + 3 * n, by omega, by omega, by omega⟩
  rw [hkk.1]
  have hk2 := hkk.2
  clear hkk
  go_wp2_with fail
  refine (markFactS_any gF fn fn kk w10 P10.out.2.2 (by omega) (by omega)).mono ?_
  rintro e w11 ⟨q11, rfl, hF11, hg11⟩
  have P11 : Hid (LSt w w11 a n c g4 gF aS aG L ∧ OwG w11 (w.heap.size + 1) aG L) := by
    refine ⟨P10.out.1.grown hg11 (fun g e => .inl (.inr (by injection e with e; exact e.symm))), ?_⟩
    rcases P10.out.2.1 with h0 | ⟨g, e, h1, h2⟩
    · exact .inl h0
    · refine .inr ⟨g, e, h1, h2.of_block (hg11.block g h2.lt (fun q => ?_))⟩
      obtain ⟨_, c1, e1, _⟩ := P10.out.2.2
      obtain ⟨c2, e2, _⟩ := h2
      injection q with q
      rw [q, e1] at e2
      injection e2 with e2
      injection e2 with _ e2 _
      exact absurd e2 (by decide)
  clear hg11 hF11 P10
  have hneg : ¬ ((q11 : Int) < 0) := by omega
  go_wp2_with fail
  refine (eqStr_y aG aS cG cS L w11 P11.out.2.rd P11.out.1.rd hpl).mono ?_
  rintro e w12 ⟨rfl, hb12⟩
  have P12 : Hid (LSt w w12 a n c g4 gF aS aG L ∧ OwG w12 (w.heap.size + 1) aG L) := ⟨P11.out.1.keep hb12, P11.out.2.below hb12⟩
  clear hb12 P11
  have HMk : Hid (Calls Try.prog 36 #[.slice aG L.length cG, .int .i64 1] w12 fun e w' => e = .returned (.int .i64 ((1 + L.length : Nat) : Int)) ∧ LSt w w' a n c g4 gF aS aG L ∧ RdS w' aG L.length (fun i => mkT (1 + i))) := by
    refine (markStrs_any aG L.length cG 1 (gt L) w12 P12.out.2.v (by omega) (by omega)).mono ?_
    rintro e w' ⟨rfl, hg, h0, ho⟩
    refine ⟨rfl, ?_, ?_⟩
    · by_cases hp : L = []
      · rw [h0 (by rw [hp]; rfl)]
        exact P12.out.1
      · refine P12.out.1.grown hg (fun g e => .inr ⟨hp, ?_⟩)
        rcases P12.out.1.g with q | ⟨g', e', _⟩
        · exact absurd q hp
        · rw [e'] at e ⊢
          injection e with e
          have e2 : g' = g := e
          rw [e2]
    · rcases ho with q | ⟨g, e, hr⟩
      · exact .inl q
      · exact .inr ⟨g, 0, e, fun i hi => by rw [Nat.zero_add]; exact hr.cell hi⟩
  go_wp2_with fail
  refine HMk.out.mono ?_
  rintro e w13 ⟨rfl, hP13, hM13⟩
  have P13 : Hid (LSt w w13 a n c g4 gF aS aG L ∧ RdS w13 aG L.length (fun i => mkT (1 + i))) := ⟨hP13, hM13⟩
  clear hP13 hM13 P12 HMk
  have HHd : Hid (Calls Try.prog 37 #[.slice aG L.length cG, .int .i64 1] w13 fun e w' => e = .returned (.int .i64 ((1 + L.length : Nat) : Int)) ∧ Below w13.heap.size w13 w') := heldStrs_any aG L.length cG 1 w13 P13.out.2 (by omega) (by omega)
  obtain ⟨mm, hmm⟩ : ∃ mm : Nat, mm = 1 + L.length := ⟨_, rfl⟩
  rw [← hmm] at HHd ⊢
  clear hmm
  have hneg2 : ¬ ((mm : Int) < 0) := by omega
  have hbb : ((mm : Int) != (mm : Int)) = false := by simp
  go_wp2_with fail
  refine HHd.out.mono ?_
  rintro e w14 ⟨rfl, hb14⟩
  have P14 : Hid (LSt w w14 a n c g4 gF aS aG L) := P13.out.1.keep hb14
  clear hb14 P13 HHd
  obtain ⟨x0, xz⟩ := pbox P14.out.k
  go_wp2_with fail
  refine (toPath_any a n c I X R w14 (HA.out.below (HJ.out P14.out.k)) hn1).mono ?_
  rintro e w15 ⟨g15, rfl, hg15, hr15, hb15⟩
  have P15 : Hid (LSt w w15 a n c g4 gF aS aG L ∧ RdN w15 (some ⟨g15, 0, none⟩) n I X R) := ⟨P14.out.keep hb15, rdN_row hr15⟩
  clear x0 xz hg15 hr15 hb15 P14
  go_wp2_with fail
  refine (toFactS_any fa fn fc fs w15 (HFA.out.1.below (HJ.out P15.out.1.k)) HFA.out.2.1 hn2).mono ?_
  rintro e w16 ⟨rfl, hr16, hb16⟩
  have P16 : Hid (LSt w w16 a n c g4 gF aS aG L ∧ RdN w16 (some ⟨g15, 0, none⟩) n I X R ∧ RdF w16 (some ⟨w15.heap.size, 0, none⟩) fs) := ⟨P15.out.1.keep hb16, P15.out.2.below hb16, rdF_row hr16 HFA.out.2.1⟩
  clear hr16 hb16 P15
  go_wp2_with fail
  refine (HIM.out hn1 hn2 w16 (some ⟨g15, 0, none⟩) (some ⟨w15.heap.size, 0, none⟩) P16.out.2.1 P16.out.2.2).mono ?_
  rintro e w17 ⟨aH, cH, rfl, hH17, hb17⟩
  have P17 : Hid (LSt w w17 a n c g4 gF aS aG L ∧ RdG w17 aH L) := ⟨P16.out.1.keep hb17, hH17.rd⟩
  clear hH17 hb17 P16
  go_wp2_with fail
  refine (eqStr_y aH aS cH cS L w17 P17.out.2 P17.out.1.rd hpl).mono ?_
  rintro e w18 ⟨rfl, hb18⟩
  have HE : Hid (Below w.heap.size w w18) := HJ.out (P17.out.1.keep hb18).k
  clear hb18 P17
  go_wp2
  go_ret
  exact ⟨rfl, HE.out⟩
end Go.Proofs.Ytocmbnocdjnfpaa
