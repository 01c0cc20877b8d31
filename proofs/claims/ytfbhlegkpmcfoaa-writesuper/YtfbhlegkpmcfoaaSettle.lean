import Derived.Test.YtfbhlegkpmcfoaaOver
import Derived.Laws.CopyOwn
import Derived.Deep.RegionHeld3
namespace Go.Proofs.Ytfbhlegkpmcfoaa
open Go.RowKit Go.Deep
set_option linter.unusedVariables false
set_option maxRecDepth 100000

theorem copied_row (cur : Array Value) (n s : Nat) (d f : Nat → Int) (hn : n ≤ cur.size) (hc : ∀ i, i < n → cur[i]? = some (.int .u8 (d i))) (hs : s * 64 + 64 ≤ n) :
    n ≤ (cur.toList.take (s * 64) ++ (byteRow f 64 ++ cur.toList.drop (s * 64 + (byteRow f 64).length))).toArray.size ∧
    ∀ i, i < n → (cur.toList.take (s * 64) ++ (byteRow f 64 ++ cur.toList.drop (s * 64 + (byteRow f 64).length))).toArray[i]? = some (.int .u8 (over d s f i)) := by
  rw [byteRow_length]
  refine ⟨by simp [byteRow_length]; omega, fun i hi => ?_⟩
  rw [List.getElem?_toArray]
  have hl : (cur.toList.take (s * 64)).length = s * 64 := by simp; omega
  by_cases h1 : i < s * 64
  · rw [List.getElem?_append_left (by omega), List.getElem?_take, if_pos h1]
    simp only [over, h1, if_true]
    rw [← hc i hi]
    simp
  · rw [List.getElem?_append_right (by omega), hl]
    by_cases h2 : i < s * 64 + 64
    · rw [List.getElem?_append_left (by rw [byteRow_length]; omega), byteRow_get _ _ _ (by omega)]
      simp [over, h1, h2]
    · rw [List.getElem?_append_right (by rw [byteRow_length]; omega), byteRow_length, List.getElem?_drop, show s * 64 + 64 + (i - s * 64 - 64) = i by omega]
      simp only [over, h1, h2, if_false]
      rw [← hc i hi]
      simp

/-- 'copy' of a sector's bytes into bytes of the call's own, as a step of a region that draws its order. -/
theorem step_copy_rd {ops : Array Oper} {o : Oper} {a : Act} {w : World} {K : Act → World → Prop} {Q : Exit → Act → World → Prop} {E : Prop} (hgd : o.guard = none) (x y : Operand)
    (ho : o.op = .call { callee := .builtin .copy, args := #[x, y], argTypes := #[28, 28] })
    (g n s dLen dCap sCap : Nat) (ad : Option Addr) (d f : Nat → Int) (hx : a.eval x = .slice (some ⟨g, s * 64, none⟩) dLen dCap) (hy : a.eval y = .slice ad 64 sCap) (hl : 64 ≤ dLen)
    (hrow : rowIn w g 5 n (fun i => .int .u8 (d i))) (hrd : Rd .u8 w ad 64 f) (hfit : s * 64 + 64 ≤ n)
    (h : ∀ w', rowIn w' g 5 n (fun i => .int .u8 (over d s f i)) → OnlyAt (some ⟨g, 0, none⟩) w w' → K (a.put o.dst (goInt 64)) w') :
    if Region.wanted o (yielded ops a.tmps) = true then Oper.wp Try.prog o a w K Q else E := by
  have hw : Region.wanted o (yielded ops a.tmps) = true := by simp [Region.wanted, hgd]
  rw [if_pos hw]
  rcases hrd with h0 | ⟨b, off, rfl, hc⟩
  · omega
  obtain ⟨cur, hg, hn, hcur⟩ := hrow
  have hrun := run_copy_row (P := Try.prog) w 28 28 o.type 5 g (s * 64) dLen dCap ⟨b, off, none⟩ 64 sCap cur 5 (byteRow f 64) Try.underlying28 (by kernel_rfl) hg (by rw [byteRow_length]; exact (Nat.min_eq_left hl).symm)
    (fun j u hj => by
      have hjm : j < 64 := by
        have := (List.getElem?_eq_some_iff.1 hj).1
        rwa [byteRow_length] at this
      rw [byteRow_get f 64 j hjm] at hj
      injection hj with hj
      subst hj
      have e : (Addr.add ⟨b, off, none⟩ j) = ⟨b, off + j, none⟩ := by
        unfold Addr.add
        by_cases h : j = 0
        · subst h; simp
        · simp [h]
      rw [e]
      exact hc j hjm) (by rw [byteRow_length]; omega)
    (fun u hu => by
      simp only [byteRow, List.mem_map] at hu
      obtain ⟨i, _, rfl⟩ := hu
      rfl)
  unfold Oper.wp
  simp [execOp, ho, resolve, invoke, builtin, hx, hy, hrun, Result.andThen]
  rw [byteRow_length]
  have hq := copied_row cur n s d f hn hcur hfit
  refine h _ ⟨_, setRow_heap w g _ _ _ _ hg, ?_, ?_⟩ ⟨rfl, rfl, rfl, by simp [World.setRow], fun k hk => setRow_other w g k _ (fun e => hk _ rfl (by simp [e]))⟩
  · simpa [byteRow_length] using hq.1
  · simpa [byteRow_length] using hq.2

set_option maxHeartbeats 1000000 in
theorem settle_any (g n c s cp : Nat) (ad : Option Addr) (d f : Nat → Int) (w : World) (hrow : rowIn w g 5 n (fun i => .int .u8 (d i))) (hrd : Rd .u8 w ad 64 f) (hfit : s * 64 + 64 ≤ n) (hnc : n ≤ c) (hcm : c ≤ 9223372036854775807) (hn : n ≤ 1048576) :
    Calls Try.prog 89 #[.slice (some ⟨g, 0, none⟩) n c, .agg #[.int .i64 s, .slice ad 64 cp]] w fun e w' => e = .returned (.tuple #[]) ∧ rowIn w' g 5 n (fun i => .int .u8 (over d s f i)) ∧ OnlyAt (some ⟨g, 0, none⟩) (w.alloc (.cells #[.int .i64 s, .slice ad 64 cp] 86)) w' := by
  have hlt := hrow.lt
  have HROW : Hid (∀ O, rowIn (w.alloc O).drew g 5 n (fun i => .int .u8 (d i))) := fun O => hrow.of_block (Below.heap_alloc _ _ _ hlt)
  have HRD : Hid (∀ O, Rd .u8 (w.alloc O).drew ad 64 f) := fun O => hrd.below (below_alloc _ _).drew
  have i1 : (s : Int) * 64 < (c : Int) := by omega
  have i0 : (0 : Int) ≤ (s : Int) * 64 := by omega
  have i2 : (s : Int) * 64 ≤ (n : Int) := by omega
  have j1 : ¬ c = s * 64 := by omega
  have j2 : IntKind.i64.wrap ((s : Int) * 64) = (s : Int) * 64 := by rw [IntKind.wrap_i64]; omega
  have j3 : ((s : Int) * 64).toNat = s * 64 := by omega
  have HC : Hid (∀ w1 : World, OnlyAt (some ⟨g, 0, none⟩) (w.alloc (.cells #[.int .i64 s, .slice ad 64 cp] 86)).drew w1 → w1.cell? ⟨w.heap.size, 0, none⟩ = some (.int .i64 s) ∧ w1.cell? ⟨w.heap.size, 1, none⟩ = some (.slice ad 64 cp)) := by
    intro w1 ho
    have hb : w1.heap[w.heap.size]? = ((w.alloc (.cells #[.int .i64 s, .slice ad 64 cp] 86)).drew).heap[w.heap.size]? := ho.block _ (fun x e => by injection e with e; subst e; show g ≠ w.heap.size; omega)
    constructor
    · rw [World.cell?_of_block (w := (w.alloc (.cells #[.int .i64 s, .slice ad 64 cp] 86)).drew) (a := ⟨w.heap.size, 0, none⟩) hb]; simp
    · rw [World.cell?_of_block (w := (w.alloc (.cells #[.int .i64 s, .slice ad 64 cp] 86)).drew) (a := ⟨w.heap.size, 1, none⟩) hb]; simp
  clear hrow hrd
  go_enter Try.func89, Try.ntmps89
  go_wp2
  go_region_held3 (fun w' => w'.cell? ⟨w.heap.size, 0, none⟩ = some (.int .i64 s) ∧ w'.cell? ⟨w.heap.size, 1, none⟩ = some (.slice ad 64 cp)) (go_keep)
    ((refine step_copy_rd (by rfl) (.tmp 8) (.tmp 10) (by rfl) g n s (n - s * 64) (c - s * 64) cp ad d f (by rfl) (by rfl) (by omega) (HROW.out _) (HRD.out _) hfit ?_; intro w1 hr1 ho1; obtain ⟨y0, y1⟩ := HC.out w1 ho1))
  go_end0
  exact ⟨rfl, hr1, ⟨ho1.os, ho1.tape, ho1.output, ho1.size, ho1.block⟩⟩
end Go.Proofs.Ytfbhlegkpmcfoaa
