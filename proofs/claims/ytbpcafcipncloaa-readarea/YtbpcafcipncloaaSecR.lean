import Derived.Test.YtbpcafcipncloaaSecI
import Derived.Test.YtbpcafcipncloaaRead
import Derived.Deep.RegionHeld3
namespace Go.Proofs.Ytbpcafcipncloaa
open Go.RowKit Go.Deep
set_option linter.unusedVariables false
set_option maxRecDepth 100000

/-- 'copy' of 64 bytes into a sector's variable, as a step of a region that draws its order. -/
theorem step_copy_sec {ops : Array Oper} {o : Oper} {a : Act} {w : World} {K : Act → World → Prop} {Q : Exit → Act → World → Prop} {E : Prop} (hgd : o.guard = none) (x y : Operand)
    (ho : o.op = .call { callee := .builtin .copy, args := #[x, y], argTypes := #[24, 24] })
    (g sCap : Nat) (ad : Option Addr) (f0 f : Nat → Int) (hx : a.eval x = .slice (some ⟨g, 0, none⟩) 64 64) (hy : a.eval y = .slice ad 64 sCap) (hs : Sec w g f0) (hrd : Rd .u8 w ad 64 f)
    (h : ∀ w', Sec w' g f → OnlyAt (some ⟨g, 0, none⟩) w w' → K (a.put o.dst (goInt 64)) w') :
    if Region.wanted o (yielded ops a.tmps) = true then Oper.wp Try.prog o a w K Q else E := by
  have hw : Region.wanted o (yielded ops a.tmps) = true := by simp [Region.wanted, hgd]
  rw [if_pos hw]
  rcases hrd with h0 | ⟨b, off, rfl, hc⟩
  · omega
  have hrun := run_copy_row (P := Try.prog) w 24 24 o.type 5 g 0 64 64 ⟨b, off, none⟩ 64 sCap (secA f0) 87 (byteRow f 64) underBytes (by kernel_rfl) hs (by rw [byteRow_length]; rfl)
    (fun j u hj => by
      have hjm : j < 64 := by
        have := (List.getElem?_eq_some_iff.1 hj).1
        rwa [byteRow_length] at this
      rw [byteRow_get f 64 j hjm] at hj
      injection hj with hj
      subst hj
      have e : (Addr.add ⟨b, off, none⟩ j) = ⟨b, off + j, none⟩ := by
        unfold Addr.add
        by_cases h : j = 0
        · subst h; simp
        · simp [h]
      rw [e]
      exact hc j hjm) (by rw [byteRow_length, secA_size]; omega)
    (fun u hu => by
      simp only [byteRow, List.mem_map] at hu
      obtain ⟨i, _, rfl⟩ := hu
      rfl)
  have e2 : ((secA f0).toList.take 0 ++ byteRow f 64 ++ (secA f0).toList.drop (0 + (byteRow f 64).length)).toArray = secA f := by
    rw [byteRow_length, List.drop_eq_nil_of_le (by have := secA_size f0; simp [← Array.length_toList] at this ⊢; omega)]
    simp [secA]
  rw [e2, byteRow_length] at hrun
  unfold Oper.wp
  simp [execOp, ho, resolve, invoke, builtin, hx, hy, hrun, Result.andThen]
  exact h _ (hs.setRow f).1 (hs.setRow f).2

set_option maxHeartbeats 2000000 in
theorem loadSector_any (a p : Option Addr) (n c m q : Nat) (d S : Nat → Int) (L : Nat → Nat) (F : Nat → Nat → Int) (fuel : Int) (dead : Bool) (s : Nat) (w : World) (ha : Rd .u8 w a n d) (hp : RdP w p m S L F) (hv : VD n m S L fuel) (hs : s < n / 64) (hn : n ≤ 1048576) (hnc : n ≤ c) (hcm : c ≤ 9223372036854775807) (hm : m ≤ 1048576) :
    Calls Try.prog 71 #[.agg #[.slice a n c, .slice p m q, .int .i64 fuel, .bool dead], .int .i64 s] w fun e w' => e = .returned (.agg (secA (secF d S F m s))) ∧ Below w.heap.size w w' := by
  have HA : Hid (Rd .u8 w a n d) := ha
  have HP : Hid (RdP w p m S L F) := hp
  have HV : Hid (VD n m S L fuel) := hv
  clear ha hp hv
  go_enter Try.func71, Try.ntmps71
  go_wp2
  rw [zeroSec]
  obtain ⟨W, hW⟩ : ∃ W, W = ((w.alloc (.cells #[.slice a n c, .slice p m q, .int .i64 fuel, .bool dead] 39)).alloc (.cells (secA fun _ => 0) 87)).alloc (.cells (secA fun _ => 0) 87) := ⟨_, rfl⟩
  rw [← hW]
  have BW : Below w.heap.size w W := by rw [hW]; exact (((below_alloc _ _).alloc (by simp) _).alloc (by simp; omega) _)
  have S0 : Sec W (w.heap.size + 1 + 1) (fun _ => 0) := by
    rw [hW]
    have := Sec.new ((w.alloc (.cells #[.slice a n c, .slice p m q, .int .i64 fuel, .bool dead] 39)).alloc (.cells (secA fun _ => 0) 87)) (fun _ => 0)
    simp only [World.size_alloc] at this
    exact this
  have R0 : Sec W (w.heap.size + 1) (fun _ => 0) := by
    rw [hW]
    have := Sec.new (w.alloc (.cells #[.slice a n c, .slice p m q, .int .i64 fuel, .bool dead] 39)) (fun _ => 0)
    simp only [World.size_alloc] at this
    exact this.below (below_alloc _ _)
  have hb : Below (w.heap.size + 1) (w.alloc (.cells #[.slice a n c, .slice p m q, .int .i64 fuel, .bool dead] 39)) W := by
    rw [hW]
    exact (((Below.refl _ _).alloc (by simp) _).alloc (by simp) _)
  obtain ⟨x0, x1, x2, x3, xz⟩ := box4 hb
  have hz : W.heap.size = w.heap.size + 1 + 1 + 1 := by rw [hW]; simp
  have hz2 : w.heap.size + 1 + 1 < W.heap.size := by omega
  clear hW hb
  have HS0 : Hid (Sec W (w.heap.size + 1 + 1) (fun _ => 0) ∧ Sec W (w.heap.size + 1) (fun _ => 0) ∧ Below w.heap.size w W) := ⟨S0, R0, BW⟩
  clear S0 R0 BW
  have HC : Hid (∀ w1 : World, Below W.drew.heap.size W.drew w1 → (w1.cell? ⟨w.heap.size, 0, none⟩ = some (.slice a n c) ∧ w1.cell? ⟨w.heap.size, 1, none⟩ = some (.slice p m q) ∧ w1.cell? ⟨w.heap.size, 2, none⟩ = some (.int .i64 fuel) ∧ w1.cell? ⟨w.heap.size, 3, none⟩ = some (.bool dead)) ∧ Sec w1 (w.heap.size + 1 + 1) (fun _ => 0) ∧ Sec w1 (w.heap.size + 1) (fun _ => 0) ∧ Below w.heap.size w w1) := by
    intro w1 hb
    have hl : w.heap.size < W.drew.heap.size := xz
    exact ⟨⟨(hb.cell (p := ⟨w.heap.size, 0, none⟩) hl).trans x0, (hb.cell (p := ⟨w.heap.size, 1, none⟩) hl).trans x1, (hb.cell (p := ⟨w.heap.size, 2, none⟩) hl).trans x2, (hb.cell (p := ⟨w.heap.size, 3, none⟩) hl).trans x3⟩, Sec.below (w := W.drew) HS0.out.1 hb, Sec.below (w := W.drew) HS0.out.2.1 hb, HS0.out.2.2.drew.trans (hb.mono HS0.out.2.2.size)⟩
  have HD : Hid (∀ w1 w2 : World, Below W.drew.heap.size W.drew w1 → OnlyAt (some ⟨w.heap.size + 1 + 1, 0, none⟩) w1 w2 → (w2.cell? ⟨w.heap.size, 0, none⟩ = some (.slice a n c) ∧ w2.cell? ⟨w.heap.size, 1, none⟩ = some (.slice p m q) ∧ w2.cell? ⟨w.heap.size, 2, none⟩ = some (.int .i64 fuel) ∧ w2.cell? ⟨w.heap.size, 3, none⟩ = some (.bool dead)) ∧ Sec w2 (w.heap.size + 1) (fun _ => 0) ∧ Below w.heap.size w w2) := by
    intro w1 w2 hb ho
    obtain ⟨⟨q0, q1, q2, q3⟩, _, q5, q6⟩ := HC.out w1 hb
    have q : ∀ k, k ≠ w.heap.size + 1 + 1 → w2.heap[k]? = w1.heap[k]? := fun k hk => ho.block k (fun y e => by injection e with e; subst e; exact fun e => hk e.symm)
    have hne : w.heap.size ≠ w.heap.size + 1 + 1 := by omega
    exact ⟨⟨(World.cell?_of_block (a := ⟨w.heap.size, 0, none⟩) (q _ hne)).trans q0, (World.cell?_of_block (a := ⟨w.heap.size, 1, none⟩) (q _ hne)).trans q1, (World.cell?_of_block (a := ⟨w.heap.size, 2, none⟩) (q _ hne)).trans q2, (World.cell?_of_block (a := ⟨w.heap.size, 3, none⟩) (q _ hne)).trans q3⟩, q5.of_block (q _ (by omega)), q6.trans (ho.below (fun y e => by injection e with e; subst e; show w.heap.size ≤ w.heap.size + 1 + 1; omega))⟩
  have HL : Hid (Calls Try.prog 82 #[.agg #[.slice a n c, .slice p m q, .int .i64 fuel, .bool dead], .int .i64 s] W.drew fun e w' => RetRd W.drew e w' 64 (secF d S F m s)) := look_any a p n c m q d S L F fuel dead s W.drew (Rd.below HA.out HS0.out.2.2.drew) (RdP.below HP.out HS0.out.2.2.drew) HV.out hs hn hnc hcm hm
  go_region_held3 (fun w' => w'.cell? ⟨w.heap.size, 0, none⟩ = some (.slice a n c) ∧ w'.cell? ⟨w.heap.size, 1, none⟩ = some (.slice p m q) ∧ w'.cell? ⟨w.heap.size, 2, none⟩ = some (.int .i64 fuel) ∧ w'.cell? ⟨w.heap.size, 3, none⟩ = some (.bool dead)) (go_keep)
    (first
    | (go_at_call 82; refine HL.out.mono ?_; rintro e w1 ⟨a1, c1, rfl, hr1, hb1⟩; obtain ⟨⟨y0, y1, y2, y3⟩, yr⟩ := HC.out w1 hb1)
    | (refine step_copy_sec (by rfl) (.tmp 6) (.tmp 9) (by rfl) (w.heap.size + 1 + 1) c1 a1 (fun _ => 0) (secF d S F m s) (by rfl) (by rfl) yr.1 hr1 ?_; intro w2 hs2 ho2; obtain ⟨⟨v0, v1, v2, v3⟩, vr⟩ := HD.out w1 w2 hb1 ho2)
    | fail)
  have S5 : Hid (Sec w2 (w.heap.size + 1 + 1) (secF d S F m s)) := hs2
  have R5 : Hid (Sec w2 (w.heap.size + 1) (fun _ => 0) ∧ Below w.heap.size w w2) := vr
  clear hs2 ho2 vr yr hr1 hb1 y0 y1 y2 y3 v0 v1 v2 v3 HC HD HL x0 x1 x2 x3
  go_wp2_with (first | ((with_reducible refine wpList_load_sec (w.heap.size + 1 + 1) (secF d S F m s) ?_ S5.out ?_); rfl) | ((with_reducible refine wpList_store_sec (w.heap.size + 1) (fun _ => 0) (secF d S F m s) ?_ ?_ R5.out.1 ?_); rfl; rfl))
  intro w6 hs6 ho6
  have HB6 : Hid (Below w.heap.size w w6) := R5.out.2.trans (ho6.below (fun y e => by injection e with e; subst e; show w.heap.size ≤ w.heap.size + 1; omega))
  have S6 : Hid (Sec w6 (w.heap.size + 1) (secF d S F m s)) := hs6
  clear hs6 ho6
  go_wp2
  exact bodyPost_ret (v := .agg (secA (secF d S F m s))) (retSec rfl _ w6 _ rfl S6.out) rfl ⟨rfl, HB6.out⟩

end Go.Proofs.Ytbpcafcipncloaa
