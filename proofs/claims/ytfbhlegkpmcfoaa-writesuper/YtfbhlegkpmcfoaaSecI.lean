import Derived.Test.YtfbhlegkpmcfoaaSec
import Derived.Test.YtfbhlegkpmcfoaaCrc
import Derived.Lib.LazyBuf
namespace Go.Proofs.Ytfbhlegkpmcfoaa
open Go.RowKit Go.Deep
set_option linter.unusedVariables false
set_option maxRecDepth 100000

/-- The sum that seals a sector. -/
def crcV (f : Nat → Int) : Int := bits .xor .u32 (crcTo f 60) 4294967295
theorem crcV_range (f : Nat → Int) : 0 ≤ crcV f ∧ crcV f < 4294967296 := xor_range _ _
/-- A sector sealed. -/
def sealF (f : Nat → Int) : Nat → Int := putN f 60 4 (crcV f)

theorem OnlyAt.trans {a : Option Addr} {w w1 w2 : World} (h : OnlyAt a w w1) (k : OnlyAt a w1 w2) : OnlyAt a w w2 :=
  ⟨k.os.trans h.os, k.tape.trans h.tape, k.output.trans h.output, k.size.trans h.size, fun x hx => (k.block x hx).trans (h.block x hx)⟩

set_option maxHeartbeats 1000000 in
theorem seal_any (g : Nat) (f : Nat → Int) (w : World) (h : Sec w g f) (hr : ∀ i, i < 60 → 0 ≤ f i ∧ f i < 256) :
    Calls Try.prog 85 #[.pointer (some ⟨g, 0, none⟩)] w fun e w' => e = .returned (.tuple #[]) ∧ Sec w' g (sealF f) ∧ OnlyAt (some ⟨g, 0, none⟩) w w' := by
  have H : Hid (Sec w g f) := h
  have HR : Hid (∀ i, i < 60 → 0 ≤ f i ∧ f i < 256) := hr
  have HRD : Hid (Rd .u8 w (some ⟨g, 0, none⟩) 60 f) := (h.rd 0 60 (by omega)).congr (fun i hi => by simp)
  have hc := (crcV_range f)
  clear h hr
  go_enter Try.func85, Try.ntmps85
  go_wp2_with fail
  refine (implCrc_any _ 60 _ f w HRD.out HR.out (by omega)).mono ?_
  rintro e w1 ⟨rfl, rfl⟩
  have hcv : bits .xor .u32 (crcTo f 60) 4294967295 = crcV f := rfl
  rw [hcv]
  clear hcv
  generalize hq : crcV f = cv at *
  go_wp2_with fail
  refine (putNumber_any g 60 4 cv f w1 H.out (by omega) (by omega)).mono ?_
  rintro e w2 ⟨rfl, hs, ho⟩
  have HX : Hid (Sec w2 g (sealF f) ∧ OnlyAt (some ⟨g, 0, none⟩) w1 w2) := ⟨by unfold sealF; rw [hq]; exact hs, ho⟩
  clear hs ho hq
  go_wp2
  go_end0
  exact ⟨rfl, HX.out⟩

theorem size1 : ∀ w, (Go.sizeOf 5).run Try.prog w = .ok 1 w := fun w => by kernel_rfl
theorem underBytes : Try.prog.underlying 28 = some (.slice 5) := by kernel_rfl

/-- 'copy' of two letters into a sector. -/
theorem copy_two (w : World) (g k dLen dCap : Nat) (x0 x1 : UInt8) (f : Nat → Int) (hs : Sec w g f) (hle : 2 ≤ dLen) (hk : k + 2 ≤ 64) :
    ∃ w', (Builtin.copy_ #[28, 9] 3 #[.slice (some ⟨g, k, none⟩) dLen dCap, .string ⟨#[x0, x1]⟩]).run Try.prog w = .ok (goInt 2) w' ∧ Sec w' g (fun j => if j = k + 1 then (x1.toNat : Int) else if j = k then (x0.toNat : Int) else f j) ∧ OnlyAt (some ⟨g, 0, none⟩) w w' :=
  ⟨_, run_copy_string (P := Try.prog) w 28 9 3 5 g k dLen dCap ⟨#[x0, x1]⟩ underBytes size1 hle (fun j hj => by
      have : j < 2 := hj
      rw [hs.cell (by omega)]; rfl) (fun j hj => hs.frozen _), (hs.set k x0.toNat).set (k + 1) x1.toNat, ((OnlyAt.refl _ _).setCell k _).setCell (k + 1) _⟩

/-- The head of a super's sector. -/
def superH (gen ar fi : Int) : Nat → Int := putN (putN (fun j => if j = 4 + 1 then 49 else if j = 4 then 81 else putN (fun _ => 0) 0 4 gen j) 6 1 ar) 8 4 fi
def superF (gen ar fi : Int) : Nat → Int := sealF (superH gen ar fi)

theorem putN_range {f : Nat → Int} {n o k : Nat} {v : Int} (h : ∀ i, i < n → 0 ≤ f i ∧ f i < 256) : ∀ i, i < n → 0 ≤ putN f o k v i ∧ putN f o k v i < 256 := by
  intro i hi
  unfold putN
  split
  · exact byteAt_range _ _
  · exact h i hi
theorem superH_range (gen ar fi : Int) : ∀ i, i < 64 → 0 ≤ superH gen ar fi i ∧ superH gen ar fi i < 256 := by
  refine putN_range (putN_range (fun i hi => ?_))
  split
  · omega
  · split
    · omega
    · exact putN_range (fun i hi => by omega) i hi

theorem zeroSec : (#[.int .u8 0, .int .u8 0, .int .u8 0, .int .u8 0, .int .u8 0, .int .u8 0, .int .u8 0, .int .u8 0, .int .u8 0, .int .u8 0, .int .u8 0, .int .u8 0, .int .u8 0, .int .u8 0, .int .u8 0, .int .u8 0, .int .u8 0, .int .u8 0, .int .u8 0, .int .u8 0, .int .u8 0, .int .u8 0, .int .u8 0, .int .u8 0, .int .u8 0, .int .u8 0, .int .u8 0, .int .u8 0, .int .u8 0, .int .u8 0, .int .u8 0, .int .u8 0, .int .u8 0, .int .u8 0, .int .u8 0, .int .u8 0, .int .u8 0, .int .u8 0, .int .u8 0, .int .u8 0, .int .u8 0, .int .u8 0, .int .u8 0, .int .u8 0, .int .u8 0, .int .u8 0, .int .u8 0, .int .u8 0, .int .u8 0, .int .u8 0, .int .u8 0, .int .u8 0, .int .u8 0, .int .u8 0, .int .u8 0, .int .u8 0, .int .u8 0, .int .u8 0, .int .u8 0, .int .u8 0, .int .u8 0, .int .u8 0, .int .u8 0, .int .u8 0] : Array Value) = secA (fun _ => 0) := rfl

set_option maxHeartbeats 2000000 in
theorem superSector_any (gen ar fi : Int) (w : World) :
    Calls Try.prog 67 #[.agg #[.int .i64 gen, .int .i64 ar, .int .i64 fi]] w fun e w' => e = .returned (.agg (secA (superF gen ar fi))) ∧ Below w.heap.size w w' := by
  go_enter Try.func67, Try.ntmps67
  go_wp2_with fail
  rw [zeroSec]
  obtain ⟨W, hW⟩ : ∃ W, W = ((w.alloc (.cells #[.int .i64 gen, .int .i64 ar, .int .i64 fi] 34)).alloc (.cells (secA fun _ => 0) 92)).alloc (.cells (secA fun _ => 0) 92) := ⟨_, rfl⟩
  rw [← hW]
  have BW : Below w.heap.size w W := by rw [hW]; exact (((below_alloc _ _).alloc (by simp) _).alloc (by simp; omega) _)
  have S0 : Sec W (w.heap.size + 1 + 1) (fun _ => 0) := by
    rw [hW]
    have := Sec.new ((w.alloc (.cells #[.int .i64 gen, .int .i64 ar, .int .i64 fi] 34)).alloc (.cells (secA fun _ => 0) 92)) (fun _ => 0)
    simp only [World.size_alloc] at this
    exact this
  have R0 : Sec W (w.heap.size + 1) (fun _ => 0) := by
    rw [hW]
    have := Sec.new (w.alloc (.cells #[.int .i64 gen, .int .i64 ar, .int .i64 fi] 34)) (fun _ => 0)
    simp only [World.size_alloc] at this
    exact this.below (below_alloc _ _)
  have hb : ∀ o, W.cell? ⟨w.heap.size, o, none⟩ = (w.alloc (.cells #[.int .i64 gen, .int .i64 ar, .int .i64 fi] 34)).cell? ⟨w.heap.size, o, none⟩ := fun o => by
    rw [hW]
    exact (((Below.refl _ _).alloc (by simp) _).alloc (by simp) _ : Below (w.heap.size + 1) (w.alloc (.cells #[.int .i64 gen, .int .i64 ar, .int .i64 fi] 34)) _).cell (p := ⟨w.heap.size, o, none⟩) (by simp)
  have x0 : W.cell? ⟨w.heap.size, 0, none⟩ = some (.int .i64 gen) := by rw [hb]; simp
  have x1 : W.cell? ⟨w.heap.size, 1, none⟩ = some (.int .i64 ar) := by rw [hb]; simp
  have x2 : W.cell? ⟨w.heap.size, 2, none⟩ = some (.int .i64 fi) := by rw [hb]; simp
  have hz : W.heap.size = w.heap.size + 1 + 1 + 1 := by rw [hW]; simp
  have KP : Hid (∀ w' : World, OnlyAt (some ⟨w.heap.size + 1 + 1, 0, none⟩) W w' → w'.cell? ⟨w.heap.size, 1, none⟩ = some (.int .i64 ar) ∧ w'.cell? ⟨w.heap.size, 2, none⟩ = some (.int .i64 fi) ∧ Sec w' (w.heap.size + 1) (fun _ => 0) ∧ Below w.heap.size w w') := by
    intro w' ho
    have q : ∀ k, k ≠ w.heap.size + 1 + 1 → w'.heap[k]? = W.heap[k]? := fun k hk => ho.block k (fun y e => by injection e with e; subst e; exact fun e => hk e.symm)
    refine ⟨(World.cell?_of_block (a := ⟨w.heap.size, 1, none⟩) (q _ (by show w.heap.size ≠ _; omega))).trans x1, (World.cell?_of_block (a := ⟨w.heap.size, 2, none⟩) (q _ (by show w.heap.size ≠ _; omega))).trans x2, R0.of_block (q _ (by omega)), BW.trans (ho.below (fun y e => by injection e with e; subst e; show w.heap.size ≤ w.heap.size + 1 + 1; omega))⟩
  clear hW hb BW x1 x2 hz R0
  refine (putNumber_any (w.heap.size + 1 + 1) 0 4 gen _ W S0 (by omega) (by omega)).mono ?_
  rintro e w1 ⟨rfl, hs1, ho1⟩
  have S1 : Hid (Sec w1 (w.heap.size + 1 + 1) (putN (fun _ => 0) 0 4 gen) ∧ OnlyAt (some ⟨w.heap.size + 1 + 1, 0, none⟩) W w1) := ⟨hs1, ho1⟩
  clear hs1 ho1 x0 S0
  obtain ⟨y1, y2, -, -⟩ := KP.out w1 S1.out.2
  obtain ⟨w2, hcp, hs2, ho2⟩ := copy_two w1 (w.heap.size + 1 + 1) 4 60 60 81 49 _ S1.out.1 (by omega) (by omega)
  have S2 : Hid (Sec w2 (w.heap.size + 1 + 1) (fun j => if j = 4 + 1 then 49 else if j = 4 then 81 else putN (fun _ => 0) 0 4 gen j) ∧ OnlyAt (some ⟨w.heap.size + 1 + 1, 0, none⟩) W w2) := ⟨hs2, S1.out.2.trans ho2⟩
  clear hs2 ho2 S1 y1 y2
  obtain ⟨y1, y2, -, -⟩ := KP.out w2 S2.out.2
  go_wp2_with fail
  clear hcp
  refine (putNumber_any (w.heap.size + 1 + 1) 6 1 ar _ w2 S2.out.1 (by omega) (by omega)).mono ?_
  rintro e w3 ⟨rfl, hs3, ho3⟩
  have S3 : Hid (Sec w3 (w.heap.size + 1 + 1) _ ∧ OnlyAt (some ⟨w.heap.size + 1 + 1, 0, none⟩) W w3) := ⟨hs3, S2.out.2.trans ho3⟩
  clear hs3 ho3 S2 y1 y2
  obtain ⟨y1, y2, -, -⟩ := KP.out w3 S3.out.2
  go_wp2_with fail
  refine (putNumber_any (w.heap.size + 1 + 1) 8 4 fi _ w3 S3.out.1 (by omega) (by omega)).mono ?_
  rintro e w4 ⟨rfl, hs4, ho4⟩
  have S4 : Hid (Sec w4 (w.heap.size + 1 + 1) (superH gen ar fi) ∧ OnlyAt (some ⟨w.heap.size + 1 + 1, 0, none⟩) W w4) := ⟨hs4, S3.out.2.trans ho4⟩
  clear hs4 ho4 S3 y1 y2
  go_wp2_with fail
  refine (seal_any (w.heap.size + 1 + 1) (superH gen ar fi) w4 S4.out.1 (fun i hi => superH_range gen ar fi i (by omega))).mono ?_
  rintro e w5 ⟨rfl, hs5, ho5⟩
  obtain ⟨-, -, hr5, hb5⟩ := KP.out w5 (S4.out.2.trans ho5)
  have S5 : Hid (Sec w5 (w.heap.size + 1 + 1) (superF gen ar fi)) := hs5
  have R5 : Hid (Sec w5 (w.heap.size + 1) (fun _ => 0) ∧ Below w.heap.size w w5) := ⟨hr5, hb5⟩
  clear hs5 ho5 S4 KP hr5 hb5
  go_wp2_with (first | ((with_reducible refine wpList_load_sec (w.heap.size + 1 + 1) (superF gen ar fi) ?_ S5.out ?_); rfl) | ((with_reducible refine wpList_store_sec (w.heap.size + 1) (fun _ => 0) (superF gen ar fi) ?_ ?_ R5.out.1 ?_); rfl; rfl))
  intro w6 hs6 ho6
  have HB6 : Hid (Below w.heap.size w w6) := R5.out.2.trans (ho6.below (fun y e => by injection e with e; subst e; show w.heap.size ≤ w.heap.size + 1; omega))
  have S6 : Hid (Sec w6 (w.heap.size + 1) (superF gen ar fi)) := hs6
  clear hs6 ho6
  go_wp2
  exact bodyPost_ret (v := .agg (secA (superF gen ar fi))) (retSec rfl _ w6 _ rfl S6.out) rfl ⟨rfl, HB6.out⟩
end Go.Proofs.Ytfbhlegkpmcfoaa
