import Derived.Test.YtbpcafcipncloaaSec
import Derived.Test.YtbpcafcipncloaaCrc
import Derived.Lib.LazyBuf
namespace Go.Proofs.Ytbpcafcipncloaa
open Go.RowKit Go.Deep
set_option linter.unusedVariables false
set_option maxRecDepth 100000

/-- The sum that seals a sector. -/
def crcV (f : Nat → Int) : Int := bits .xor .u32 (crcTo f 60) 4294967295
theorem crcV_range (f : Nat → Int) : 0 ≤ crcV f ∧ crcV f < 4294967296 := xor_range _ _
/-- A sector sealed. -/
def sealF (f : Nat → Int) : Nat → Int := putN f 60 4 (crcV f)

theorem OnlyAt.trans {a : Option Addr} {w w1 w2 : World} (h : OnlyAt a w w1) (k : OnlyAt a w1 w2) : OnlyAt a w w2 :=
  ⟨k.os.trans h.os, k.tape.trans h.tape, k.output.trans h.output, k.size.trans h.size, fun x hx => (k.block x hx).trans (h.block x hx)⟩

set_option maxHeartbeats 1000000 in
theorem seal_any (g : Nat) (f : Nat → Int) (w : World) (h : Sec w g f) (hr : ∀ i, i < 60 → 0 ≤ f i ∧ f i < 256) :
    Calls Try.prog 91 #[.pointer (some ⟨g, 0, none⟩)] w fun e w' => e = .returned (.tuple #[]) ∧ Sec w' g (sealF f) ∧ OnlyAt (some ⟨g, 0, none⟩) w w' := by
  have H : Hid (Sec w g f) := h
  have HR : Hid (∀ i, i < 60 → 0 ≤ f i ∧ f i < 256) := hr
  have HRD : Hid (Rd .u8 w (some ⟨g, 0, none⟩) 60 f) := (h.rd 0 60 (by omega)).congr (fun i hi => by simp)
  have hc := (crcV_range f)
  clear h hr
  go_enter Try.func91, Try.ntmps91
  go_wp2_with fail
  refine (implCrc_any _ 60 _ f w HRD.out HR.out (by omega)).mono ?_
  rintro e w1 ⟨rfl, rfl⟩
  have hcv : bits .xor .u32 (crcTo f 60) 4294967295 = crcV f := rfl
  rw [hcv]
  clear hcv
  generalize hq : crcV f = cv at *
  go_wp2_with fail
  refine (putNumber_any g 60 4 cv f w1 H.out (by omega) (by omega)).mono ?_
  rintro e w2 ⟨rfl, hs, ho⟩
  have HX : Hid (Sec w2 g (sealF f) ∧ OnlyAt (some ⟨g, 0, none⟩) w1 w2) := ⟨by unfold sealF; rw [hq]; exact hs, ho⟩
  clear hs ho hq
  go_wp2
  go_end0
  exact ⟨rfl, HX.out⟩

theorem size1 : ∀ w, (Go.sizeOf 5).run Try.prog w = .ok 1 w := fun w => by kernel_rfl
theorem underBytes : Try.prog.underlying 24 = some (.slice 5) := by kernel_rfl

/-- 'copy' of two letters into a sector. -/
theorem copy_two (w : World) (g k dLen dCap : Nat) (x0 x1 : UInt8) (f : Nat → Int) (hs : Sec w g f) (hle : 2 ≤ dLen) (hk : k + 2 ≤ 64) :
    ∃ w', (Builtin.copy_ #[24, 9] 3 #[.slice (some ⟨g, k, none⟩) dLen dCap, .string ⟨#[x0, x1]⟩]).run Try.prog w = .ok (goInt 2) w' ∧ Sec w' g (fun j => if j = k + 1 then (x1.toNat : Int) else if j = k then (x0.toNat : Int) else f j) ∧ OnlyAt (some ⟨g, 0, none⟩) w w' :=
  ⟨_, run_copy_string (P := Try.prog) w 24 9 3 5 g k dLen dCap ⟨#[x0, x1]⟩ underBytes size1 hle (fun j hj => by
      have : j < 2 := hj
      rw [hs.cell (by omega)]; rfl) (fun j hj => hs.frozen _), (hs.set k x0.toNat).set (k + 1) x1.toNat, ((OnlyAt.refl _ _).setCell k _).setCell (k + 1) _⟩

/-- The head of a super's sector. -/
def superH (gen ar fi : Int) : Nat → Int := putN (putN (fun j => if j = 4 + 1 then 49 else if j = 4 then 81 else putN (fun _ => 0) 0 4 gen j) 6 1 ar) 8 4 fi
def superF (gen ar fi : Int) : Nat → Int := sealF (superH gen ar fi)

theorem putN_range {f : Nat → Int} {n o k : Nat} {v : Int} (h : ∀ i, i < n → 0 ≤ f i ∧ f i < 256) : ∀ i, i < n → 0 ≤ putN f o k v i ∧ putN f o k v i < 256 := by
  intro i hi
  unfold putN
  split
  · exact byteAt_range _ _
  · exact h i hi
theorem superH_range (gen ar fi : Int) : ∀ i, i < 64 → 0 ≤ superH gen ar fi i ∧ superH gen ar fi i < 256 := by
  refine putN_range (putN_range (fun i hi => ?_))
  split
  · omega
  · split
    · omega
    · exact putN_range (fun i hi => by omega) i hi

theorem zeroSec : (#[.int .u8 0, .int .u8 0, .int .u8 0, .int .u8 0, .int .u8 0, .int .u8 0, .int .u8 0, .int .u8 0, .int .u8 0, .int .u8 0, .int .u8 0, .int .u8 0, .int .u8 0, .int .u8 0, .int .u8 0, .int .u8 0, .int .u8 0, .int .u8 0, .int .u8 0, .int .u8 0, .int .u8 0, .int .u8 0, .int .u8 0, .int .u8 0, .int .u8 0, .int .u8 0, .int .u8 0, .int .u8 0, .int .u8 0, .int .u8 0, .int .u8 0, .int .u8 0, .int .u8 0, .int .u8 0, .int .u8 0, .int .u8 0, .int .u8 0, .int .u8 0, .int .u8 0, .int .u8 0, .int .u8 0, .int .u8 0, .int .u8 0, .int .u8 0, .int .u8 0, .int .u8 0, .int .u8 0, .int .u8 0, .int .u8 0, .int .u8 0, .int .u8 0, .int .u8 0, .int .u8 0, .int .u8 0, .int .u8 0, .int .u8 0, .int .u8 0, .int .u8 0, .int .u8 0, .int .u8 0, .int .u8 0, .int .u8 0, .int .u8 0, .int .u8 0] : Array Value) = secA (fun _ => 0) := rfl

end Go.Proofs.Ytbpcafcipncloaa
