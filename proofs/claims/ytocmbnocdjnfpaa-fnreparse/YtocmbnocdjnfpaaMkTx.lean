import Derived.Test.YtocmbnocdjnfpaaRows
import Derived.Test.YtocmbnocdjnfpaaOwn
import Derived.WalkKit
import Derived.Handy
import Derived.Laws.BytesArg
namespace Go.Proofs.Ytocmbnocdjnfpaa
open Go.RowKit Go.Deep
set_option linter.unusedVariables false
set_option maxRecDepth 100000

/-- The digits of a number, in front of a text. -/
def dgF : Nat → Nat → ByteArray → ByteArray
  | 0, _, x => x
  | f + 1, k, x => if k = 0 then x else dgF f (k / 10) (strOfNums [48 + (k : Int) % 10] ++ x)

theorem dgF_zero (f : Nat) (x : ByteArray) : dgF f 0 x = x := by cases f <;> simp [dgF]
theorem dgF_step {f k : Nat} (x : ByteArray) (hk : 0 < k) (hf : k ≤ f) : ∃ f', f = f' + 1 ∧ k / 10 ≤ f' ∧ dgF f k x = dgF f' (k / 10) (strOfNums [48 + (k : Int) % 10] ++ x) := by
  cases f with
  | zero => omega
  | succ f => exact ⟨f, rfl, by omega, by rw [dgF, if_neg (by omega)]⟩

/-- The text that marks with number k. -/
def mkT (k : Nat) : ByteArray := ByteArray.mk #[109] ++ dgF k k { data := #[] }

theorem run_conv1 (w : World) (d : Int) : (convert 33 9 (.slice (some ⟨w.heap.size, 0, none⟩) 1 1)).run Try.prog (w.alloc (.cells #[.int .u8 d] 5)) = .ok (.string (strOfNums [d])) (w.alloc (.cells #[.int .u8 d] 5)) :=
  run_convert_bytes_arg (w.alloc (.cells #[.int .u8 d] 5)) 33 5 (by kernel_rfl) (by kernel_rfl) w.heap.size 0 1 1 [d] rfl (fun i hi => by
    obtain rfl : i = 0 := by omega
    simp) 9 (by kernel_rfl)

set_option maxHeartbeats 2000000 in
theorem markText_any (k : Nat) (w : World) (hk : 1 ≤ k) (hk2 : k ≤ 1073741824) :
    Calls Try.prog 69 #[.int .i64 k] w fun e w' => e = .returned (.string (mkT k)) ∧ Below w.heap.size w w' := by
  have HM : Hid (mkT k = ByteArray.mk #[109] ++ dgF k k { data := #[] }) := rfl
  generalize hT : mkT k = T at *
  clear hT
  generalize hD : dgF k k { data := #[] } = D at *
  have HD : Hid (dgF k k { data := #[] } = D) := hD
  clear hD
  have hcv := run_conv1
  go_enter Try.func69, Try.ntmps69
  go_wp2
  go_loopw [0, 3] (fun q s wr => ∃ (j f : Nat) (x : ByteArray), x.size + j ≤ k ∧ j ≤ f ∧ q = .int .i64 j ∧ s = .string x ∧ dgF f j x = D ∧ Below w.heap.size w wr) (fun q _ _ => (intOf q).toNat)
  case atStart => exact ⟨k, k, _, by simp [ByteArray.size], Nat.le_refl _, rfl, rfl, HD.out, Below.refl _ _⟩
  case round =>
    obtain ⟨j, f, x, hj, hf, rfl, rfl, hd, hb⟩ := hrel
    have HB : Hid (Below w.heap.size w wr) := hb
    clear hb
    by_cases hlt : 0 < j
    · obtain ⟨f', rfl, hf', e⟩ := dgF_step x hlt hf
      have HQ : Hid (dgF f' (j / 10) (strOfNums [48 + (j : Int) % 10] ++ x) = D) := e.symm.trans hd
      clear hd e
      have hs1 : ¬ 9223372036854775807 < (strOfNums [48 + (j : Int) % 10]).size + x.size := by
        have : (strOfNums [48 + (j : Int) % 10]).size = 1 := rfl
        omega
      have HS : Hid ((strOfNums [48 + (j : Int) % 10] ++ x).size = x.size + 1) := by
        show _ = _
        rw [ByteArray.size_append]
        have : (strOfNums [48 + (j : Int) % 10]).size = 1 := rfl
        omega
      have HE : Hid (((j / 10 : Nat) : Int) = (j : Int) / 10) := by show _ = _; omega
      go_wp2
      go_roundw
      case rel => exact ⟨j / 10, f', _, by rw [HS.out]; omega, hf', by simp, rfl, HQ.out, HB.out.alloc HB.out.size _⟩
      case measure => simp [intOf]; omega
    · obtain rfl : j = 0 := by omega
      have HQ : Hid (x = D) := by rw [← hd, dgF_zero]; rfl
      have hs1 : ¬ 9223372036854775807 < 1 + x.size := by omega
      clear hd
      go_wp2
      go_ret
      exact ⟨by rw [HM.out, HQ.out]; rfl, HB.out⟩
end Go.Proofs.Ytocmbnocdjnfpaa
