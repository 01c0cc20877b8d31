/-
  DERIVED. GIVEN WITH THE SEED: THE PROGRAM's TIES (one call each: nine closed facts by the kernel) AND EACH ROW's TIE, after the 31st guide's Derived/Test/Toyas{Tie, Card}.lean. No idea stands in it: it is a product of the set-up. Laid BY PROGRAM, IN A SANDBOX (cutbox-door.mjs). By AI agents, Wed Nov 11 2026. No macro, syntax, notation, axiom, sorry.
-/
import Derived.Test.YtbmffmifemebmaaGreatDoorRows
import Derived.LaidByTextLater
import Derived.SevenTiedAt
import Derived.LaidSub
import Derived.LaidOnce
namespace Go.Proofs.YtbmffmifemebmaaGreatDoor
open Go
set_option maxRecDepth 100000
theorem seatTie1 : Tryz.prog.laidByTextLater [("math/bits.deBruijn32tab", Rows.laid_math_bits_deBruijn32tab), ("math/bits.deBruijn64tab", Rows.laid_math_bits_deBruijn64tab), ("internal/strconv.uint64pow10", Rows.laid_internal_strconv_uint64pow10), ("loop.example/s01136/impl.errUnfitDisk", Rows.laid_loop_example_s01136_impl_errUnfitDisk), ("loop.example/s01136/impl.errNoSuper", Rows.laid_loop_example_s01136_impl_errNoSuper), ("loop.example/s01136/impl.errNoRecord", Rows.laid_loop_example_s01136_impl_errNoRecord), ("loop.example/s01136/impl.errNoSnapshot", Rows.laid_loop_example_s01136_impl_errNoSnapshot), ("loop.example/s01136/impl.errNoBatch", Rows.laid_loop_example_s01136_impl_errNoBatch)] [.data, .data, .data, .sentinel, .sentinel, .sentinel, .sentinel, .sentinel] true :=
  Program.laidByTextLater_by_one 119 8 65 (by kernel_rfl) (by kernel_rfl) (by kernel_rfl) (by kernel_rfl) (by kernel_rfl) (by kernel_rfl) (fun _ _ => by kernel_rfl)
theorem noOwnUnsafe : Tryz.pinned.checked.prog.headLifts.contains "ownunsafe" = false := by kernel_rfl
theorem tie : Tryz.prog.laidByTextLater [("math/bits.deBruijn32tab", Rows.laid_math_bits_deBruijn32tab), ("math/bits.deBruijn64tab", Rows.laid_math_bits_deBruijn64tab), ("internal/strconv.uint64pow10", Rows.laid_internal_strconv_uint64pow10), ("loop.example/s01136/impl.errUnfitDisk", Rows.laid_loop_example_s01136_impl_errUnfitDisk), ("loop.example/s01136/impl.errNoSuper", Rows.laid_loop_example_s01136_impl_errNoSuper), ("loop.example/s01136/impl.errNoRecord", Rows.laid_loop_example_s01136_impl_errNoRecord), ("loop.example/s01136/impl.errNoSnapshot", Rows.laid_loop_example_s01136_impl_errNoSnapshot), ("loop.example/s01136/impl.errNoBatch", Rows.laid_loop_example_s01136_impl_errNoBatch)] [.data, .data, .data, .sentinel, .sentinel, .sentinel, .sentinel, .sentinel] true :=
  Program.laidByTextLater.sub seatTie1 ["math/bits.deBruijn32tab", "math/bits.deBruijn64tab", "internal/strconv.uint64pow10", "loop.example/s01136/impl.errUnfitDisk", "loop.example/s01136/impl.errNoSuper", "loop.example/s01136/impl.errNoRecord", "loop.example/s01136/impl.errNoSnapshot", "loop.example/s01136/impl.errNoBatch"] (by kernel_rfl) (by kernel_rfl)
theorem fnExactFormat_row_tie : Rows.fnExactFormatRow.laidByTextAt .later Tryz.pinned [.data, .data, .data, .sentinel, .sentinel, .sentinel, .sentinel, .sentinel] true :=
  OpenClaim.laidByTextAt_later rfl rfl tie noOwnUnsafe
theorem fnExactFormatUpto_row_tie : Rows.fnExactFormatUptoRow.laidByTextAt .later Tryz.pinned [.data, .data, .data, .sentinel, .sentinel, .sentinel, .sentinel, .sentinel] true :=
  OpenClaim.laidByTextAt_later rfl rfl tie noOwnUnsafe
end Go.Proofs.YtbmffmifemebmaaGreatDoor
