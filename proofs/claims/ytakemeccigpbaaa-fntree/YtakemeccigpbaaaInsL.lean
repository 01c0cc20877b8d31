import Derived.Ground.Names2Prog
import Derived.Shelf.Spec.SlicesInsertGrow
import Derived.Shelf.Slices.Delete
import Derived.Shelf.Slices.Cells
import Derived.Test.YtakemeccigpbaaaProg
namespace Go.Proofs.Ytakemeccigpbaaa
open Go.RowKit Go.Shelf
set_option maxRecDepth 100000

def lays22_ren : Go.Shelf.Ren := ⟨fun | 22 => 113 | 29 => 117 | 30 => 118 | 36 => 120 | 17 => 121 | n => n, fun | 24 => 27 | 9 => 9 | 3 => 3 | 4 => 4 | 0 => 0 | n => n, fun | n => n⟩
theorem lays22 : Go.Proofs.Lays2.n22 Try.prog lays22_ren := {
  mixed := by kernel_rfl
  f17 := Try.func121.trans (congrArg some (by kernel_rfl))
  f22 := Try.func113.trans (congrArg some (by kernel_rfl))
  f29 := Try.func117.trans (congrArg some (by kernel_rfl))
  f30 := Try.func118.trans (congrArg some (by kernel_rfl))
  f36 := Try.func120.trans (congrArg some (by kernel_rfl))
  t0 := Try.underlying0
  a0 := Try.isAgg0
  z0 := Try.sizeOf0
  v0 := Try.zeroValue0
  t3 := Try.underlying3
  a3 := Try.isAgg3
  z3 := Try.sizeOf3
  v3 := Try.zeroValue3
  t4 := Try.underlying4
  a4 := Try.isAgg4
  z4 := Try.sizeOf4
  v4 := Try.zeroValue4
  t9 := Try.underlying9
  a9 := Try.isAgg9
  z9 := Try.sizeOf9
  v9 := Try.zeroValue9
  t24 := Try.underlying27
  a24 := Try.isAgg27
  z24 := Try.sizeOf27
  v24 := Try.zeroValue27
  i9 := by kernel_rfl }

end Go.Proofs.Ytakemeccigpbaaa
