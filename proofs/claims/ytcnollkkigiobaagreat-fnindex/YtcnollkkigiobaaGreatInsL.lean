import Derived.Ground.Names2Prog
import Derived.Shelf.Spec.SlicesInsertGrow
import Derived.Shelf.Slices.Delete
import Derived.Shelf.Slices.Cells
import Derived.Test.YtcnollkkigiobaaGreatProg
namespace Go.Proofs.YtcnollkkigiobaaGreat
open Go.RowKit Go.Shelf
set_option maxRecDepth 100000

def lays22_ren : Go.Shelf.Ren := ⟨fun | 22 => 212 | 29 => 216 | 30 => 217 | 36 => 219 | 17 => 220 | n => n, fun | 24 => 88 | 9 => 9 | 3 => 3 | 4 => 4 | 0 => 0 | n => n, fun | n => n⟩
theorem lays22 : Go.Proofs.Lays2.n22 Tryz.prog lays22_ren := {
  mixed := by kernel_rfl
  f17 := Tryz.func220.trans (congrArg some (by kernel_rfl))
  f22 := Tryz.func212.trans (congrArg some (by kernel_rfl))
  f29 := Tryz.func216.trans (congrArg some (by kernel_rfl))
  f30 := Tryz.func217.trans (congrArg some (by kernel_rfl))
  f36 := Tryz.func219.trans (congrArg some (by kernel_rfl))
  t0 := Tryz.underlying0
  a0 := Tryz.isAgg0
  z0 := Tryz.sizeOf0
  v0 := Tryz.zeroValue0
  t3 := Tryz.underlying3
  a3 := Tryz.isAgg3
  z3 := Tryz.sizeOf3
  v3 := Tryz.zeroValue3
  t4 := Tryz.underlying4
  a4 := Tryz.isAgg4
  z4 := Tryz.sizeOf4
  v4 := Tryz.zeroValue4
  t9 := Tryz.underlying9
  a9 := Tryz.isAgg9
  z9 := Tryz.sizeOf9
  v9 := Tryz.zeroValue9
  t24 := Tryz.underlying88
  a24 := Tryz.isAgg88
  z24 := Tryz.sizeOf88
  v24 := Tryz.zeroValue88
  i9 := by kernel_rfl }

end Go.Proofs.YtcnollkkigiobaaGreat
