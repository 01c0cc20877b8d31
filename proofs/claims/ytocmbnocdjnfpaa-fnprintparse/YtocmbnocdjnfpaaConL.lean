import Derived.Shelf.Strings.Search3
import Derived.Shelf.Small.Strs
import Derived.Test.YtocmbnocdjnfpaaProg
namespace Go.Proofs.Ytocmbnocdjnfpaa
open Go.RowKit Go.Shelf
set_option maxRecDepth 100000

def lays144_ren : Go.Shelf.Ren := ⟨fun | 144 => 132 | 143 => 149 | 219 => 166 | 217 => 175 | 225 => 176 | 224 => 177 | 267 => 178 | 266 => 180 | 314 => 181 | n => n, fun | 9 => 9 | 4 => 4 | 3 => 3 | 5 => 5 | 46 => 180 | 146 => 225 | 51 => 209 | n => n, fun | 1 => 0 | n => n⟩
theorem lays144 : Go.Proofs.Lays.n144 Try.prog lays144_ren := {
  mixed := by kernel_rfl
  f143 := Try.func149.trans (congrArg some (by kernel_rfl))
  f144 := Try.func132.trans (congrArg some (by kernel_rfl))
  f217 := Try.func175.trans (congrArg some (by kernel_rfl))
  f219 := Try.func166.trans (congrArg some (by kernel_rfl))
  f224 := Try.func177.trans (congrArg some (by kernel_rfl))
  f225 := Try.func176.trans (congrArg some (by kernel_rfl))
  f266 := Try.func180.trans (congrArg some (by kernel_rfl))
  f267 := Try.func178.trans (congrArg some (by kernel_rfl))
  f314 := Try.func181.trans (congrArg some (by kernel_rfl))
  t3 := Try.underlying3
  a3 := Try.isAgg3
  z3 := Try.sizeOf3
  v3 := Try.zeroValue3
  t4 := Try.underlying4
  a4 := Try.isAgg4
  z4 := Try.sizeOf4
  v4 := Try.zeroValue4
  t5 := Try.underlying5
  a5 := Try.isAgg5
  z5 := Try.sizeOf5
  v5 := Try.zeroValue5
  t9 := Try.underlying9
  a9 := Try.isAgg9
  z9 := Try.sizeOf9
  v9 := Try.zeroValue9
  t46 := Try.underlying180
  a46 := Try.isAgg180
  z46 := Try.sizeOf180
  v46 := Try.zeroValue180
  t51 := Try.underlying209
  a51 := Try.isAgg209
  z51 := Try.sizeOf209
  v51 := Try.zeroValue209
  t146 := Try.underlying225
  a146 := Try.isAgg225
  z146 := Try.sizeOf225
  v146 := Try.zeroValue225
  g1 := by kernel_rfl }
def lays137_ren : Go.Shelf.Ren := ⟨fun | 137 => 165 | 217 => 175 | 266 => 180 | n => n, fun | 9 => 9 | 5 => 5 | 3 => 3 | n => n, fun | n => n⟩
theorem lays137 : Go.Proofs.Lays.n137 Try.prog lays137_ren := {
  mixed := by kernel_rfl
  f137 := Try.func165.trans (congrArg some (by kernel_rfl))
  f217 := Try.func175.trans (congrArg some (by kernel_rfl))
  f266 := Try.func180.trans (congrArg some (by kernel_rfl))
  t3 := Try.underlying3
  a3 := Try.isAgg3
  z3 := Try.sizeOf3
  v3 := Try.zeroValue3
  t5 := Try.underlying5
  a5 := Try.isAgg5
  z5 := Try.sizeOf5
  v5 := Try.zeroValue5
  t9 := Try.underlying9
  a9 := Try.isAgg9
  z9 := Try.sizeOf9
  v9 := Try.zeroValue9 }

end Go.Proofs.Ytocmbnocdjnfpaa
