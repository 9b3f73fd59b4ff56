/-
  Which functions of this program are those of the library of which the shelf speaks: 137.
-/
import Derived.Shelf.Small.Strs
import Derived.Test.YtjhmlmimgahnmaaDoorRows
namespace Go.Proofs.YtjhmlmimgahnmaaDoor.lay
open Go.Shelf
def lay137_ren : Go.Shelf.Ren := ⟨fun | 137 => 63 | 217 => 66 | 266 => 71 | n => n, fun | 9 => 9 | 5 => 5 | 3 => 3 | n => n, fun | n => n⟩
theorem lay137 : Go.Proofs.Lays.n137 Tryd.prog lay137_ren := {
  mixed := by kernel_rfl
  f137 := Tryd.func63.trans (congrArg some (by kernel_rfl))
  f217 := Tryd.func66.trans (congrArg some (by kernel_rfl))
  f266 := Tryd.func71.trans (congrArg some (by kernel_rfl))
  t3 := Tryd.underlying3
  a3 := Tryd.isAgg3
  z3 := Tryd.sizeOf3
  v3 := Tryd.zeroValue3
  t5 := Tryd.underlying5
  a5 := Tryd.isAgg5
  z5 := Tryd.sizeOf5
  v5 := Tryd.zeroValue5
  t9 := Tryd.underlying9
  a9 := Tryd.isAgg9
  z9 := Tryd.sizeOf9
  v9 := Tryd.zeroValue9 }
end Go.Proofs.YtjhmlmimgahnmaaDoor.lay
