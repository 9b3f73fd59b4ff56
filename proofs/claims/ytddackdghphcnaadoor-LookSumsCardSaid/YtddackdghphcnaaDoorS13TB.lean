/-
  Layer 13: the table that the library reads.
-/
import Derived.Test.YtddackdghphcnaaDoorS13A
import Derived.Lib.SmallJoins
import Derived.Lib.LaidTab
namespace Go.Proofs.YtddackdghphcnaaDoor.s13
set_option linter.unusedVariables false
set_option linter.unusedSimpArgs false
open Go.RowKit
open kit

/-- the listed table of 64 numbers lies -/
def Tab (w : World) : Prop := Lib.TabIs Tryd.prog w "math/bits.deBruijn64tab" .u8 [0, 1, 56, 2, 57, 49, 28, 3, 61, 58, 42, 50, 38, 29, 17, 4, 62, 47, 59, 36, 45, 43, 51, 22, 53, 39, 33, 30, 24, 18, 12, 5, 63, 55, 48, 27, 60, 41, 37, 16, 46, 35, 44, 21, 52, 32, 23, 11, 54, 26, 40, 15, 34, 20, 31, 10, 25, 14, 19, 9, 13, 8, 7, 6]
theorem Tab.below {w w1 : World} (h : Tab w) (hB : Below w.heap.size w w1) : Tab w1 := Joins.tab_stays (g := 3) (by kernel_rfl) h hB (Nat.le_refl _)
end Go.Proofs.YtddackdghphcnaaDoor.s13
