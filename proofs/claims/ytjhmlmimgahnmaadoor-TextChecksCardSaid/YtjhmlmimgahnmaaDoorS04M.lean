/-
  Layer 4: the reference's Lexemes.
-/
import Derived.Test.YtjhmlmimgahnmaaDoorS04L
namespace Go.Proofs.YtjhmlmimgahnmaaDoor.s04
set_option linter.unusedVariables false
set_option linter.unusedSimpArgs false
open Go.RowKit
open kit

end Go.Proofs.YtjhmlmimgahnmaaDoor.s04
