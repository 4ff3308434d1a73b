/-
  Copies and comparisons of the statements of layer 3.
-/
import Derived.Test.YtkfhllonjgcbkaaGreatWQ0
import Derived.Test.YtkfhllonjgcbkaaGreatW3
namespace Go.Proofs.YtkfhllonjgcbkaaGreat
open Go.RowKit
set_option linter.unusedVariables false





end Go.Proofs.YtkfhllonjgcbkaaGreat
