/-
  Copies and comparisons of the statements of layer 3.
-/
import Derived.Test.YtogcnneakangmaaWQ0
import Derived.Test.YtogcnneakangmaaW3
namespace Go.Proofs.Ytogcnneakangmaa
open Go.RowKit
set_option linter.unusedVariables false





end Go.Proofs.Ytogcnneakangmaa
