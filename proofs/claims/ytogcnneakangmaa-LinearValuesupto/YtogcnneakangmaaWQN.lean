/-
  Layer 3: Norm, Sign.
-/
import Derived.Test.YtogcnneakangmaaWQ2
namespace Go.Proofs.Ytogcnneakangmaa
open Go.RowKit
set_option linter.unusedVariables false



end Go.Proofs.Ytogcnneakangmaa
