/-
  Layer 3: Norm, Sign.
-/
import Derived.Test.YthodhmkplfiohaaGreatDoorWQ2
namespace Go.Proofs.YthodhmkplfiohaaGreatDoor
open Go.RowKit
set_option linter.unusedVariables false



end Go.Proofs.YthodhmkplfiohaaGreatDoor
