/-
  Layer 3: Norm, Sign.
-/
import Derived.Test.YtbbbimelmjdmnaaGreatDoorWQ2
namespace Go.Proofs.YtbbbimelmjdmnaaGreatDoor
open Go.RowKit
set_option linter.unusedVariables false



end Go.Proofs.YtbbbimelmjdmnaaGreatDoor
