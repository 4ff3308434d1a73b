/-
  Layer 3: Norm, Sign.
-/
import Derived.Test.YticpdbnlbckbiaaGreatDoorWQ2
namespace Go.Proofs.YticpdbnlbckbiaaGreatDoor
open Go.RowKit
set_option linter.unusedVariables false



end Go.Proofs.YticpdbnlbckbiaaGreatDoor
