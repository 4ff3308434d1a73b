/-
  Layer 3: Add, Sub, Mul.
-/
import Derived.Test.YtggblpbcphgnoaaGreatDoorWQ3
namespace Go.Proofs.YtggblpbcphgnoaaGreatDoor
open Go.RowKit
set_option linter.unusedVariables false


end Go.Proofs.YtggblpbcphgnoaaGreatDoor
