/-
  The reference of layer 3: Of, Inv, Div; none.
-/
import Derived.Test.YtnifelfecildmaaGreatDoorWQ9
namespace Go.Proofs.YtnifelfecildmaaGreatDoor
open Go.RowKit
set_option linter.unusedVariables false

end Go.Proofs.YtnifelfecildmaaGreatDoor
