/-
  From what a law's row hands over (an api.Delta that came in) to the walks' words.
-/
import Derived.Test.YtnifelfecildmaaGreatDoorOpenQ
namespace Go.Proofs.YtnifelfecildmaaGreatDoor
open Go.ChangeShapes Go.WideShapes Go.ChangeAt Go.RowKit
set_option linter.unusedVariables false

end Go.Proofs.YtnifelfecildmaaGreatDoor
