/-
  The reference's Floor.
-/
import Derived.Test.YtbbbimelmjdmnaaGreatDoorWIB
namespace Go.Proofs.YtbbbimelmjdmnaaGreatDoor
open Go.RowKit
set_option linter.unusedVariables false

end Go.Proofs.YtbbbimelmjdmnaaGreatDoor
