/-
  The reference's Quo.
-/
import Derived.Test.YtbbbimelmjdmnaaGreatDoorWI4
import Derived.Test.YtbbbimelmjdmnaaGreatDoorWIm
namespace Go.Proofs.YtbbbimelmjdmnaaGreatDoor
open Go.RowKit
set_option linter.unusedVariables false

end Go.Proofs.YtbbbimelmjdmnaaGreatDoor
