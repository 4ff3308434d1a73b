/-
  The reference's Euclid.
-/
import Derived.Test.YtjlooglohlncfaaGreatDoorWIB
namespace Go.Proofs.YtjlooglohlncfaaGreatDoor
open Go.RowKit
set_option linter.unusedVariables false

end Go.Proofs.YtjlooglohlncfaaGreatDoor
