/-
  Layer 2's Euclid.
-/
import Derived.Test.YtjlooglohlncfaaGreatDoorWI8
namespace Go.Proofs.YtjlooglohlncfaaGreatDoor
open Go.RowKit
set_option linter.unusedVariables false

end Go.Proofs.YtjlooglohlncfaaGreatDoor
