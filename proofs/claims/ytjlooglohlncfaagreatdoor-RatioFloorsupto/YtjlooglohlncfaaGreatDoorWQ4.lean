/-
  Layer 3: Add, Sub, Mul.
-/
import Derived.Test.YtjlooglohlncfaaGreatDoorWQ3
namespace Go.Proofs.YtjlooglohlncfaaGreatDoor
open Go.RowKit
set_option linter.unusedVariables false


end Go.Proofs.YtjlooglohlncfaaGreatDoor
