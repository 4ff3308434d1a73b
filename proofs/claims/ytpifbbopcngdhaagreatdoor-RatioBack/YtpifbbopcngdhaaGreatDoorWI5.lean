/-
  Layer 2's Cmp; Small, of both sides.
-/
import Derived.Test.YtpifbbopcngdhaaGreatDoorWI4
namespace Go.Proofs.YtpifbbopcngdhaaGreatDoor
open Go.RowKit
set_option linter.unusedVariables false

end Go.Proofs.YtpifbbopcngdhaaGreatDoor
