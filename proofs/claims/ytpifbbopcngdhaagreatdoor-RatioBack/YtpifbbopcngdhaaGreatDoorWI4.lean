/-
  The reference's sums, products and order; layer 2's order.
-/
import Derived.Test.YtpifbbopcngdhaaGreatDoorWI2
import Derived.Test.YtpifbbopcngdhaaGreatDoorWI3
import Derived.Test.YtpifbbopcngdhaaGreatDoorW13
namespace Go.Proofs.YtpifbbopcngdhaaGreatDoor
open Go.RowKit
set_option linter.unusedVariables false





end Go.Proofs.YtpifbbopcngdhaaGreatDoor
