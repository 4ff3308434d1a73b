/-
  The reference's products and quotients: Mul, twice, Div.
-/
import Derived.Test.YtpifbbopcngdhaaGreatDoorW5
import Derived.Test.YtpifbbopcngdhaaGreatDoorW6
namespace Go.Proofs.YtpifbbopcngdhaaGreatDoor
open Go.RowKit
set_option linter.unusedVariables false

end Go.Proofs.YtpifbbopcngdhaaGreatDoor
