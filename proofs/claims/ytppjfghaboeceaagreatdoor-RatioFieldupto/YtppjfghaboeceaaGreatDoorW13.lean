/-
  The reference's products and quotients: Mul, twice, Div.
-/
import Derived.Test.YtppjfghaboeceaaGreatDoorW5
import Derived.Test.YtppjfghaboeceaaGreatDoorW6
namespace Go.Proofs.YtppjfghaboeceaaGreatDoor
open Go.RowKit
set_option linter.unusedVariables false

end Go.Proofs.YtppjfghaboeceaaGreatDoor
