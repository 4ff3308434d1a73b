/-
  The reference's sums, products and order; layer 2's order.
-/
import Derived.Test.YtppjfghaboeceaaGreatDoorWI2
import Derived.Test.YtppjfghaboeceaaGreatDoorWI3
import Derived.Test.YtppjfghaboeceaaGreatDoorW13
namespace Go.Proofs.YtppjfghaboeceaaGreatDoor
open Go.RowKit
set_option linter.unusedVariables false





end Go.Proofs.YtppjfghaboeceaaGreatDoor
