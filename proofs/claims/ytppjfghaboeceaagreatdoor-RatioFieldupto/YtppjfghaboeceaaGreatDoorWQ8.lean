/-
  The reference of layer 3: Add, Sub, Cmp, Mul.
-/
import Derived.Test.YtppjfghaboeceaaGreatDoorW13
import Derived.Test.YtppjfghaboeceaaGreatDoorW9
import Derived.Deep.LoopGhost
import Derived.Test.YtppjfghaboeceaaGreatDoorWQ1
import Derived.Test.YtppjfghaboeceaaGreatDoorWI2
import Derived.Test.YtppjfghaboeceaaGreatDoorWQ5
namespace Go.Proofs.YtppjfghaboeceaaGreatDoor
open Go.RowKit
set_option linter.unusedVariables false

end Go.Proofs.YtppjfghaboeceaaGreatDoor

namespace Go.Proofs.YtppjfghaboeceaaGreatDoor
open Go.RowKit
set_option linter.unusedVariables false

end Go.Proofs.YtppjfghaboeceaaGreatDoor

namespace Go.Proofs.YtppjfghaboeceaaGreatDoor
open Go.RowKit
set_option linter.unusedVariables false


end Go.Proofs.YtppjfghaboeceaaGreatDoor

namespace Go.Proofs.YtppjfghaboeceaaGreatDoor
open Go.RowKit
set_option linter.unusedVariables false

end Go.Proofs.YtppjfghaboeceaaGreatDoor

namespace Go.Proofs.YtppjfghaboeceaaGreatDoor
open Go.RowKit
set_option linter.unusedVariables false

end Go.Proofs.YtppjfghaboeceaaGreatDoor
