/-
  A list of fractions in memory, as a list of numbers over numbers; how long its sum can be.
-/
import Derived.Test.YtppjfghaboeceaaGreatDoorNumQ
import Derived.Test.YtppjfghaboeceaaGreatDoorOpenL
import Derived.Test.YtppjfghaboeceaaGreatDoorWQ9
namespace Go.Proofs.YtppjfghaboeceaaGreatDoor
set_option linter.unusedVariables false

end Go.Proofs.YtppjfghaboeceaaGreatDoor

namespace Go.Proofs.YtppjfghaboeceaaGreatDoor
set_option linter.unusedVariables false

/-- what the first n of them are -/
def lq (q : Nat → RatV) (n : Nat) : List (Int × Nat) := (List.range n).map fun i => (rn (q i).s (q i).X (q i).Y, rd (q i).Y)
end Go.Proofs.YtppjfghaboeceaaGreatDoor
