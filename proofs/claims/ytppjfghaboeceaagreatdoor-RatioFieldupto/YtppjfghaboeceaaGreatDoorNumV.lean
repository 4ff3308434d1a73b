/-
  A list of fractions in memory, as a list of numbers over numbers; how long its sum can be.
-/
import Derived.Test.YtppjfghaboeceaaGreatDoorNumQ
import Derived.Test.YtppjfghaboeceaaGreatDoorOpenL
import Derived.Test.YtppjfghaboeceaaGreatDoorWQ9
namespace Go.Proofs.YtppjfghaboeceaaGreatDoor
set_option linter.unusedVariables false

/-- numbers, each over a number above 0: the sum's number and what it is over -/
def lnum : List (Int × Nat) → Int
  | [] => 0
  | x :: l => x.1 * (lden l : Nat) + lnum l * (x.2 : Nat)
where
  lden : List (Int × Nat) → Nat
  | [] => 1
  | x :: l => x.2 * lden l
abbrev lden := lnum.lden
end Go.Proofs.YtppjfghaboeceaaGreatDoor

namespace Go.Proofs.YtppjfghaboeceaaGreatDoor
set_option linter.unusedVariables false

/-- what the first n of them are -/
def lq (q : Nat → RatV) (n : Nat) : List (Int × Nat) := (List.range n).map fun i => (rn (q i).s (q i).X (q i).Y, rd (q i).Y)
end Go.Proofs.YtppjfghaboeceaaGreatDoor
