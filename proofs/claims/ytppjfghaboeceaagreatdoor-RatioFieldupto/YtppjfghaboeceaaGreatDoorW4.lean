/-
  The walks over the reference's Of, Small, at, Cmp, Add, Sub.
-/
import Derived.Test.YtppjfghaboeceaaGreatDoorW3
namespace Go.Proofs.YtppjfghaboeceaaGreatDoor
open Go.RowKit
set_option linter.unusedVariables false






end Go.Proofs.YtppjfghaboeceaaGreatDoor
