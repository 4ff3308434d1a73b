/-
  The walks over the reference's Of, Small, at, Cmp, Add, Sub.
-/
import Derived.Test.YtpifbbopcngdhaaGreatDoorW3
namespace Go.Proofs.YtpifbbopcngdhaaGreatDoor
open Go.RowKit
set_option linter.unusedVariables false






end Go.Proofs.YtpifbbopcngdhaaGreatDoor
