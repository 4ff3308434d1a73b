/-
  The reference's sums, products and order; layer 2's order.
-/
import Derived.Test.YtkfdgpidhghhdaaGreatDoorWI1
import Derived.Test.YtkfdgpidhghhdaaGreatDoorW8
import Derived.Test.YtkfdgpidhghhdaaGreatDoorWI2
import Derived.Test.YtkfdgpidhghhdaaGreatDoorW13
namespace Go.Proofs.YtkfdgpidhghhdaaGreatDoor
open Go.RowKit
set_option linter.unusedVariables false

theorem sd_beq (s t : Bool) : (sd s == sd t) = (s == t) := by cases s <;> cases t <;> rfl




end Go.Proofs.YtkfdgpidhghhdaaGreatDoor

namespace Go.Proofs.YtkfdgpidhghhdaaGreatDoor
open Go.RowKit
set_option linter.unusedVariables false





end Go.Proofs.YtkfdgpidhghhdaaGreatDoor
