/-
  The reference's sums, products and order; layer 2's order.
-/
import Derived.Test.YticpdbnlbckbiaaGreatDoorWI1
import Derived.Test.YticpdbnlbckbiaaGreatDoorW8
import Derived.Test.YticpdbnlbckbiaaGreatDoorWI2
import Derived.Test.YticpdbnlbckbiaaGreatDoorW13
namespace Go.Proofs.YticpdbnlbckbiaaGreatDoor
open Go.RowKit
set_option linter.unusedVariables false

theorem sd_beq (s t : Bool) : (sd s == sd t) = (s == t) := by cases s <;> cases t <;> rfl




end Go.Proofs.YticpdbnlbckbiaaGreatDoor

namespace Go.Proofs.YticpdbnlbckbiaaGreatDoor
open Go.RowKit
set_option linter.unusedVariables false





end Go.Proofs.YticpdbnlbckbiaaGreatDoor
