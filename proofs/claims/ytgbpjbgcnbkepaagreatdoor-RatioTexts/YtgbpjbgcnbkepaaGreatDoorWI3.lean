/-
  Layer 2's sums, products and order.
-/
import Derived.Test.YtgbpjbgcnbkepaaGreatDoorWI1
import Derived.Test.YtgbpjbgcnbkepaaGreatDoorW8
namespace Go.Proofs.YtgbpjbgcnbkepaaGreatDoor
open Go.RowKit
set_option linter.unusedVariables false

theorem sd_beq (s t : Bool) : (sd s == sd t) = (s == t) := by cases s <;> cases t <;> rfl




end Go.Proofs.YtgbpjbgcnbkepaaGreatDoor
