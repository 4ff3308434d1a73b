/-
  Layer 2's sums, products and order.
-/
import Derived.Test.YtancpkegjgmlmaaDoorWI1
import Derived.Test.YtancpkegjgmlmaaDoorW8
namespace Go.Proofs.YtancpkegjgmlmaaDoor
open Go.RowKit
set_option linter.unusedVariables false

theorem sd_beq (s t : Bool) : (sd s == sd t) = (s == t) := by cases s <;> cases t <;> rfl




end Go.Proofs.YtancpkegjgmlmaaDoor
