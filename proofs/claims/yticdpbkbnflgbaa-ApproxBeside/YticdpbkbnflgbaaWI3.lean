/-
  Layer 2's sums, products and order.
-/
import Derived.Test.YticdpbkbnflgbaaWI1
import Derived.Test.YticdpbkbnflgbaaW8
namespace Go.Proofs.Yticdpbkbnflgbaa
open Go.RowKit
set_option linter.unusedVariables false

theorem sd_beq (s t : Bool) : (sd s == sd t) = (s == t) := by cases s <;> cases t <;> rfl




end Go.Proofs.Yticdpbkbnflgbaa
