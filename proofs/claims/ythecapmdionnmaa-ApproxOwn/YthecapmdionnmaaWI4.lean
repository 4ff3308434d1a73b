/-
  The reference's sums, products and order; layer 2's order.
-/
import Derived.Test.YthecapmdionnmaaWI1
import Derived.Test.YthecapmdionnmaaW8
import Derived.Test.YthecapmdionnmaaWI2
import Derived.Test.YthecapmdionnmaaW13
namespace Go.Proofs.Ythecapmdionnmaa
open Go.RowKit
set_option linter.unusedVariables false

theorem sd_beq (s t : Bool) : (sd s == sd t) = (s == t) := by cases s <;> cases t <;> rfl




end Go.Proofs.Ythecapmdionnmaa

namespace Go.Proofs.Ythecapmdionnmaa
open Go.RowKit
set_option linter.unusedVariables false





end Go.Proofs.Ythecapmdionnmaa
