/-
  The reference's sums, products and order; layer 2's order.
-/
import Derived.Test.YtbglcihfambibaaWI2
import Derived.Test.YtbglcihfambibaaWI3
import Derived.Test.YtbglcihfambibaaW13
namespace Go.Proofs.Ytbglcihfambibaa
open Go.RowKit
set_option linter.unusedVariables false





end Go.Proofs.Ytbglcihfambibaa
