/-
  The reference's sums, products and order; layer 2's order.
-/
import Derived.Test.YtpejkdabhijcoabWI2
import Derived.Test.YtpejkdabhijcoabWI3
import Derived.Test.YtpejkdabhijcoabW13
namespace Go.Proofs.Ytpejkdabhijcoab
open Go.RowKit
set_option linter.unusedVariables false





end Go.Proofs.Ytpejkdabhijcoab
