/-
  Layer 2's Cmp; Small, of both sides.
-/
import Derived.Test.YtapjaceahifihaaWI4
namespace Go.Proofs.Ytapjaceahifihaa
open Go.RowKit
set_option linter.unusedVariables false

end Go.Proofs.Ytapjaceahifihaa
