/-
  Layer 3: lowest, opposite, order, Cmp, Neg, Abs.
-/
import Derived.Test.YtapjaceahifihaaWQ1
namespace Go.Proofs.Ytapjaceahifihaa
open Go.RowKit
set_option linter.unusedVariables false






end Go.Proofs.Ytapjaceahifihaa
