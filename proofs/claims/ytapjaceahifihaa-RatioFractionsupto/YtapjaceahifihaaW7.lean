/-
  Products: halvesSum, product, mulInto, mulByHalves, Mul: Karatsuba's way, by induction on the length.
-/
import Derived.Test.YtapjaceahifihaaW6
namespace Go.Proofs.Ytapjaceahifihaa
open Go.RowKit
set_option linter.unusedVariables false

end Go.Proofs.Ytapjaceahifihaa
