/-
  mulInto by induction on the lengths, Mul.
-/
import Derived.Test.YtapjaceahifihaaW7
namespace Go.Proofs.Ytapjaceahifihaa
open Go.RowKit
set_option linter.unusedVariables false

theorem hide' {p : Prop} (h : p) : Hid p := h

end Go.Proofs.Ytapjaceahifihaa
