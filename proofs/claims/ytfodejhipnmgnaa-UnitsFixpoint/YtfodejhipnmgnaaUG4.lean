/-
  units: the reference's True and Made of truths; what follows from a fixpoint (pure).
-/
import Derived.Test.YtfodejhipnmgnaaUG3
namespace Go.Proofs.Ytfodejhipnmgnaa
open Go.RowKit
set_option linter.unusedVariables false
set_option linter.unusedSimpArgs false
end Go.Proofs.Ytfodejhipnmgnaa
