/-
  Copies and comparisons of the statements of layer 3.
-/
import Derived.Test.YtlafilmpefmidaaWQ0
import Derived.Test.YtlafilmpefmidaaW3
namespace Go.Proofs.Ytlafilmpefmidaa
open Go.RowKit
set_option linter.unusedVariables false





end Go.Proofs.Ytlafilmpefmidaa
