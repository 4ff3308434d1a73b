/-
  Division: divByLimb, divByLimbs, Div.
-/
import Derived.Test.YtabchggnalbbcaaW10
import Derived.Test.YtabchggnalbbcaaW5
namespace Go.Proofs.Ytabchggnalbbcaa
open Go.RowKit
set_option linter.unusedVariables false


end Go.Proofs.Ytabchggnalbbcaa
