/-
  Layer 2's Cmp; Small, of both sides.
-/
import Derived.Test.YtabchggnalbbcaaWI4
namespace Go.Proofs.Ytabchggnalbbcaa
open Go.RowKit
set_option linter.unusedVariables false

end Go.Proofs.Ytabchggnalbbcaa
