/-
  Layer 2's Quo, and the reference's.
-/
import Derived.Test.YtabchggnalbbcaaWI4
import Derived.Test.YtabchggnalbbcaaW11
import Derived.Test.YtabchggnalbbcaaWIm
namespace Go.Proofs.Ytabchggnalbbcaa
open Go.RowKit
set_option linter.unusedVariables false

end Go.Proofs.Ytabchggnalbbcaa
