/-
  The reference of layer 3: Sub, Cmp, Mul.
-/
import Derived.Test.YtabchggnalbbcaaWQ8
namespace Go.Proofs.Ytabchggnalbbcaa
open Go.RowKit
set_option linter.unusedVariables false

end Go.Proofs.Ytabchggnalbbcaa
