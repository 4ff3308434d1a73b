/-
  Division: guess, subTimes, takeTimes.
-/
import Derived.Test.YtabchggnalbbcaaW9
import Derived.Test.YtabchggnalbbcaaNumD
namespace Go.Proofs.Ytabchggnalbbcaa
open Go.RowKit
set_option linter.unusedVariables false

end Go.Proofs.Ytabchggnalbbcaa
