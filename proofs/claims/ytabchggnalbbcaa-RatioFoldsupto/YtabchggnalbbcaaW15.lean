/-
  Greatest common divisors: limb, wordAt, highWords, gcdSteps, timesLess, euclidStep, gcdStep, gcdOfWords, Gcd.
-/
import Derived.Test.YtabchggnalbbcaaNumG
import Derived.Test.YtabchggnalbbcaaW11
namespace Go.Proofs.Ytabchggnalbbcaa
open Go.RowKit
set_option linter.unusedVariables false

end Go.Proofs.Ytabchggnalbbcaa
