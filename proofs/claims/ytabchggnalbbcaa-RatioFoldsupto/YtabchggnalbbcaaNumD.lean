/-
  Numbers in base 2^32: division: by one limb, and Knuth's way.
-/
import Derived.Test.YtabchggnalbbcaaNumM
namespace Go.Proofs.Ytabchggnalbbcaa
set_option linter.unusedVariables false

/-! ### the guess -/
section
variable {B : Nat}
end

/-! ### m times D, taken away limb by limb -/
/-! ### the digits of the quotient, from the highest on -/
end Go.Proofs.Ytabchggnalbbcaa
