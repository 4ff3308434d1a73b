/-
  Layer 6: Add, Sub of the program.
-/
import Derived.Test.YtkfhllonjgcbkaaGreatNumS
namespace Go.Proofs.YtkfhllonjgcbkaaGreat
open Go.RowKit
set_option linter.unusedVariables false
set_option linter.unusedSimpArgs false

end Go.Proofs.YtkfhllonjgcbkaaGreat
