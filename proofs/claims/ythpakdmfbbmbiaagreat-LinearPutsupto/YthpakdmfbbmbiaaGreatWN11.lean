/-
  Layer 6: Add, Sub of the program.
-/
import Derived.Test.YthpakdmfbbmbiaaGreatNumS
namespace Go.Proofs.YthpakdmfbbmbiaaGreat
open Go.RowKit
set_option linter.unusedVariables false
set_option linter.unusedSimpArgs false

end Go.Proofs.YthpakdmfbbmbiaaGreat
