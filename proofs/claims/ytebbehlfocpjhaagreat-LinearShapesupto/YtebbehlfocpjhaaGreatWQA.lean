/-
  Copies and comparisons of the statements of layer 3.
-/
import Derived.Test.YtebbehlfocpjhaaGreatWQ0
import Derived.Test.YtebbehlfocpjhaaGreatW3
namespace Go.Proofs.YtebbehlfocpjhaaGreat
open Go.RowKit
set_option linter.unusedVariables false





end Go.Proofs.YtebbehlfocpjhaaGreat
