import Derived.Test.YtebbehlfocpjhaaGreatWQ0
import Derived.Test.YtebbehlfocpjhaaGreatW3
set_option linter.unusedSimpArgs false
namespace Go.Proofs.YtebbehlfocpjhaaGreat
open Go.RowKit
set_option linter.unusedVariables false
end Go.Proofs.YtebbehlfocpjhaaGreat
