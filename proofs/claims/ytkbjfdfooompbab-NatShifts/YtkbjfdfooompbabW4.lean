/-
  The walks over the reference's Of, Small, at, Cmp, Add, Sub.
-/
import Derived.Test.YtkbjfdfooompbabW3
namespace Go.Proofs.Ytkbjfdfooompbab
open Go.RowKit
set_option linter.unusedVariables false






end Go.Proofs.Ytkbjfdfooompbab
