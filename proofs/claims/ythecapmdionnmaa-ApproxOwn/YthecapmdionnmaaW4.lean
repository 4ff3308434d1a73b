/-
  The walks over the reference's Of, Small, at, Cmp, Add, Sub.
-/
import Derived.Test.YthecapmdionnmaaW3
namespace Go.Proofs.Ythecapmdionnmaa
open Go.RowKit
set_option linter.unusedVariables false






end Go.Proofs.Ythecapmdionnmaa
