/-
  The walks over the reference's Of, Small, at, Cmp, Add, Sub.
-/
import Derived.Test.YtpejkdabhijcoabW3
namespace Go.Proofs.Ytpejkdabhijcoab
open Go.RowKit
set_option linter.unusedVariables false






end Go.Proofs.Ytpejkdabhijcoab
