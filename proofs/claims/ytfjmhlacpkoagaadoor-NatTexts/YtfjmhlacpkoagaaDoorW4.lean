/-
  The walks over the reference's Of, Small, at, Cmp, Add, Sub.
-/
import Derived.Test.YtfjmhlacpkoagaaDoorW3
namespace Go.Proofs.YtfjmhlacpkoagaaDoor
open Go.RowKit
set_option linter.unusedVariables false






end Go.Proofs.YtfjmhlacpkoagaaDoor
