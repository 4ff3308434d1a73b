/-
  The reference's sums, products and order; layer 2's order.
-/
import Derived.Test.YthodhmkplfiohaaGreatDoorWI1
import Derived.Test.YthodhmkplfiohaaGreatDoorW8
import Derived.Test.YthodhmkplfiohaaGreatDoorWI2
import Derived.Test.YthodhmkplfiohaaGreatDoorW13
namespace Go.Proofs.YthodhmkplfiohaaGreatDoor
open Go.RowKit
set_option linter.unusedVariables false

end Go.Proofs.YthodhmkplfiohaaGreatDoor

namespace Go.Proofs.YthodhmkplfiohaaGreatDoor
open Go.RowKit
set_option linter.unusedVariables false





end Go.Proofs.YthodhmkplfiohaaGreatDoor
