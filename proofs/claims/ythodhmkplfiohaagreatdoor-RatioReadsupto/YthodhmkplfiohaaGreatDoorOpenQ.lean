/-
  From what a law's row hands over (an api.Rat that came in) to the walks' words.
-/
import Derived.Test.YthodhmkplfiohaaGreatDoorRows
import Derived.Test.YthodhmkplfiohaaGreatDoorMem
import Derived.ProofKit
import Derived.OpenShut
import Derived.ShutString
import Derived.ChangeOld
import Derived.JoinedCond
import Derived.Deep.CondSized
import Derived.Sort.Row
import Derived.ChangeSame
namespace Go.Proofs.YthodhmkplfiohaaGreatDoor
open Go.ChangeShapes Go.WideShapes Go.ChangeAt Go.RowKit
set_option linter.unusedVariables false

theorem own : ownKnob Tryz.prog.godebug = none := by kernel_rfl
end Go.Proofs.YthodhmkplfiohaaGreatDoor

namespace Go.Proofs.YthodhmkplfiohaaGreatDoor
open Go.ChangeShapes Go.WideShapes Go.ChangeAt Go.RowKit
set_option linter.unusedVariables false

end Go.Proofs.YthodhmkplfiohaaGreatDoor

namespace Go.Proofs.YthodhmkplfiohaaGreatDoor
open Go.ChangeShapes Go.WideShapes Go.ChangeAt Go.RowKit
set_option linter.unusedVariables false

end Go.Proofs.YthodhmkplfiohaaGreatDoor
