import Derived.Test.YtlklfkkbdcglbaaGreatNumS
set_option linter.unusedSimpArgs false
namespace Go.Proofs.YtlklfkkbdcglbaaGreat
open Go.RowKit
set_option linter.unusedVariables false
end Go.Proofs.YtlklfkkbdcglbaaGreat
