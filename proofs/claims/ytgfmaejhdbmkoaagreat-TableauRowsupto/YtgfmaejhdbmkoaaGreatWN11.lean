import Derived.Test.YtgfmaejhdbmkoaaGreatNumS
set_option linter.unusedSimpArgs false
namespace Go.Proofs.YtgfmaejhdbmkoaaGreat
open Go.RowKit
set_option linter.unusedVariables false
end Go.Proofs.YtgfmaejhdbmkoaaGreat
