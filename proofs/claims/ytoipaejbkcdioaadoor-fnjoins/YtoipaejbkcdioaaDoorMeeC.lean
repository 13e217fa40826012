/- The specification's meet of two intervals. -/
import Derived.Test.YtoipaejbkcdioaaDoorJoiG
namespace Go.Proofs.YtoipaejbkcdioaaDoor
open Go.RowKit
set_option linter.unusedSimpArgs false
set_option linter.unusedVariables false

end Go.Proofs.YtoipaejbkcdioaaDoor
