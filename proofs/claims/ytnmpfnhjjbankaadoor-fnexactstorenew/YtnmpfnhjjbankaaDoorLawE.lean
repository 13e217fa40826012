/- The law of EnvOk: its walk. -/
import Derived.Test.YtnmpfnhjjbankaaDoorEnvH
namespace Go.Proofs.YtnmpfnhjjbankaaDoor
open Go.RowKit
set_option linter.unusedSimpArgs false

end Go.Proofs.YtnmpfnhjjbankaaDoor
