/- The law of EnvOk: its walk. -/
import Derived.Test.YtmebmblllbmoaaaDoorEnvH
namespace Go.Proofs.YtmebmblllbmoaaaDoor
open Go.RowKit
set_option linter.unusedSimpArgs false

end Go.Proofs.YtmebmblllbmoaaaDoor
