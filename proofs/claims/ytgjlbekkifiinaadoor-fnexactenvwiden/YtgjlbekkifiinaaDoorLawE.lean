/- The law of EnvOk: its walk. -/
import Derived.Test.YtgjlbekkifiinaaDoorEnvH
namespace Go.Proofs.YtgjlbekkifiinaaDoor
open Go.RowKit
set_option linter.unusedSimpArgs false

end Go.Proofs.YtgjlbekkifiinaaDoor
