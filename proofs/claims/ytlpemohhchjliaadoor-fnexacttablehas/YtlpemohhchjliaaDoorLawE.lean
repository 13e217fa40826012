/- The law of EnvOk: its walk. -/
import Derived.Test.YtlpemohhchjliaaDoorEnvH
namespace Go.Proofs.YtlpemohhchjliaaDoor
open Go.RowKit
set_option linter.unusedSimpArgs false

end Go.Proofs.YtlpemohhchjliaaDoor
