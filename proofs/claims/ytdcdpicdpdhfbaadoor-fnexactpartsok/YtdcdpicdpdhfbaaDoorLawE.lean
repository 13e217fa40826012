/- The law of EnvOk: its walk. -/
import Derived.Test.YtdcdpicdpdhfbaaDoorEnvH
namespace Go.Proofs.YtdcdpicdpdhfbaaDoor
open Go.RowKit
set_option linter.unusedSimpArgs false

end Go.Proofs.YtdcdpicdpdhfbaaDoor
