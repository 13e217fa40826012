/- The law of EnvOk: its walk. -/
import Derived.Test.YtcceeejmppamdaaDoorEnvH
namespace Go.Proofs.YtcceeejmppamdaaDoor
open Go.RowKit
set_option linter.unusedSimpArgs false

end Go.Proofs.YtcceeejmppamdaaDoor
