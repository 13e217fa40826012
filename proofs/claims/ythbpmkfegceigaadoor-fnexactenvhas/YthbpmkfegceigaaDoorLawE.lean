/- The law of EnvOk: its walk. -/
import Derived.Test.YthbpmkfegceigaaDoorEnvH
namespace Go.Proofs.YthbpmkfegceigaaDoor
open Go.RowKit
set_option linter.unusedSimpArgs false

end Go.Proofs.YthbpmkfegceigaaDoor
