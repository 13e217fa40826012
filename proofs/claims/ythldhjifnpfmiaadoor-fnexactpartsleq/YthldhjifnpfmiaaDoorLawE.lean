/- The law of EnvOk: its walk. -/
import Derived.Test.YthldhjifnpfmiaaDoorEnvH
namespace Go.Proofs.YthldhjifnpfmiaaDoor
open Go.RowKit
set_option linter.unusedSimpArgs false

end Go.Proofs.YthldhjifnpfmiaaDoor
