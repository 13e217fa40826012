/- The law of EnvOk: its walk. -/
import Derived.Test.YthldhjifnpfmiaaGreatDoorEnvH
namespace Go.Proofs.YthldhjifnpfmiaaGreatDoor
open Go.RowKit
set_option linter.unusedSimpArgs false

end Go.Proofs.YthldhjifnpfmiaaGreatDoor
