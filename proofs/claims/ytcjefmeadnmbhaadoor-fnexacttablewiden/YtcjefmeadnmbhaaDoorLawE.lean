/- The law of EnvOk: its walk. -/
import Derived.Test.YtcjefmeadnmbhaaDoorEnvH
namespace Go.Proofs.YtcjefmeadnmbhaaDoor
open Go.RowKit
set_option linter.unusedSimpArgs false

end Go.Proofs.YtcjefmeadnmbhaaDoor
