/- What the program's and the specification's numbers answer, function by function: each call returns just that, and the world stays. -/
import Derived.Test.YtppchebikafmeaaDoorRows
import Derived.Test.YtppchebikafmeaaDoorMathA
import Derived.WalkKit
import Derived.Deep.QuietTactic
import Derived.Deep.RegionWith
import Derived.BigQuiet
namespace Go.Proofs.YtppchebikafmeaaDoor
open Go.RowKit Go.Iv

theorem ret_int {k : IntKind} {a b : Int} (h : a = b) : Ending.returned (.int k a) = .returned (.int k b) := by rw [h]
theorem ret_int2 {k l : IntKind} {a b c d : Int} (h : a = b ∧ c = d) : Ending.returned (.tuple #[.int k a, .int l c]) = .returned (.tuple #[.int k b, .int l d]) := by rw [h.1, h.2]

end Go.Proofs.YtppchebikafmeaaDoor
