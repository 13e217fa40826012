/- How much of a size is left behind rows of numbers and of truths. -/
import Derived.Test.YtcceeejmppamdaaDoorBoolC
namespace Go.Proofs.YtcceeejmppamdaaDoor
open Go.RowKit
set_option linter.unusedSimpArgs false

theorem szInt64S_c (a : Option Addr) (n cap : Nat) (left : Int) (hn : n ≤ 9223372036854775807) (h0 : 0 ≤ left) (h1 : left ≤ 1048576) (w : World) : Calls Tryd.prog 33 #[.slice a n cap, .int .i64 left] w fun e w' => e = .returned (.int .i64 (sz1 n left)) ∧ w' = w := by
  have hn' : (n : Int) ≤ 9223372036854775807 := by omega
  unfold sz1
  by_cases hm : left - n < 0
  · rw [if_pos hm]
    go_enter Tryd.func33, Tryd.ntmps33
    go_wp2
    go_ret
    exact ⟨rfl, rfl⟩
  · rw [if_neg hm]
    go_enter Tryd.func33, Tryd.ntmps33
    go_wp2
    go_ret
    exact ⟨rfl, rfl⟩
theorem szBoolS_c (a : Option Addr) (n cap : Nat) (left : Int) (hn : n ≤ 9223372036854775807) (h0 : 0 ≤ left) (h1 : left ≤ 1048576) (w : World) : Calls Tryd.prog 34 #[.slice a n cap, .int .i64 left] w fun e w' => e = .returned (.int .i64 (sz1 n left)) ∧ w' = w := by
  have hn' : (n : Int) ≤ 9223372036854775807 := by omega
  unfold sz1
  by_cases hm : left - n < 0
  · rw [if_pos hm]
    go_enter Tryd.func34, Tryd.ntmps34
    go_wp2
    go_ret
    exact ⟨rfl, rfl⟩
  · rw [if_neg hm]
    go_enter Tryd.func34, Tryd.ntmps34
    go_wp2
    go_ret
    exact ⟨rfl, rfl⟩
end Go.Proofs.YtcceeejmppamdaaDoor
