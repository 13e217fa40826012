/- What the program's and the specification's numbers answer, function by function: each call returns just that, and the world stays. -/
import Derived.Test.YtojakiiohbmlaaaRows
import Derived.Test.YtojakiiohbmlaaaMathA
import Derived.WalkKit
import Derived.Deep.QuietTactic
import Derived.Deep.RegionWith
import Derived.BigQuiet
namespace Go.Proofs.Ytojakiiohbmlaaa
open Go.RowKit Go.Iv

theorem ret_int {k : IntKind} {a b : Int} (h : a = b) : Ending.returned (.int k a) = .returned (.int k b) := by rw [h]
theorem ret_int2 {k l : IntKind} {a b c d : Int} (h : a = b ∧ c = d) : Ending.returned (.tuple #[.int k a, .int l c]) = .returned (.tuple #[.int k b, .int l d]) := by rw [h.1, h.2]

theorem NumRem_c (a b : Int) (ha : In a) (w : World) : Calls Try.prog 56 #[.int .i64 a, .int .i64 b] w fun e w' => e = .returned (.int .i64 (reN a b)) ∧ w' = w := by
  by_cases h0 : b = 0
  · have hz : (b == 0) = true := by simpa using h0
    have H : Hid (reN a b = 0) := by unfold reN; exact if_pos h0
    clear h0 ha
    go_enter Try.func56, Try.ntmps56
    go_wp2
    go_ret
    exact ⟨ret_int (by rw [H.out]), rfl⟩
  · have hz : (b == 0) = false := by simpa using h0
    have H : Hid (reN a b = a.tmod b) := by unfold reN; exact if_neg h0
    have G : Hid (In (a.tmod b)) := tmod_in a b ha
    clear ha
    go_enter Try.func56, Try.ntmps56
    go_wp2
    go_ret
    exact ⟨ret_int (by rw [H.out]), rfl⟩
end Go.Proofs.Ytojakiiohbmlaaa
