/- What the specification's numbers answer: the same as the program's. -/
import Derived.Test.YtlgjbfkhajphdaaDoorNumC
namespace Go.Proofs.YtlgjbfkhajphdaaDoor
open Go.RowKit Go.Iv

theorem sNumAdd_c (a b : Int) (ha : In a) (hb : In b) (w : World) : Calls Tryd.prog 29 #[.int .i64 a, .int .i64 b] w fun e w' => e = .returned (.tuple #[.int .i64 (clN (a + b)), .int .i64 (clO (a + b))]) ∧ w' = w := by
  obtain ⟨ha1, ha2⟩ := ha
  obtain ⟨hb1, hb2⟩ := hb
  by_cases hp : 0 < b
  · by_cases hf : 9223372036854775807 < a + b
    · have H : Hid (clN (a + b) = 0 ∧ clO (a + b) = 1) := cl_high _ hf
      go_enter Tryd.func29, Tryd.ntmps29
      go_wp2
      go_ret2
      exact ⟨ret_int2 (by rw [H.out.1, H.out.2]; exact ⟨rfl, rfl⟩), rfl⟩
    · have H : Hid (clN (a + b) = a + b ∧ clO (a + b) = 0) := cl_in _ (by unfold In; omega)
      go_enter Tryd.func29, Tryd.ntmps29
      go_wp2
      go_ret2
      exact ⟨ret_int2 (by rw [H.out.1, H.out.2]; exact ⟨rfl, rfl⟩), rfl⟩
  · by_cases hn : b < 0
    · by_cases hf : a + b < -9223372036854775808
      · have H : Hid (clN (a + b) = 0 ∧ clO (a + b) = -1) := cl_low _ hf
        go_enter Tryd.func29, Tryd.ntmps29
        go_wp2
        go_ret2
        exact ⟨ret_int2 (by rw [H.out.1, H.out.2]; exact ⟨rfl, rfl⟩), rfl⟩
      · have H : Hid (clN (a + b) = a + b ∧ clO (a + b) = 0) := cl_in _ (by unfold In; omega)
        go_enter Tryd.func29, Tryd.ntmps29
        go_wp2
        go_ret2
        exact ⟨ret_int2 (by rw [H.out.1, H.out.2]; exact ⟨rfl, rfl⟩), rfl⟩
    · have H : Hid (clN (a + b) = a + b ∧ clO (a + b) = 0) := cl_in _ (by unfold In; omega)
      go_enter Tryd.func29, Tryd.ntmps29
      go_wp2
      go_ret2
      exact ⟨ret_int2 (by rw [H.out.1, H.out.2]; exact ⟨rfl, rfl⟩), rfl⟩
end Go.Proofs.YtlgjbfkhajphdaaDoor
