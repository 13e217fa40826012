/- What the specification's numbers answer: the same as the program's. -/
import Derived.Test.YtojakiiohbmlaaaNumC
namespace Go.Proofs.Ytojakiiohbmlaaa
open Go.RowKit Go.Iv

theorem sNumAdd_c (a b : Int) (ha : In a) (hb : In b) (w : World) : Calls Try.prog 54 #[.int .i64 a, .int .i64 b] w fun e w' => e = .returned (.tuple #[.int .i64 (clN (a + b)), .int .i64 (clO (a + b))]) ∧ w' = w := by
  obtain ⟨ha1, ha2⟩ := ha
  obtain ⟨hb1, hb2⟩ := hb
  by_cases hp : 0 < b
  · by_cases hf : 9223372036854775807 < a + b
    · have H : Hid (clN (a + b) = 0 ∧ clO (a + b) = 1) := cl_high _ hf
      go_enter Try.func54, Try.ntmps54
      go_wp2
      go_ret2
      exact ⟨ret_int2 (by rw [H.out.1, H.out.2]; exact ⟨rfl, rfl⟩), rfl⟩
    · have H : Hid (clN (a + b) = a + b ∧ clO (a + b) = 0) := cl_in _ (by unfold In; omega)
      go_enter Try.func54, Try.ntmps54
      go_wp2
      go_ret2
      exact ⟨ret_int2 (by rw [H.out.1, H.out.2]; exact ⟨rfl, rfl⟩), rfl⟩
  · by_cases hn : b < 0
    · by_cases hf : a + b < -9223372036854775808
      · have H : Hid (clN (a + b) = 0 ∧ clO (a + b) = -1) := cl_low _ hf
        go_enter Try.func54, Try.ntmps54
        go_wp2
        go_ret2
        exact ⟨ret_int2 (by rw [H.out.1, H.out.2]; exact ⟨rfl, rfl⟩), rfl⟩
      · have H : Hid (clN (a + b) = a + b ∧ clO (a + b) = 0) := cl_in _ (by unfold In; omega)
        go_enter Try.func54, Try.ntmps54
        go_wp2
        go_ret2
        exact ⟨ret_int2 (by rw [H.out.1, H.out.2]; exact ⟨rfl, rfl⟩), rfl⟩
    · have H : Hid (clN (a + b) = a + b ∧ clO (a + b) = 0) := cl_in _ (by unfold In; omega)
      go_enter Try.func54, Try.ntmps54
      go_wp2
      go_ret2
      exact ⟨ret_int2 (by rw [H.out.1, H.out.2]; exact ⟨rfl, rfl⟩), rfl⟩
theorem sAbs_c (n : Int) (h : In n) (w : World) : Calls Try.prog 50 #[.int .i64 n] w fun e w' => e = .returned (.int .u64 (dist n)) ∧ w' = w := by
  have H : Hid (In n) := h
  clear h
  by_cases h : n < 0
  · go_enter Try.func50, Try.ntmps50
    go_wp2
    go_ret
    exact ⟨ret_int (by have := H.out; unfold In at this; simp only [IntKind.wrap_u64]; unfold dist; omega), rfl⟩
  · go_enter Try.func50, Try.ntmps50
    go_wp2
    go_ret
    exact ⟨ret_int (by have := H.out; unfold In at this; simp only [IntKind.wrap_u64]; unfold dist; omega), rfl⟩
theorem sNumRem_c (a b : Int) (ha : In a) (w : World) : Calls Try.prog 49 #[.int .i64 a, .int .i64 b] w fun e w' => e = .returned (.int .i64 (reN a b)) ∧ w' = w := by
  by_cases h0 : b = 0
  · have hz : (b == 0) = true := by simpa using h0
    have H : Hid (reN a b = 0) := by unfold reN; exact if_pos h0
    clear h0 ha
    go_enter Try.func49, Try.ntmps49
    go_wp2
    go_ret
    exact ⟨ret_int (by rw [H.out]), rfl⟩
  · have hz : (b == 0) = false := by simpa using h0
    by_cases h1 : b = -1
    · have hz1 : (b == -1) = true := by simpa using h1
      have H : Hid (reN a b = 0) := by
        unfold reN; rw [if_neg h0, h1]; show a.tmod (-1) = 0
        rw [Int.tmod_neg, Int.tmod_one]
      clear h0 h1 ha
      go_enter Try.func49, Try.ntmps49
      go_wp2
      go_ret
      exact ⟨ret_int (by rw [H.out]), rfl⟩
    · have hz1 : (b == -1) = false := by simpa using h1
      have H : Hid (reN a b = a.tmod b) := by unfold reN; exact if_neg h0
      have G : Hid (In (a.tmod b)) := tmod_in a b ha
      clear ha h1
      go_enter Try.func49, Try.ntmps49
      go_wp2
      go_ret
      exact ⟨ret_int (by rw [H.out]), rfl⟩
end Go.Proofs.Ytojakiiohbmlaaa
