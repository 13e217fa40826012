/- Plain arithmetic of quotients and what is left of them. -/
import Derived.Test.YtghajfccanhmaaaMathA
namespace Go.Iv

theorem tmod_side (a b : Int) (hb : b ≠ 0) : (a.tmod b = 0) ∨ (0 < a.tmod b ∧ 0 < a ∧ (a.tmod b < b ∨ b < -(a.tmod b))) ∨ (a.tmod b < 0 ∧ a < 0 ∧ (b < a.tmod b ∨ -(a.tmod b) < b)) := by
  have h1 := Int.natAbs_tmod a b
  have h2 : a.natAbs % b.natAbs < b.natAbs := Nat.mod_lt _ (by omega)
  have h3 : (a.tmod b).natAbs < b.natAbs := by omega
  by_cases h : 0 ≤ a
  · have h4 := Int.tmod_nonneg b h
    by_cases h5 : a = 0
    · rw [h5, Int.zero_tmod]; exact .inl rfl
    · omega
  · have h4 : 0 ≤ (-a).tmod b := Int.tmod_nonneg b (by omega)
    rw [Int.neg_tmod] at h4
    omega
theorem tdiv_tmod (a b : Int) : a.tdiv b * b + a.tmod b = a := Int.tdiv_mul_add_tmod a b
theorem tdiv_mul_in (a b : Int) (ha : In a) (hb : b ≠ 0) : In (a.tdiv b * b) := by
  have h1 := tdiv_tmod a b
  have h2 := tmod_side a b hb
  have h3 := Int.natAbs_tmod a b
  have h4 : a.natAbs % b.natAbs ≤ a.natAbs := Nat.mod_le _ _
  unfold In at *
  omega

end Go.Iv
