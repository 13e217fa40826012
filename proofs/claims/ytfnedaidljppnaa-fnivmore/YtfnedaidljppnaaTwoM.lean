/- What an operation gives of one number each. -/
import Derived.Test.YtfnedaidljppnaaTwoC
namespace Go.Proofs.Ytfnedaidljppnaa
open Go.RowKit Go.Iv
set_option linter.unusedSimpArgs false

theorem span_in (x : Int) (h : In x) : span x x = ⟨x, x, true, 0⟩ := by
  unfold In at h; unfold span; rw [if_neg (by omega), if_neg (by omega)]; congr 1 <;> omega
theorem span_out (x : Int) (h : ¬ In x) : span x x = ⟨0, 0, false, 4⟩ := by
  unfold In at h; unfold span; rw [if_pos (by omega)]
theorem cor_one (f : Int → Int → Int) (a b : Int) : corV f a a b b = span (f a b) (f a b) := by
  unfold corV
  rw [if_pos ⟨Int.le_refl _, Int.le_refl _⟩]
  show span (minL (f a b) [f a b, f a b, f a b]) (maxL (f a b) [f a b, f a b, f a b]) = _
  rw [show minL (f a b) [f a b, f a b, f a b] = f a b by simp only [minL]; omega, show maxL (f a b) [f a b, f a b, f a b] = f a b by simp only [maxL]; omega]
theorem dvA_ne (b : Int) (h : b ≠ 0) : dvA b b = 0 := if_neg (by simp [hasB]; omega)
theorem dvA_zero : dvA 0 0 = 1 := rfl
theorem quo_one (a b : Int) (h : b ≠ 0) : quoV a a b b = span (a.tdiv b) (a.tdiv b) := by
  have e : spanL (quoL a a b b) = span (a.tdiv b) (a.tdiv b) := by
    unfold quoL
    rcases Int.lt_or_gt_of_ne h with hb | hb
    · rw [if_pos hb, if_neg (by omega), show min b (-1) = b by omega]
      show span (minL (a.tdiv b) [a.tdiv b, a.tdiv b, a.tdiv b]) (maxL (a.tdiv b) [a.tdiv b, a.tdiv b, a.tdiv b]) = _
      generalize a.tdiv b = q
      rw [show minL q [q, q, q] = q by simp only [minL]; omega, show maxL q [q, q, q] = q by simp only [maxL]; omega]
    · rw [if_neg (by omega), if_pos hb, show max b 1 = b by omega]
      show span (minL (a.tdiv b) [a.tdiv b, a.tdiv b, a.tdiv b]) (maxL (a.tdiv b) [a.tdiv b, a.tdiv b, a.tdiv b]) = _
      generalize a.tdiv b = q
      rw [show minL q [q, q, q] = q by simp only [minL]; omega, show maxL q [q, q, q] = q by simp only [maxL]; omega]
  have ha := spanL_al (quoL a a b b)
  unfold quoV
  rw [if_pos ⟨Int.le_refl _, Int.le_refl _⟩, dvA_ne b h, or_zero _ ha, e]
theorem quo_zero (a : Int) : quoV a a 0 0 = ⟨0, 0, false, 1⟩ := by
  have e : quoL a a 0 0 = [] := by unfold quoL; rw [if_neg (by omega), if_neg (by omega)]; rfl
  have o : bits .or .i64 0 1 = 1 := by decide +kernel
  unfold quoV
  rw [if_pos ⟨Int.le_refl _, Int.le_refl _⟩, e, dvA_zero]
  show (⟨0, 0, false, bits .or .i64 0 1⟩ : V) = _
  rw [o]
theorem rem_one (a b : Int) (h : b ≠ 0) : remV a a b b = ⟨reN a b, reN a b, true, 0⟩ := by
  unfold remV
  rw [if_pos ⟨Int.le_refl _, Int.le_refl _⟩, if_neg (by omega), dvA_ne b h]
  unfold reL reH
  rw [if_pos ⟨rfl, rfl⟩, if_pos ⟨rfl, rfl⟩]
theorem rem_zero_one (a : Int) : remV a a 0 0 = ⟨0, 0, false, 1⟩ := by
  unfold remV
  rw [if_pos ⟨Int.le_refl _, Int.le_refl _⟩, if_pos ⟨rfl, rfl⟩]
end Go.Proofs.Ytfnedaidljppnaa
