/- Parts that rise: where a token's part lies. -/
import Derived.Test.YthldhjifnpfmiaaGreatDoorParE
import Derived.Test.YthldhjifnpfmiaaGreatDoorTokP
namespace Go.Proofs.YthldhjifnpfmiaaGreatDoor
open Go.RowKit
set_option linter.unusedSimpArgs false
set_option linter.unusedVariables false

theorem parts_parts {vs fs : List ByteArray} {rs : List (ByteArray × Int)} {ps : List PR} (h : partsB vs fs rs ps = true) : declB vs fs rs = true ∧ ps.length ≤ 100 ∧ ∀ k, k < ps.length → okAt vs fs rs ps k = true := by
  unfold partsB at h
  rw [Bool.and_eq_true, Bool.and_eq_true, List.all_eq_true] at h
  exact ⟨h.1, of_decide_eq_true h.2.1, fun k hk => h.2.2 k (List.mem_range.2 hk)⟩
theorem parts_at {vs fs : List ByteArray} {rs : List (ByteArray × Int)} {ps : List PR} (h : partsB vs fs rs ps = true) (k : Nat) (hk : k < ps.length) : tokB ps[k].1 = true ∧ tabB vs fs rs ps[k].2 = true ∧ liveB ps[k].2 = true := by
  have q := okAt_part hk ((parts_parts h).2.2 k hk)
  unfold partOk at q
  rw [Bool.and_eq_true, Bool.and_eq_true] at q
  exact q
theorem parts_step {vs fs : List ByteArray} {rs : List (ByteArray × Int)} {ps : List PR} (h : partsB vs fs rs ps = true) (k : Nat) (hk : k + 1 < ps.length) : tokC ps[k].1 ps[k + 1].1 < 0 := by
  have q := (parts_parts h).2.2 (k + 1) hk
  rw [okAt_s k hk, Bool.and_eq_true] at q
  exact of_decide_eq_true q.2
theorem parts_rise {vs fs : List ByteArray} {rs : List (ByteArray × Int)} {ps : List PR} (h : partsB vs fs rs ps = true) (i : Nat) : ∀ d, (hj : i + d + 1 < ps.length) → tokC (ps[i]'(by omega)).1 ps[i + d + 1].1 < 0
  | 0, hj => parts_step h i hj
  | d + 1, hj => tokC_trans _ _ _ (parts_rise h i d (by omega)) (parts_step h (i + d + 1) hj)
theorem parts_one {vs fs : List ByteArray} {rs : List (ByteArray × Int)} {ps : List PR} (h : partsB vs fs rs ps = true) (i j : Nat) (hi : i < ps.length) (hj : j < ps.length) (e : ps[i].1 = ps[j].1) : i = j := by
  rcases Nat.lt_trichotomy i j with q | q | q
  · have := parts_rise h i (j - i - 1) (by omega)
    simp only [show i + (j - i - 1) + 1 = j by omega] at this
    rw [e, tokC_self] at this
    omega
  · exact q
  · have := parts_rise h j (i - j - 1) (by omega)
    simp only [show j + (i - j - 1) + 1 = i by omega] at this
    rw [e, tokC_self] at this
    omega
/-- The last of the first k parts that has this token. -/
def posT (ps : List PR) (t : List (Int × Int)) : Nat → Option Nat
  | 0 => none
  | k + 1 => if (ps.getD k ([], [])).1 = t then some k else posT ps t k
theorem posT_some {ps : List PR} {t : List (Int × Int)} : ∀ {k i : Nat}, k ≤ ps.length → posT ps t k = some i → ∃ h : i < ps.length, i < k ∧ ps[i].1 = t
  | 0, i, _, h => by cases h
  | k + 1, i, hk, h => by
    unfold posT at h
    rw [getD_at ps k (by omega)] at h
    split at h
    · rename_i e
      cases h
      exact ⟨by omega, by omega, e⟩
    · obtain ⟨h1, h2, h3⟩ := posT_some (by omega) h
      exact ⟨h1, by omega, h3⟩
theorem posT_none {ps : List PR} {t : List (Int × Int)} : ∀ {k : Nat}, k ≤ ps.length → posT ps t k = none → ∀ i, (h : i < ps.length) → i < k → ps[i].1 ≠ t
  | 0, _, _, i, _, h => by omega
  | k + 1, hk, h, i, hi, h1 => by
    unfold posT at h
    rw [getD_at ps k (by omega)] at h
    split at h
    · cases h
    · rename_i e
      by_cases q : i = k
      · subst q; exact e
      · exact posT_none (by omega) h i hi (by omega)
theorem posT_is {vs fs : List ByteArray} {rs : List (ByteArray × Int)} {ps : List PR} (h : partsB vs fs rs ps = true) {t : List (Int × Int)} {i : Nat} (hi : i < ps.length) (e : ps[i].1 = t) : posT ps t ps.length = some i := by
  cases q : posT ps t ps.length with
  | none => exact absurd e (posT_none (Nat.le_refl _) q i hi hi)
  | some j =>
    obtain ⟨h1, _, h2⟩ := posT_some (Nat.le_refl _) q
    rw [parts_one h j i h1 hi (h2.trans e.symm)]
theorem posT_no {ps : List PR} {t : List (Int × Int)} (h : ∀ i, (hi : i < ps.length) → ps[i].1 ≠ t) : posT ps t ps.length = none := by
  cases q : posT ps t ps.length with
  | none => rfl
  | some j =>
    obtain ⟨h1, _, h2⟩ := posT_some (Nat.le_refl _) q
    exact absurd h2 (h j h1)
end Go.Proofs.YthldhjifnpfmiaaGreatDoor
