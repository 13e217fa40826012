/- Comparisons of intervals: the specification's helpers. -/
import Derived.Test.YtlgjbfkhajphdaaDoorRefF
namespace Go.Proofs.YtlgjbfkhajphdaaDoor
open Go.RowKit Go.Iv
set_option linter.unusedSimpArgs false
set_option linter.unusedVariables false

/-- Does a comparison hold of all numbers of both? -/
def allB (op al ah bl bh : Int) : Bool := if op = 13 then decide (ah < bl) else if op = 14 then decide (ah ≤ bl) else if op = 15 then decide (al = ah ∧ al = bl ∧ ah = bh) else if op = 16 then decide (ah < bl ∨ bh < al) else if op = 17 then decide (bh < al) else decide (bh ≤ al)
def notN (op : Int) : Int := if op = 13 then 18 else if op = 14 then 17 else if op = 15 then 16 else if op = 16 then 15 else if op = 17 then 14 else 13
def oneN (b : Bool) : Int := if b then 1 else 0
theorem ref_dec {op al ah bl bh x y : Int} (h : 13 ≤ op ∧ op ≤ 18 ∧ al ≤ ah ∧ bl ≤ bh) (hx : refLo op al ah bl bh = x) (hy : refHi op al ah bl bh = y) : refB op al ah bl bh = decide (x ≤ y) := by
  by_cases c : x ≤ y
  · rw [(ref_yes h hx hy c).2.2, decide_eq_true c]
  · rw [(ref_non hx hy c).2.2, decide_eq_false c]
theorem ref_all {op al ah bl bh : Int} (h1 : 13 ≤ op ∧ op ≤ 18) (h2 : al ≤ ah ∧ bl ≤ bh) : refB op al ah bl bh = !allB (notN op) al ah bl bh := by
  have h := And.intro h1.1 (And.intro h1.2 h2)
  rcases (by omega : op = 13 ∨ op = 14 ∨ op = 15 ∨ op = 16 ∨ op = 17 ∨ op = 18) with rfl | rfl | rfl | rfl | rfl | rfl
  · refine (ref_dec (x := al) (y := mn ah (bh - 1)) h rfl rfl).trans (Eq.trans ?_ (show (!decide (bh ≤ al)) = _ from rfl))
    rw [← decide_not]; exact decide_eq_decide.2 (by rw [mn_eq]; omega)
  · refine (ref_dec (x := al) (y := mn ah bh) h rfl rfl).trans (Eq.trans ?_ (show (!decide (bh < al)) = _ from rfl))
    rw [← decide_not]; exact decide_eq_decide.2 (by rw [mn_eq]; omega)
  · refine (ref_dec (x := mx al bl) (y := mn ah bh) h rfl rfl).trans (Eq.trans ?_ (show (!decide (ah < bl ∨ bh < al)) = _ from rfl))
    rw [← decide_not]; exact decide_eq_decide.2 (by rw [mn_eq, mx_eq]; omega)
  · refine (ref_dec (x := if bl = bh ∧ al = bl then al + 1 else al) (y := if bl = bh ∧ ah = bl then ah - 1 else ah) h rfl rfl).trans (Eq.trans ?_ (show (!decide (al = ah ∧ al = bl ∧ ah = bh)) = _ from rfl))
    rw [← decide_not]; exact decide_eq_decide.2 (by split <;> split <;> omega)
  · refine (ref_dec (x := mx al (bl + 1)) (y := ah) h rfl rfl).trans (Eq.trans ?_ (show (!decide (ah ≤ bl)) = _ from rfl))
    rw [← decide_not]; exact decide_eq_decide.2 (by rw [mx_eq]; omega)
  · refine (ref_dec (x := mx al bl) (y := ah) h rfl rfl).trans (Eq.trans ?_ (show (!decide (ah < bl)) = _ from rfl))
    rw [← decide_not]; exact decide_eq_decide.2 (by rw [mx_eq]; omega)
theorem not_not {op : Int} (h : 13 ≤ op ∧ op ≤ 18) : notN (notN op) = op := by
  rcases (by omega : op = 13 ∨ op = 14 ∨ op = 15 ∨ op = 16 ∨ op = 17 ∨ op = 18) with rfl | rfl | rfl | rfl | rfl | rfl <;> rfl
theorem not_in {op : Int} (h : 13 ≤ op ∧ op ≤ 18) : 13 ≤ notN op ∧ notN op ≤ 18 := by
  rcases (by omega : op = 13 ∨ op = 14 ∨ op = 15 ∨ op = 16 ∨ op = 17 ∨ op = 18) with rfl | rfl | rfl | rfl | rfl | rfl <;> decide
/-- What a comparison of two intervals may be. -/
def cmpLo (op al ah bl bh : Int) : Int := if (13 ≤ op ∧ op ≤ 18) ∧ al ≤ ah ∧ bl ≤ bh then oneN (allB op al ah bl bh) else 0
def cmpHi (op al ah bl bh : Int) : Int := if (13 ≤ op ∧ op ≤ 18) ∧ al ≤ ah ∧ bl ≤ bh then 1 - oneN (allB (notN op) al ah bl bh) else 0

theorem truth_c (b : Bool) (w : World) : Calls Tryd.prog 21 #[.bool b] w fun e w' => e = .returned (.int .i64 (oneN b)) ∧ w' = w := by
  cases b
  all_goals
    go_enter Tryd.func21, Tryd.ntmps21
    go_wp2
    go_ret
    exact ⟨rfl, rfl⟩
theorem l5One_c (b : Bool) (w : World) : Calls Tryd.prog 23 #[.bool b] w fun e w' => e = .returned (.int .i64 (oneN b)) ∧ Below w.heap.size w w' := by
  cases b
  all_goals
    go_enter Tryd.func23, Tryd.ntmps23
    go_wp2
    go_ret
    exact ⟨rfl, Below.refl _ _⟩
theorem l7Not_c (op : Int) (h : 13 ≤ op ∧ op ≤ 18) (w : World) : Calls Tryd.prog 25 #[.int .i64 op] w fun e w' => e = .returned (.int .i64 (notN op)) ∧ Below w.heap.size w w' := by
  rcases (by omega : op = 13 ∨ op = 14 ∨ op = 15 ∨ op = 16 ∨ op = 17 ∨ op = 18) with rfl | rfl | rfl | rfl | rfl | rfl
  all_goals
    go_enter Tryd.func25, Tryd.ntmps25
    go_wp2
    go_ret
    exact ⟨rfl, (Below.refl _ _).alloc (Nat.le_refl _) _⟩
theorem l7All_c (op al ah bl bh : Int) (h : 13 ≤ op ∧ op ≤ 18) (w : World) : Calls Tryd.prog 24 #[.int .i64 op, .agg #[.int .i64 al, .int .i64 ah], .agg #[.int .i64 bl, .int .i64 bh]] w fun e w' => e = .returned (.bool (allB op al ah bl bh)) ∧ Below w.heap.size w w' := by
  have K := fun o1 o2 => ((Below.refl _ w).alloc (Nat.le_refl _) o1).alloc (by simp) o2
  rcases (by omega : op = 13 ∨ op = 14 ∨ op = 15 ∨ op = 16 ∨ op = 17 ∨ op = 18) with rfl | rfl | rfl | rfl | rfl | rfl
  · go_enter Tryd.func24, Tryd.ntmps24
    go_wp2
    go_ret
    exact ⟨rfl, K _ _⟩
  · go_enter Tryd.func24, Tryd.ntmps24
    go_wp2
    go_ret
    exact ⟨rfl, K _ _⟩
  · by_cases c : al = ah
    · subst c
      go_enter Tryd.func24, Tryd.ntmps24
      go_wp2
      all_goals go_ret
      all_goals refine ⟨ret_bool ?_, K _ _⟩
      all_goals show _ = decide _
      all_goals first | (simp; done) | (simp; omega)
    · have c1 : (al == ah) = false := by simpa using c
      go_enter Tryd.func24, Tryd.ntmps24
      go_wp2
      go_ret
      exact ⟨ret_bool (by show _ = decide _; simp [c]), K _ _⟩
  · by_cases c : ah < bl
    · go_enter Tryd.func24, Tryd.ntmps24
      go_wp2
      go_ret
      exact ⟨ret_bool (by show _ = decide _; simp [c]), K _ _⟩
    · go_enter Tryd.func24, Tryd.ntmps24
      go_wp2
      go_ret
      exact ⟨ret_bool (by show _ = decide _; simp; omega), K _ _⟩
  · go_enter Tryd.func24, Tryd.ntmps24
    go_wp2
    go_ret
    exact ⟨rfl, K _ _⟩
  · go_enter Tryd.func24, Tryd.ntmps24
    go_wp2
    go_ret
    exact ⟨rfl, K _ _⟩
end Go.Proofs.YtlgjbfkhajphdaaDoor
