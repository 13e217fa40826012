/- What comparisons leave of an interval: the specification's IvRefine. -/
import Derived.Test.YtlgjbfkhajphdaaDoorRefE
namespace Go.Proofs.YtlgjbfkhajphdaaDoor
open Go.RowKit Go.Iv
set_option linter.unusedSimpArgs false
set_option linter.unusedVariables false

theorem inR_c (n lo hi : Int) (w : World) : Calls Tryd.prog 36 #[.int .i64 n, .int .i64 lo, .int .i64 hi] w fun e w' => e = .returned (.bool (hasB lo hi n)) ∧ w' = w := by
  by_cases h1 : lo ≤ n
  · go_enter Tryd.func36, Tryd.ntmps36
    go_wp2
    go_ret
    exact ⟨ret_bool (by unfold hasB; simp [h1]), rfl⟩
  · go_enter Tryd.func36, Tryd.ntmps36
    go_wp2
    go_ret
    exact ⟨ret_bool (by unfold hasB; simp; omega), rfl⟩
theorem l7Compares_c (op : Int) (w : World) : Calls Tryd.prog 22 #[.int .i64 op] w fun e w' => e = .returned (.bool (cmpB op)) ∧ Below w.heap.size w w' := by
  go_enter Tryd.func22, Tryd.ntmps22
  go_wp2_with fail
  refine (inR_c _ _ _ _).mono ?_
  rintro e w1 ⟨rfl, rfl⟩
  go_wp2
  go_ret
  exact ⟨rfl, Below.refl _ _⟩
theorem alloc_cell {w : World} {o : Obj} {k j : Nat} (h : k < w.heap.size) : (w.alloc o).cell? ⟨k, j, none⟩ = w.cell? ⟨k, j, none⟩ := ((Below.refl _ w).alloc (Nat.le_refl _) o).cell (p := ⟨k, j, none⟩) h
theorem alloc_frozen {w : World} {o : Obj} {k j : Nat} (h : k < w.heap.size) : (w.alloc o).frozen? ⟨k, j, none⟩ = w.frozen? ⟨k, j, none⟩ := ((Below.refl _ w).alloc (Nat.le_refl _) o).frozen (p := ⟨k, j, none⟩) h
end Go.Proofs.YtlgjbfkhajphdaaDoor
