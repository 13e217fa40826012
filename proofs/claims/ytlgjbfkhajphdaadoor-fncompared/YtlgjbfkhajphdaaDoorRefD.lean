/- What comparisons leave of an interval: the program's IvRefine and the specification's. -/
import Derived.Test.YtlgjbfkhajphdaaDoorRefC
namespace Go.Proofs.YtlgjbfkhajphdaaDoor
open Go.RowKit Go.Iv
set_option linter.unusedSimpArgs false
set_option linter.unusedVariables false

theorem unlike_c (al ah bl bh : Int) (ha : In al) (hh : In ah) (h1 : al ≤ ah) (h2 : bl ≤ bh) (w : World) : Calls Tryd.prog 35 #[.agg #[.int .i64 al, .int .i64 ah], .agg #[.int .i64 bl, .int .i64 bh]] w fun e w' => e = .returned (.tuple #[.agg #[.int .i64 (refL 16 al ah bl bh), .int .i64 (refH 16 al ah bl bh)], .bool (refB 16 al ah bl bh)]) ∧ Below w.heap.size w w' := by
  by_cases c1 : bl = bh
  · subst c1
    by_cases c2 : bl = al
    · subst c2
      by_cases c3 : bl < ah
      · have E : Hid (refL 16 bl ah bl bl = mx bl (bl + 1) ∧ refH 16 bl ah bl bl = ah ∧ refB 16 bl ah bl bl = true) := ref_yes (by omega) (by unfold refLo; rw [if_neg (by omega), if_neg (by omega), if_neg (by omega), if_pos rfl, if_pos ⟨rfl, rfl⟩, mx_eq]; omega) (by unfold refHi; rw [if_neg (by omega), if_neg (by omega), if_neg (by omega), if_pos rfl, if_neg (by omega)]) (by rw [mx_eq]; omega)
        clear h1 h2
        go_enter Tryd.func35, Tryd.ntmps35
        go_wp2_with fail
        refine (moreThan_t _ _ _ ha hh ha c3 _).mono ?_
        rintro e w1 ⟨rfl, hb1⟩
        have B1 := hb1.mono (show w.heap.size + 3 ≤ _ by simp)
        clear hb1
        obtain ⟨hc1, hf1⟩ := bcellB B1
        have K : Hid (Below w.heap.size w w1) := ((((Below.refl _ _).alloc (Nat.le_refl _) _).alloc (by simp) _).alloc (by simp; omega) _).trans (B1.mono (by omega))
        have z : Hid (w.heap.size + 3 ≤ w1.heap.size) := by have := B1.size; simp at this; unfold Hid; omega
        clear B1
        go_wp2
        exact bodyPost_ret (v := .tuple #[.agg #[.int .i64 (mx bl (bl + 1)), .int .i64 ah], .bool true]) (by simp [results, Tryd.results35, go_sem, hc1, z.out]) rfl ⟨by rw [E.out.1, E.out.2.1, E.out.2.2], (K.out.setCell (by simp; omega) _).setCell (by simp; omega) _⟩
      · have E : Hid (refL 16 bl ah bl bl = 0 ∧ refH 16 bl ah bl bl = 0 ∧ refB 16 bl ah bl bl = false) := ref_non (x := bl + 1) (y := ah - 1) (by unfold refLo; rw [if_neg (by omega), if_neg (by omega), if_neg (by omega), if_pos rfl, if_pos ⟨rfl, rfl⟩]) (by unfold refHi; rw [if_neg (by omega), if_neg (by omega), if_neg (by omega), if_pos rfl, if_pos ⟨rfl, by omega⟩]) (by omega)
        have c4 : ah ≤ bl := by omega
        clear h1 h2 c3
        go_enter Tryd.func35, Tryd.ntmps35
        go_wp2_with fail
        refine (moreThan_f _ _ _ c4 _).mono ?_
        rintro e w1 ⟨rfl, hb1⟩
        have B1 := hb1.mono (show w.heap.size + 3 ≤ _ by simp)
        clear hb1
        obtain ⟨hc1, hf1⟩ := bcellB B1
        have K : Hid (Below w.heap.size w w1) := ((((Below.refl _ _).alloc (Nat.le_refl _) _).alloc (by simp) _).alloc (by simp; omega) _).trans (B1.mono (by omega))
        have z : Hid (w.heap.size + 3 ≤ w1.heap.size) := by have := B1.size; simp at this; unfold Hid; omega
        clear B1
        go_wp2
        exact bodyPost_ret (v := .tuple #[.agg #[.int .i64 0, .int .i64 0], .bool false]) (by simp [results, Tryd.results35, go_sem, hc1, z.out]) rfl ⟨by rw [E.out.1, E.out.2.1, E.out.2.2], (K.out.setCell (by simp; omega) _).setCell (by simp; omega) _⟩
    · have d2 : (bl == al) = false := by simpa using c2
      by_cases c3 : bl = ah
      · subst c3
        have c4 : al < bl := by omega
        have E : Hid (refL 16 al bl bl bl = al ∧ refH 16 al bl bl bl = mn bl (bl - 1) ∧ refB 16 al bl bl bl = true) := ref_yes (by omega) (by unfold refLo; rw [if_neg (by omega), if_neg (by omega), if_neg (by omega), if_pos rfl, if_neg (by omega)]) (by unfold refHi; rw [if_neg (by omega), if_neg (by omega), if_neg (by omega), if_pos rfl, if_pos ⟨rfl, rfl⟩, mn_eq]; omega) (by rw [mn_eq]; omega)
        clear h1 h2 c2
        go_enter Tryd.func35, Tryd.ntmps35
        go_wp2_with fail
        refine (lessThan_t _ _ _ ha hh hh c4 _).mono ?_
        rintro e w1 ⟨rfl, hb1⟩
        have B1 := hb1.mono (show w.heap.size + 3 ≤ _ by simp)
        clear hb1
        obtain ⟨hc1, hf1⟩ := bcellB B1
        have K : Hid (Below w.heap.size w w1) := ((((Below.refl _ _).alloc (Nat.le_refl _) _).alloc (by simp) _).alloc (by simp; omega) _).trans (B1.mono (by omega))
        have z : Hid (w.heap.size + 3 ≤ w1.heap.size) := by have := B1.size; simp at this; unfold Hid; omega
        clear B1
        go_wp2
        exact bodyPost_ret (v := .tuple #[.agg #[.int .i64 al, .int .i64 (mn bl (bl - 1))], .bool true]) (by simp [results, Tryd.results35, go_sem, hc1, z.out]) rfl ⟨by rw [E.out.1, E.out.2.1, E.out.2.2], (K.out.setCell (by simp; omega) _).setCell (by simp; omega) _⟩
      · have d3 : (bl == ah) = false := by simpa using c3
        have E : Hid (refL 16 al ah bl bl = al ∧ refH 16 al ah bl bl = ah ∧ refB 16 al ah bl bl = true) := ref_yes (by omega) (by unfold refLo; rw [if_neg (by omega), if_neg (by omega), if_neg (by omega), if_pos rfl, if_neg (by omega)]) (by unfold refHi; rw [if_neg (by omega), if_neg (by omega), if_neg (by omega), if_pos rfl, if_neg (by omega)]) (by omega)
        clear h1 h2 c2 c3
        go_enter Tryd.func35, Tryd.ntmps35
        go_wp2
        exact bodyPost_ret (v := .tuple #[.agg #[.int .i64 al, .int .i64 ah], .bool true]) (by simp [results, Tryd.results35, go_sem]) rfl ⟨by rw [E.out.1, E.out.2.1, E.out.2.2], ((((Below.refl _ _).alloc (Nat.le_refl _) _).alloc (by simp) _).alloc (by simp; omega) _)⟩
  · have d1 : (bl != bh) = true := by simpa using c1
    have E : Hid (refL 16 al ah bl bh = al ∧ refH 16 al ah bl bh = ah ∧ refB 16 al ah bl bh = true) := ref_yes (by omega) (by unfold refLo; rw [if_neg (by omega), if_neg (by omega), if_neg (by omega), if_pos rfl, if_neg (by omega)]) (by unfold refHi; rw [if_neg (by omega), if_neg (by omega), if_neg (by omega), if_pos rfl, if_neg (by omega)]) (by omega)
    clear h1 h2 c1
    go_enter Tryd.func35, Tryd.ntmps35
    go_wp2
    exact bodyPost_ret (v := .tuple #[.agg #[.int .i64 al, .int .i64 ah], .bool true]) (by simp [results, Tryd.results35, go_sem]) rfl ⟨by rw [E.out.1, E.out.2.1, E.out.2.2], ((((Below.refl _ _).alloc (Nat.le_refl _) _).alloc (by simp) _).alloc (by simp; omega) _)⟩
end Go.Proofs.YtlgjbfkhajphdaaDoor
