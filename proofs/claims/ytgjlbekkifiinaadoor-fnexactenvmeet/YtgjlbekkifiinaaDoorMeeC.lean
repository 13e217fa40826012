/- The specification's meet of two intervals. -/
import Derived.Test.YtgjlbekkifiinaaDoorJoiG
namespace Go.Proofs.YtgjlbekkifiinaaDoor
open Go.RowKit
set_option linter.unusedSimpArgs false
set_option linter.unusedVariables false

theorem meet_bad (al ah bl bh : Int) (h : ¬ al ≤ ah ∨ ¬ bl ≤ bh) : ¬ mx al bl ≤ mn ah bh := by
  rw [mx_eq, mn_eq]; omega
theorem sIvMeet_c (al ah bl bh : Int) (w : World) : Calls Tryd.prog 60 #[.agg #[.int .i64 al, .int .i64 ah], .agg #[.int .i64 bl, .int .i64 bh]] w fun e w' => e = .returned (.tuple #[.agg #[.int .i64 (meetL al ah bl bh), .int .i64 (meetH al ah bl bh)], .bool (meetB al ah bl bh)]) ∧ Below w.heap.size w w' := by
  have q1 := hmx al bl
  have q2 := hmn ah bh
  by_cases h1 : al ≤ ah
  · have e1 : okB al ah = true := decide_eq_true h1
    by_cases h2 : bl ≤ bh
    · have e2 : okB bl bh = true := decide_eq_true h2
      clear h1 h2
      by_cases h9 : mx al bl ≤ mn ah bh
      · have e3 : okB (mx al bl) (mn ah bh) = true := decide_eq_true h9
        have e9 : Hid (meetL al ah bl bh = mx al bl ∧ meetH al ah bl bh = mn ah bh ∧ meetB al ah bl bh = true) := ⟨if_pos h9, if_pos h9, decide_eq_true h9⟩
        clear h9
        go_enter Tryd.func60, Tryd.ntmps60
        go_wp2_with fail
        refine (sIvOk_c _ _ _).mono ?_
        rintro e w1 ⟨rfl, hb1⟩
        have B1 := hb1.mono (show w.heap.size + 4 ≤ _ by simp)
        clear hb1
        obtain ⟨hc1, hf1⟩ := bcellB B1
        have HB1 := hide B1
        clear B1
        go_wp2_with fail
        refine (sIvOk_c _ _ _).mono ?_
        rintro e w2 ⟨rfl, hb2⟩
        have B2 := (unhide HB1).trans (hb2.mono (by have := (unhide HB1).size; simp at this; omega))
        clear hb2 hc1 hf1 HB1
        obtain ⟨hc2, hf2⟩ := bcellB B2
        have HB2 := hide B2
        clear B2
        go_wp2_with fail
        refine (sIvOk_c _ _ _).mono ?_
        rintro e w3 ⟨rfl, hb3⟩
        have B3 := (unhide HB2).trans (hb3.mono (by have := (unhide HB2).size; simp at this; omega))
        clear hb3 hc2 hf2 HB2
        obtain ⟨hc3, hf3⟩ := bcellB B3
        have HB3 := hide B3
        clear B3
        have K3 : Hid (Below w.heap.size w w3) := (((((Below.refl _ _).alloc (Nat.le_refl _) _).alloc (by simp) _).alloc (by simp; omega) _).alloc (by simp; omega) _).trans ((unhide HB3).mono (by omega))
        clear HB3
        go_wp2
        exact bodyPost_ret (v := .tuple #[.agg #[.int .i64 (mx al bl), .int .i64 (mn ah bh)], .bool true]) (by simp [results, Tryd.results60, go_sem, hc3]) rfl ⟨by rw [e9.out.1, e9.out.2.1, e9.out.2.2], (K3.out.setCell (by simp; omega) _).setCell (by simp; omega) _⟩
      · have e3 : okB (mx al bl) (mn ah bh) = false := decide_eq_false h9
        have e9 : Hid (meetL al ah bl bh = 0 ∧ meetH al ah bl bh = 0 ∧ meetB al ah bl bh = false) := ⟨if_neg h9, if_neg h9, decide_eq_false h9⟩
        clear h9
        go_enter Tryd.func60, Tryd.ntmps60
        go_wp2_with fail
        refine (sIvOk_c _ _ _).mono ?_
        rintro e w1 ⟨rfl, hb1⟩
        have B1 := hb1.mono (show w.heap.size + 4 ≤ _ by simp)
        clear hb1
        obtain ⟨hc1, hf1⟩ := bcellB B1
        have HB1 := hide B1
        clear B1
        go_wp2_with fail
        refine (sIvOk_c _ _ _).mono ?_
        rintro e w2 ⟨rfl, hb2⟩
        have B2 := (unhide HB1).trans (hb2.mono (by have := (unhide HB1).size; simp at this; omega))
        clear hb2 hc1 hf1 HB1
        obtain ⟨hc2, hf2⟩ := bcellB B2
        have HB2 := hide B2
        clear B2
        go_wp2_with fail
        refine (sIvOk_c _ _ _).mono ?_
        rintro e w3 ⟨rfl, hb3⟩
        have B3 := (unhide HB2).trans (hb3.mono (by have := (unhide HB2).size; simp at this; omega))
        clear hb3 hc2 hf2 HB2
        obtain ⟨hc3, hf3⟩ := bcellB B3
        have HB3 := hide B3
        clear B3
        have K3 : Hid (Below w.heap.size w w3) := (((((Below.refl _ _).alloc (Nat.le_refl _) _).alloc (by simp) _).alloc (by simp; omega) _).alloc (by simp; omega) _).trans ((unhide HB3).mono (by omega))
        clear HB3
        go_wp2
        exact bodyPost_ret (v := .tuple #[.agg #[.int .i64 0, .int .i64 0], .bool false]) (by simp [results, Tryd.results60, go_sem, hc3]) rfl ⟨by rw [e9.out.1, e9.out.2.1, e9.out.2.2], (K3.out.setCell (by simp; omega) _).setCell (by simp; omega) _⟩
    · have e2 : okB bl bh = false := decide_eq_false h2
      have h9 := meet_bad al ah bl bh (.inr h2)
      have e9 : Hid (meetL al ah bl bh = 0 ∧ meetH al ah bl bh = 0 ∧ meetB al ah bl bh = false) := ⟨if_neg h9, if_neg h9, decide_eq_false h9⟩
      clear h1 h2 h9
      go_enter Tryd.func60, Tryd.ntmps60
      go_wp2_with fail
      refine (sIvOk_c _ _ _).mono ?_
      rintro e w1 ⟨rfl, hb1⟩
      have B1 := hb1.mono (show w.heap.size + 4 ≤ _ by simp)
      clear hb1
      obtain ⟨hc1, hf1⟩ := bcellB B1
      have HB1 := hide B1
      clear B1
      go_wp2_with fail
      refine (sIvOk_c _ _ _).mono ?_
      rintro e w2 ⟨rfl, hb2⟩
      have B2 := (unhide HB1).trans (hb2.mono (by have := (unhide HB1).size; simp at this; omega))
      clear hb2 hc1 hf1 HB1
      obtain ⟨hc2, hf2⟩ := bcellB B2
      have HB2 := hide B2
      clear B2
      have K2 : Hid (Below w.heap.size w w2) := (((((Below.refl _ _).alloc (Nat.le_refl _) _).alloc (by simp) _).alloc (by simp; omega) _).alloc (by simp; omega) _).trans ((unhide HB2).mono (by omega))
      clear HB2
      go_wp2
      exact bodyPost_ret (v := .tuple #[.agg #[.int .i64 0, .int .i64 0], .bool false]) (by simp [results, Tryd.results60, go_sem, hc2]) rfl ⟨by rw [e9.out.1, e9.out.2.1, e9.out.2.2], (K2.out.setCell (by simp; omega) _).setCell (by simp; omega) _⟩
  · have e1 : okB al ah = false := decide_eq_false h1
    have h9 := meet_bad al ah bl bh (.inl h1)
    have e9 : Hid (meetL al ah bl bh = 0 ∧ meetH al ah bl bh = 0 ∧ meetB al ah bl bh = false) := ⟨if_neg h9, if_neg h9, decide_eq_false h9⟩
    clear h1 h9
    go_enter Tryd.func60, Tryd.ntmps60
    go_wp2_with fail
    refine (sIvOk_c _ _ _).mono ?_
    rintro e w1 ⟨rfl, hb1⟩
    have B1 := hb1.mono (show w.heap.size + 4 ≤ _ by simp)
    clear hb1
    obtain ⟨hc1, hf1⟩ := bcellB B1
    have HB1 := hide B1
    clear B1
    have K1 : Hid (Below w.heap.size w w1) := (((((Below.refl _ _).alloc (Nat.le_refl _) _).alloc (by simp) _).alloc (by simp; omega) _).alloc (by simp; omega) _).trans ((unhide HB1).mono (by omega))
    clear HB1
    go_wp2
    exact bodyPost_ret (v := .tuple #[.agg #[.int .i64 0, .int .i64 0], .bool false]) (by simp [results, Tryd.results60, go_sem, hc1]) rfl ⟨by rw [e9.out.1, e9.out.2.1, e9.out.2.2], (K1.out.setCell (by simp; omega) _).setCell (by simp; omega) _⟩
end Go.Proofs.YtgjlbekkifiinaaDoor
