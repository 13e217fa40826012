/- What comparisons leave of an interval: the specification's IvRefine. -/
import Derived.Test.YtlgjbfkhajphdaaRefE
namespace Go.Proofs.Ytlgjbfkhajphdaa
open Go.RowKit Go.Iv
set_option linter.unusedSimpArgs false
set_option linter.unusedVariables false

theorem inR_c (n lo hi : Int) (w : World) : Calls Try.prog 17 #[.int .i64 n, .int .i64 lo, .int .i64 hi] w fun e w' => e = .returned (.bool (hasB lo hi n)) ∧ w' = w := by
  by_cases h1 : lo ≤ n
  · go_enter Try.func17, Try.ntmps17
    go_wp2
    go_ret
    exact ⟨ret_bool (by unfold hasB; simp [h1]), rfl⟩
  · go_enter Try.func17, Try.ntmps17
    go_wp2
    go_ret
    exact ⟨ret_bool (by unfold hasB; simp; omega), rfl⟩
theorem l7Compares_c (op : Int) (w : World) : Calls Try.prog 8 #[.int .i64 op] w fun e w' => e = .returned (.bool (cmpB op)) ∧ Below w.heap.size w w' := by
  go_enter Try.func8, Try.ntmps8
  go_wp2_with fail
  refine (inR_c _ _ _ _).mono ?_
  rintro e w1 ⟨rfl, rfl⟩
  go_wp2
  go_ret
  exact ⟨rfl, Below.refl _ _⟩
theorem alloc_cell {w : World} {o : Obj} {k j : Nat} (h : k < w.heap.size) : (w.alloc o).cell? ⟨k, j, none⟩ = w.cell? ⟨k, j, none⟩ := ((Below.refl _ w).alloc (Nat.le_refl _) o).cell (p := ⟨k, j, none⟩) h
theorem alloc_frozen {w : World} {o : Obj} {k j : Nat} (h : k < w.heap.size) : (w.alloc o).frozen? ⟨k, j, none⟩ = w.frozen? ⟨k, j, none⟩ := ((Below.refl _ w).alloc (Nat.le_refl _) o).frozen (p := ⟨k, j, none⟩) h
theorem sRef13 (al ah bl bh : Int) (ha : In al) (hh : In ah) (hl : In bl) (hg : In bh) (c2 : al ≤ ah ∧ bl ≤ bh) (w : World) : Calls Try.prog 4 #[.int .i64 13, .agg #[.int .i64 al, .int .i64 ah], .agg #[.int .i64 bl, .int .i64 bh]] w fun e w' => e = .returned (.tuple #[.agg #[.int .i64 (refL 13 al ah bl bh), .int .i64 (refH 13 al ah bl bh)], .bool (refB 13 al ah bl bh)]) ∧ Below w.heap.size w w' := by
  have d1 : cmpB 13 = true := rfl
  have d2 : okB al ah = true := decide_eq_true c2.1
  have d3 : okB bl bh = true := decide_eq_true c2.2
  by_cases c5 : bh = -9223372036854775808
  · subst c5
    have E : Hid (refL 13 al ah bl (-9223372036854775808) = 0 ∧ refH 13 al ah bl (-9223372036854775808) = 0 ∧ refB 13 al ah bl (-9223372036854775808) = false) := ref_non rfl rfl (by show ¬ al ≤ mn ah (-9223372036854775808 - 1); rw [mn_eq]; unfold In at ha; omega)
    clear c2
    go_enter Try.func4, Try.ntmps4
    go_wp2_with fail
    refine (l7Compares_c _ _).mono ?_
    rintro e w1 ⟨rfl, hb1⟩
    have B1 := hb1.mono (show w.heap.size + 3 ≤ _ by simp)
    clear hb1
    obtain ⟨hc1, hf1⟩ := bcellB B1
    have HB1 := hide B1
    clear B1
    go_wp2_with fail
    refine (sIvOk_c _ _ _).mono ?_
    rintro e w2 ⟨rfl, hb2⟩
    have B2 := (unhide HB1).trans (hb2.mono (by have := (unhide HB1).size; simp at this; omega))
    clear hb2 hc1 hf1 HB1
    obtain ⟨hc2, hf2⟩ := bcellB B2
    have HB2 := hide B2
    clear B2
    go_wp2_with fail
    refine (sIvOk_c _ _ _).mono ?_
    rintro e w3 ⟨rfl, hb3⟩
    have B3 := (unhide HB2).trans (hb3.mono (by have := (unhide HB2).size; simp at this; omega))
    clear hb3 hc2 hf2 HB2
    obtain ⟨hc3, hf3⟩ := bcellB B3
    have K : Hid (Below w.heap.size w w3) := ((((Below.refl _ _).alloc (Nat.le_refl _) _).alloc (by simp) _).alloc (by simp; omega) _).trans (B3.mono (by omega))
    have z : Hid (w.heap.size + 3 ≤ w3.heap.size) := by have := B3.size; simp at this; unfold Hid; omega
    clear B3
    have z0 : w.heap.size < w3.heap.size := by have := z.out; omega
    have z1 : w.heap.size + 1 < w3.heap.size := by have := z.out; omega
    have z2 : w.heap.size + 1 + 1 < w3.heap.size := by have := z.out; omega
    have ha3 := fun o k j (h : k < w.heap.size + 3) => (alloc_cell (w := w3) (o := o) (k := k) (j := j) (by have := z.out; omega)).trans (hc3 k j h)
    go_wp2
    exact bodyPost_ret (v := .tuple #[.agg #[.int .i64 0, .int .i64 0], .bool false]) (by simp [results, Try.results4, go_sem, hc3, ha3, z0, z1, z2]) rfl ⟨by rw [E.out.1, E.out.2.1, E.out.2.2], ((K.out.setCell (by simp; omega) _).setCell (by simp; omega) _).alloc (by have := z.out; simp [World.setCell]; omega) _⟩
  · have q := hmn ah (bh - 1)
    have e1 : wrap64 (bh - 1) = bh - 1 := w64 _ (by unfold In at *; omega)
    have c6 : (bh == -9223372036854775808) = false := by simpa using c5
    clear c5
    by_cases c9 : al ≤ (mn ah (bh - 1))
    · have d9 : okB al (mn ah (bh - 1)) = true := decide_eq_true c9
      have E : Hid (refL 13 al ah bl bh = al ∧ refH 13 al ah bl bh = (mn ah (bh - 1)) ∧ refB 13 al ah bl bh = true) := ref_yes (by omega) (by rfl) (by rfl) c9
      clear c9 c2
      go_enter Try.func4, Try.ntmps4
      go_wp2_with fail
      refine (l7Compares_c _ _).mono ?_
      rintro e w1 ⟨rfl, hb1⟩
      have B1 := hb1.mono (show w.heap.size + 3 ≤ _ by simp)
      clear hb1
      obtain ⟨hc1, hf1⟩ := bcellB B1
      have HB1 := hide B1
      clear B1
      go_wp2_with fail
      refine (sIvOk_c _ _ _).mono ?_
      rintro e w2 ⟨rfl, hb2⟩
      have B2 := (unhide HB1).trans (hb2.mono (by have := (unhide HB1).size; simp at this; omega))
      clear hb2 hc1 hf1 HB1
      obtain ⟨hc2, hf2⟩ := bcellB B2
      have HB2 := hide B2
      clear B2
      go_wp2_with fail
      refine (sIvOk_c _ _ _).mono ?_
      rintro e w3 ⟨rfl, hb3⟩
      have B3 := (unhide HB2).trans (hb3.mono (by have := (unhide HB2).size; simp at this; omega))
      clear hb3 hc2 hf2 HB2
      obtain ⟨hc3, hf3⟩ := bcellB B3
      have K : Hid (Below w.heap.size w w3) := ((((Below.refl _ _).alloc (Nat.le_refl _) _).alloc (by simp) _).alloc (by simp; omega) _).trans (B3.mono (by omega))
      have z : Hid (w.heap.size + 3 ≤ w3.heap.size) := by have := B3.size; simp at this; unfold Hid; omega
      clear B3
      have z0 : w.heap.size < w3.heap.size := by have := z.out; omega
      have z1 : w.heap.size + 1 < w3.heap.size := by have := z.out; omega
      have z2 : w.heap.size + 1 + 1 < w3.heap.size := by have := z.out; omega
      have ha3 := fun o k j (h : k < w.heap.size + 3) => (alloc_cell (w := w3) (o := o) (k := k) (j := j) (by have := z.out; omega)).trans (hc3 k j h)
      go_wp2_with fail
      refine (sIvOk_c _ _ _).mono ?_
      rintro e w4 ⟨rfl, hb4⟩
      have K4 : Hid (Below w.heap.size w w4) := (K.out.alloc (by have := z.out; omega) _).trans (hb4.mono (by simp; omega))
      have hr4 := fun k j (h : k < w.heap.size + 3) => (hb4.cell (p := ⟨k, j, none⟩) (by have := z.out; simp; omega)).trans (ha3 _ k j h)
      have hz4 := fun k j (h : k < w.heap.size + 3) => ((hb4.frozen (p := ⟨k, j, none⟩) (by have := z.out; simp; omega)).trans (alloc_frozen (w := w3) (k := k) (j := j) (by have := z.out; omega))).trans (hf3 k j h)
      have ho0 : w4.cell? ⟨w3.heap.size, 0, none⟩ = some (.int .i64 al) := (hb4.cell (p := ⟨w3.heap.size, 0, none⟩) (by simp)).trans (by simp)
      have ho1 : w4.cell? ⟨w3.heap.size, 1, none⟩ = some (.int .i64 (mn ah (bh - 1))) := (hb4.cell (p := ⟨w3.heap.size, 1, none⟩) (by simp)).trans (by simp)
      clear hb4 ha3 hc3 hf3
      go_wp2
      exact bodyPost_ret (v := .tuple #[.agg #[.int .i64 al, .int .i64 (mn ah (bh - 1))], .bool true]) (by simp [results, Try.results4, go_sem, hr4]) rfl ⟨by rw [E.out.1, E.out.2.1, E.out.2.2], (K4.out.setCell (by simp; omega) _).setCell (by simp; omega) _⟩
    · have d9 : okB al (mn ah (bh - 1)) = false := decide_eq_false c9
      have E : Hid (refL 13 al ah bl bh = 0 ∧ refH 13 al ah bl bh = 0 ∧ refB 13 al ah bl bh = false) := ref_non (x := al) (y := (mn ah (bh - 1))) (by rfl) (by rfl) c9
      clear c9 c2
      go_enter Try.func4, Try.ntmps4
      go_wp2_with fail
      refine (l7Compares_c _ _).mono ?_
      rintro e w1 ⟨rfl, hb1⟩
      have B1 := hb1.mono (show w.heap.size + 3 ≤ _ by simp)
      clear hb1
      obtain ⟨hc1, hf1⟩ := bcellB B1
      have HB1 := hide B1
      clear B1
      go_wp2_with fail
      refine (sIvOk_c _ _ _).mono ?_
      rintro e w2 ⟨rfl, hb2⟩
      have B2 := (unhide HB1).trans (hb2.mono (by have := (unhide HB1).size; simp at this; omega))
      clear hb2 hc1 hf1 HB1
      obtain ⟨hc2, hf2⟩ := bcellB B2
      have HB2 := hide B2
      clear B2
      go_wp2_with fail
      refine (sIvOk_c _ _ _).mono ?_
      rintro e w3 ⟨rfl, hb3⟩
      have B3 := (unhide HB2).trans (hb3.mono (by have := (unhide HB2).size; simp at this; omega))
      clear hb3 hc2 hf2 HB2
      obtain ⟨hc3, hf3⟩ := bcellB B3
      have K : Hid (Below w.heap.size w w3) := ((((Below.refl _ _).alloc (Nat.le_refl _) _).alloc (by simp) _).alloc (by simp; omega) _).trans (B3.mono (by omega))
      have z : Hid (w.heap.size + 3 ≤ w3.heap.size) := by have := B3.size; simp at this; unfold Hid; omega
      clear B3
      have z0 : w.heap.size < w3.heap.size := by have := z.out; omega
      have z1 : w.heap.size + 1 < w3.heap.size := by have := z.out; omega
      have z2 : w.heap.size + 1 + 1 < w3.heap.size := by have := z.out; omega
      have ha3 := fun o k j (h : k < w.heap.size + 3) => (alloc_cell (w := w3) (o := o) (k := k) (j := j) (by have := z.out; omega)).trans (hc3 k j h)
      go_wp2_with fail
      refine (sIvOk_c _ _ _).mono ?_
      rintro e w4 ⟨rfl, hb4⟩
      have K4 : Hid (Below w.heap.size w w4) := (K.out.alloc (by have := z.out; omega) _).trans (hb4.mono (by simp; omega))
      have hr4 := fun k j (h : k < w.heap.size + 3) => (hb4.cell (p := ⟨k, j, none⟩) (by have := z.out; simp; omega)).trans (ha3 _ k j h)
      have hz4 := fun k j (h : k < w.heap.size + 3) => ((hb4.frozen (p := ⟨k, j, none⟩) (by have := z.out; simp; omega)).trans (alloc_frozen (w := w3) (k := k) (j := j) (by have := z.out; omega))).trans (hf3 k j h)
      have ho0 : w4.cell? ⟨w3.heap.size, 0, none⟩ = some (.int .i64 al) := (hb4.cell (p := ⟨w3.heap.size, 0, none⟩) (by simp)).trans (by simp)
      have ho1 : w4.cell? ⟨w3.heap.size, 1, none⟩ = some (.int .i64 (mn ah (bh - 1))) := (hb4.cell (p := ⟨w3.heap.size, 1, none⟩) (by simp)).trans (by simp)
      clear hb4 ha3 hc3 hf3
      go_wp2
      exact bodyPost_ret (v := .tuple #[.agg #[.int .i64 0, .int .i64 0], .bool false]) (by simp [results, Try.results4, go_sem, hr4]) rfl ⟨by rw [E.out.1, E.out.2.1, E.out.2.2], (K4.out.setCell (by simp; omega) _).setCell (by simp; omega) _⟩
theorem sRef14 (al ah bl bh : Int) (ha : In al) (hh : In ah) (hl : In bl) (hg : In bh) (c2 : al ≤ ah ∧ bl ≤ bh) (w : World) : Calls Try.prog 4 #[.int .i64 14, .agg #[.int .i64 al, .int .i64 ah], .agg #[.int .i64 bl, .int .i64 bh]] w fun e w' => e = .returned (.tuple #[.agg #[.int .i64 (refL 14 al ah bl bh), .int .i64 (refH 14 al ah bl bh)], .bool (refB 14 al ah bl bh)]) ∧ Below w.heap.size w w' := by
  have d1 : cmpB 14 = true := rfl
  have d2 : okB al ah = true := decide_eq_true c2.1
  have d3 : okB bl bh = true := decide_eq_true c2.2
  have q := hmn ah bh
  by_cases c9 : al ≤ (mn ah bh)
  · have d9 : okB al (mn ah bh) = true := decide_eq_true c9
    have E : Hid (refL 14 al ah bl bh = al ∧ refH 14 al ah bl bh = (mn ah bh) ∧ refB 14 al ah bl bh = true) := ref_yes (by omega) (by rfl) (by rfl) c9
    clear c9 c2
    go_enter Try.func4, Try.ntmps4
    go_wp2_with fail
    refine (l7Compares_c _ _).mono ?_
    rintro e w1 ⟨rfl, hb1⟩
    have B1 := hb1.mono (show w.heap.size + 3 ≤ _ by simp)
    clear hb1
    obtain ⟨hc1, hf1⟩ := bcellB B1
    have HB1 := hide B1
    clear B1
    go_wp2_with fail
    refine (sIvOk_c _ _ _).mono ?_
    rintro e w2 ⟨rfl, hb2⟩
    have B2 := (unhide HB1).trans (hb2.mono (by have := (unhide HB1).size; simp at this; omega))
    clear hb2 hc1 hf1 HB1
    obtain ⟨hc2, hf2⟩ := bcellB B2
    have HB2 := hide B2
    clear B2
    go_wp2_with fail
    refine (sIvOk_c _ _ _).mono ?_
    rintro e w3 ⟨rfl, hb3⟩
    have B3 := (unhide HB2).trans (hb3.mono (by have := (unhide HB2).size; simp at this; omega))
    clear hb3 hc2 hf2 HB2
    obtain ⟨hc3, hf3⟩ := bcellB B3
    have K : Hid (Below w.heap.size w w3) := ((((Below.refl _ _).alloc (Nat.le_refl _) _).alloc (by simp) _).alloc (by simp; omega) _).trans (B3.mono (by omega))
    have z : Hid (w.heap.size + 3 ≤ w3.heap.size) := by have := B3.size; simp at this; unfold Hid; omega
    clear B3
    have z0 : w.heap.size < w3.heap.size := by have := z.out; omega
    have z1 : w.heap.size + 1 < w3.heap.size := by have := z.out; omega
    have z2 : w.heap.size + 1 + 1 < w3.heap.size := by have := z.out; omega
    have ha3 := fun o k j (h : k < w.heap.size + 3) => (alloc_cell (w := w3) (o := o) (k := k) (j := j) (by have := z.out; omega)).trans (hc3 k j h)
    go_wp2_with fail
    refine (sIvOk_c _ _ _).mono ?_
    rintro e w4 ⟨rfl, hb4⟩
    have K4 : Hid (Below w.heap.size w w4) := (K.out.alloc (by have := z.out; omega) _).trans (hb4.mono (by simp; omega))
    have hr4 := fun k j (h : k < w.heap.size + 3) => (hb4.cell (p := ⟨k, j, none⟩) (by have := z.out; simp; omega)).trans (ha3 _ k j h)
    have hz4 := fun k j (h : k < w.heap.size + 3) => ((hb4.frozen (p := ⟨k, j, none⟩) (by have := z.out; simp; omega)).trans (alloc_frozen (w := w3) (k := k) (j := j) (by have := z.out; omega))).trans (hf3 k j h)
    have ho0 : w4.cell? ⟨w3.heap.size, 0, none⟩ = some (.int .i64 al) := (hb4.cell (p := ⟨w3.heap.size, 0, none⟩) (by simp)).trans (by simp)
    have ho1 : w4.cell? ⟨w3.heap.size, 1, none⟩ = some (.int .i64 (mn ah bh)) := (hb4.cell (p := ⟨w3.heap.size, 1, none⟩) (by simp)).trans (by simp)
    clear hb4 ha3 hc3 hf3
    go_wp2
    exact bodyPost_ret (v := .tuple #[.agg #[.int .i64 al, .int .i64 (mn ah bh)], .bool true]) (by simp [results, Try.results4, go_sem, hr4]) rfl ⟨by rw [E.out.1, E.out.2.1, E.out.2.2], (K4.out.setCell (by simp; omega) _).setCell (by simp; omega) _⟩
  · have d9 : okB al (mn ah bh) = false := decide_eq_false c9
    have E : Hid (refL 14 al ah bl bh = 0 ∧ refH 14 al ah bl bh = 0 ∧ refB 14 al ah bl bh = false) := ref_non (x := al) (y := (mn ah bh)) (by rfl) (by rfl) c9
    clear c9 c2
    go_enter Try.func4, Try.ntmps4
    go_wp2_with fail
    refine (l7Compares_c _ _).mono ?_
    rintro e w1 ⟨rfl, hb1⟩
    have B1 := hb1.mono (show w.heap.size + 3 ≤ _ by simp)
    clear hb1
    obtain ⟨hc1, hf1⟩ := bcellB B1
    have HB1 := hide B1
    clear B1
    go_wp2_with fail
    refine (sIvOk_c _ _ _).mono ?_
    rintro e w2 ⟨rfl, hb2⟩
    have B2 := (unhide HB1).trans (hb2.mono (by have := (unhide HB1).size; simp at this; omega))
    clear hb2 hc1 hf1 HB1
    obtain ⟨hc2, hf2⟩ := bcellB B2
    have HB2 := hide B2
    clear B2
    go_wp2_with fail
    refine (sIvOk_c _ _ _).mono ?_
    rintro e w3 ⟨rfl, hb3⟩
    have B3 := (unhide HB2).trans (hb3.mono (by have := (unhide HB2).size; simp at this; omega))
    clear hb3 hc2 hf2 HB2
    obtain ⟨hc3, hf3⟩ := bcellB B3
    have K : Hid (Below w.heap.size w w3) := ((((Below.refl _ _).alloc (Nat.le_refl _) _).alloc (by simp) _).alloc (by simp; omega) _).trans (B3.mono (by omega))
    have z : Hid (w.heap.size + 3 ≤ w3.heap.size) := by have := B3.size; simp at this; unfold Hid; omega
    clear B3
    have z0 : w.heap.size < w3.heap.size := by have := z.out; omega
    have z1 : w.heap.size + 1 < w3.heap.size := by have := z.out; omega
    have z2 : w.heap.size + 1 + 1 < w3.heap.size := by have := z.out; omega
    have ha3 := fun o k j (h : k < w.heap.size + 3) => (alloc_cell (w := w3) (o := o) (k := k) (j := j) (by have := z.out; omega)).trans (hc3 k j h)
    go_wp2_with fail
    refine (sIvOk_c _ _ _).mono ?_
    rintro e w4 ⟨rfl, hb4⟩
    have K4 : Hid (Below w.heap.size w w4) := (K.out.alloc (by have := z.out; omega) _).trans (hb4.mono (by simp; omega))
    have hr4 := fun k j (h : k < w.heap.size + 3) => (hb4.cell (p := ⟨k, j, none⟩) (by have := z.out; simp; omega)).trans (ha3 _ k j h)
    have hz4 := fun k j (h : k < w.heap.size + 3) => ((hb4.frozen (p := ⟨k, j, none⟩) (by have := z.out; simp; omega)).trans (alloc_frozen (w := w3) (k := k) (j := j) (by have := z.out; omega))).trans (hf3 k j h)
    have ho0 : w4.cell? ⟨w3.heap.size, 0, none⟩ = some (.int .i64 al) := (hb4.cell (p := ⟨w3.heap.size, 0, none⟩) (by simp)).trans (by simp)
    have ho1 : w4.cell? ⟨w3.heap.size, 1, none⟩ = some (.int .i64 (mn ah bh)) := (hb4.cell (p := ⟨w3.heap.size, 1, none⟩) (by simp)).trans (by simp)
    clear hb4 ha3 hc3 hf3
    go_wp2
    exact bodyPost_ret (v := .tuple #[.agg #[.int .i64 0, .int .i64 0], .bool false]) (by simp [results, Try.results4, go_sem, hr4]) rfl ⟨by rw [E.out.1, E.out.2.1, E.out.2.2], (K4.out.setCell (by simp; omega) _).setCell (by simp; omega) _⟩
theorem sRef15 (al ah bl bh : Int) (ha : In al) (hh : In ah) (hl : In bl) (hg : In bh) (c2 : al ≤ ah ∧ bl ≤ bh) (w : World) : Calls Try.prog 4 #[.int .i64 15, .agg #[.int .i64 al, .int .i64 ah], .agg #[.int .i64 bl, .int .i64 bh]] w fun e w' => e = .returned (.tuple #[.agg #[.int .i64 (refL 15 al ah bl bh), .int .i64 (refH 15 al ah bl bh)], .bool (refB 15 al ah bl bh)]) ∧ Below w.heap.size w w' := by
  have d1 : cmpB 15 = true := rfl
  have d2 : okB al ah = true := decide_eq_true c2.1
  have d3 : okB bl bh = true := decide_eq_true c2.2
  have E : Hid (refL 15 al ah bl bh = meetL al ah bl bh ∧ refH 15 al ah bl bh = meetH al ah bl bh ∧ refB 15 al ah bl bh = meetB al ah bl bh) := meet15 c2
  clear c2
  go_enter Try.func4, Try.ntmps4
  go_wp2_with fail
  refine (l7Compares_c _ _).mono ?_
  rintro e w1 ⟨rfl, hb1⟩
  have B1 := hb1.mono (show w.heap.size + 3 ≤ _ by simp)
  clear hb1
  obtain ⟨hc1, hf1⟩ := bcellB B1
  have HB1 := hide B1
  clear B1
  go_wp2_with fail
  refine (sIvOk_c _ _ _).mono ?_
  rintro e w2 ⟨rfl, hb2⟩
  have B2 := (unhide HB1).trans (hb2.mono (by have := (unhide HB1).size; simp at this; omega))
  clear hb2 hc1 hf1 HB1
  obtain ⟨hc2, hf2⟩ := bcellB B2
  have HB2 := hide B2
  clear B2
  go_wp2_with fail
  refine (sIvOk_c _ _ _).mono ?_
  rintro e w3 ⟨rfl, hb3⟩
  have B3 := (unhide HB2).trans (hb3.mono (by have := (unhide HB2).size; simp at this; omega))
  clear hb3 hc2 hf2 HB2
  obtain ⟨hc3, hf3⟩ := bcellB B3
  have K : Hid (Below w.heap.size w w3) := ((((Below.refl _ _).alloc (Nat.le_refl _) _).alloc (by simp) _).alloc (by simp; omega) _).trans (B3.mono (by omega))
  have z : Hid (w.heap.size + 3 ≤ w3.heap.size) := by have := B3.size; simp at this; unfold Hid; omega
  clear B3
  have z0 : w.heap.size < w3.heap.size := by have := z.out; omega
  have z1 : w.heap.size + 1 < w3.heap.size := by have := z.out; omega
  have z2 : w.heap.size + 1 + 1 < w3.heap.size := by have := z.out; omega
  have ha3 := fun o k j (h : k < w.heap.size + 3) => (alloc_cell (w := w3) (o := o) (k := k) (j := j) (by have := z.out; omega)).trans (hc3 k j h)
  go_wp2_with fail
  refine (sIvMeet_c _ _ _ _ _).mono ?_
  rintro e w4 ⟨rfl, hb4⟩
  have K4 : Hid (Below w.heap.size w w4) := (K.out.alloc (by have := z.out; omega) _).trans (hb4.mono (by simp; omega))
  have hr4 := fun k j (h : k < w.heap.size + 3) => (hb4.cell (p := ⟨k, j, none⟩) (by have := z.out; simp; omega)).trans (ha3 _ k j h)
  have hz4 := fun k j (h : k < w.heap.size + 3) => ((hb4.frozen (p := ⟨k, j, none⟩) (by have := z.out; simp; omega)).trans (alloc_frozen (w := w3) (k := k) (j := j) (by have := z.out; omega))).trans (hf3 k j h)
  have ho0 : w4.cell? ⟨w3.heap.size, 0, none⟩ = some (.int .i64 al) := (hb4.cell (p := ⟨w3.heap.size, 0, none⟩) (by simp)).trans (by simp)
  have ho1 : w4.cell? ⟨w3.heap.size, 1, none⟩ = some (.int .i64 ah) := (hb4.cell (p := ⟨w3.heap.size, 1, none⟩) (by simp)).trans (by simp)
  clear hb4 ha3 hc3 hf3
  go_wp2
  exact bodyPost_ret (v := .tuple #[.agg #[.int .i64 (meetL al ah bl bh), .int .i64 (meetH al ah bl bh)], .bool (meetB al ah bl bh)]) (by simp [results, Try.results4, go_sem, hr4]) rfl ⟨by rw [E.out.1, E.out.2.1, E.out.2.2], (K4.out.setCell (by simp; omega) _).setCell (by simp; omega) _⟩
theorem sRef17 (al ah bl bh : Int) (ha : In al) (hh : In ah) (hl : In bl) (hg : In bh) (c2 : al ≤ ah ∧ bl ≤ bh) (w : World) : Calls Try.prog 4 #[.int .i64 17, .agg #[.int .i64 al, .int .i64 ah], .agg #[.int .i64 bl, .int .i64 bh]] w fun e w' => e = .returned (.tuple #[.agg #[.int .i64 (refL 17 al ah bl bh), .int .i64 (refH 17 al ah bl bh)], .bool (refB 17 al ah bl bh)]) ∧ Below w.heap.size w w' := by
  have d1 : cmpB 17 = true := rfl
  have d2 : okB al ah = true := decide_eq_true c2.1
  have d3 : okB bl bh = true := decide_eq_true c2.2
  by_cases c5 : bl = 9223372036854775807
  · subst c5
    have E : Hid (refL 17 al ah 9223372036854775807 bh = 0 ∧ refH 17 al ah 9223372036854775807 bh = 0 ∧ refB 17 al ah 9223372036854775807 bh = false) := ref_non rfl rfl (by show ¬ mx al (9223372036854775807 + 1) ≤ ah; rw [mx_eq]; unfold In at hh; omega)
    clear c2
    go_enter Try.func4, Try.ntmps4
    go_wp2_with fail
    refine (l7Compares_c _ _).mono ?_
    rintro e w1 ⟨rfl, hb1⟩
    have B1 := hb1.mono (show w.heap.size + 3 ≤ _ by simp)
    clear hb1
    obtain ⟨hc1, hf1⟩ := bcellB B1
    have HB1 := hide B1
    clear B1
    go_wp2_with fail
    refine (sIvOk_c _ _ _).mono ?_
    rintro e w2 ⟨rfl, hb2⟩
    have B2 := (unhide HB1).trans (hb2.mono (by have := (unhide HB1).size; simp at this; omega))
    clear hb2 hc1 hf1 HB1
    obtain ⟨hc2, hf2⟩ := bcellB B2
    have HB2 := hide B2
    clear B2
    go_wp2_with fail
    refine (sIvOk_c _ _ _).mono ?_
    rintro e w3 ⟨rfl, hb3⟩
    have B3 := (unhide HB2).trans (hb3.mono (by have := (unhide HB2).size; simp at this; omega))
    clear hb3 hc2 hf2 HB2
    obtain ⟨hc3, hf3⟩ := bcellB B3
    have K : Hid (Below w.heap.size w w3) := ((((Below.refl _ _).alloc (Nat.le_refl _) _).alloc (by simp) _).alloc (by simp; omega) _).trans (B3.mono (by omega))
    have z : Hid (w.heap.size + 3 ≤ w3.heap.size) := by have := B3.size; simp at this; unfold Hid; omega
    clear B3
    have z0 : w.heap.size < w3.heap.size := by have := z.out; omega
    have z1 : w.heap.size + 1 < w3.heap.size := by have := z.out; omega
    have z2 : w.heap.size + 1 + 1 < w3.heap.size := by have := z.out; omega
    have ha3 := fun o k j (h : k < w.heap.size + 3) => (alloc_cell (w := w3) (o := o) (k := k) (j := j) (by have := z.out; omega)).trans (hc3 k j h)
    go_wp2
    exact bodyPost_ret (v := .tuple #[.agg #[.int .i64 0, .int .i64 0], .bool false]) (by simp [results, Try.results4, go_sem, hc3, ha3, z0, z1, z2]) rfl ⟨by rw [E.out.1, E.out.2.1, E.out.2.2], ((K.out.setCell (by simp; omega) _).setCell (by simp; omega) _).alloc (by have := z.out; simp [World.setCell]; omega) _⟩
  · have q := hmx al (bl + 1)
    have e1 : wrap64 (bl + 1) = bl + 1 := w64 _ (by unfold In at *; omega)
    have c6 : (bl == 9223372036854775807) = false := by simpa using c5
    clear c5
    by_cases c9 : (mx al (bl + 1)) ≤ ah
    · have d9 : okB (mx al (bl + 1)) ah = true := decide_eq_true c9
      have E : Hid (refL 17 al ah bl bh = (mx al (bl + 1)) ∧ refH 17 al ah bl bh = ah ∧ refB 17 al ah bl bh = true) := ref_yes (by omega) (by rfl) (by rfl) c9
      clear c9 c2
      go_enter Try.func4, Try.ntmps4
      go_wp2_with fail
      refine (l7Compares_c _ _).mono ?_
      rintro e w1 ⟨rfl, hb1⟩
      have B1 := hb1.mono (show w.heap.size + 3 ≤ _ by simp)
      clear hb1
      obtain ⟨hc1, hf1⟩ := bcellB B1
      have HB1 := hide B1
      clear B1
      go_wp2_with fail
      refine (sIvOk_c _ _ _).mono ?_
      rintro e w2 ⟨rfl, hb2⟩
      have B2 := (unhide HB1).trans (hb2.mono (by have := (unhide HB1).size; simp at this; omega))
      clear hb2 hc1 hf1 HB1
      obtain ⟨hc2, hf2⟩ := bcellB B2
      have HB2 := hide B2
      clear B2
      go_wp2_with fail
      refine (sIvOk_c _ _ _).mono ?_
      rintro e w3 ⟨rfl, hb3⟩
      have B3 := (unhide HB2).trans (hb3.mono (by have := (unhide HB2).size; simp at this; omega))
      clear hb3 hc2 hf2 HB2
      obtain ⟨hc3, hf3⟩ := bcellB B3
      have K : Hid (Below w.heap.size w w3) := ((((Below.refl _ _).alloc (Nat.le_refl _) _).alloc (by simp) _).alloc (by simp; omega) _).trans (B3.mono (by omega))
      have z : Hid (w.heap.size + 3 ≤ w3.heap.size) := by have := B3.size; simp at this; unfold Hid; omega
      clear B3
      have z0 : w.heap.size < w3.heap.size := by have := z.out; omega
      have z1 : w.heap.size + 1 < w3.heap.size := by have := z.out; omega
      have z2 : w.heap.size + 1 + 1 < w3.heap.size := by have := z.out; omega
      have ha3 := fun o k j (h : k < w.heap.size + 3) => (alloc_cell (w := w3) (o := o) (k := k) (j := j) (by have := z.out; omega)).trans (hc3 k j h)
      go_wp2_with fail
      refine (sIvOk_c _ _ _).mono ?_
      rintro e w4 ⟨rfl, hb4⟩
      have K4 : Hid (Below w.heap.size w w4) := (K.out.alloc (by have := z.out; omega) _).trans (hb4.mono (by simp; omega))
      have hr4 := fun k j (h : k < w.heap.size + 3) => (hb4.cell (p := ⟨k, j, none⟩) (by have := z.out; simp; omega)).trans (ha3 _ k j h)
      have hz4 := fun k j (h : k < w.heap.size + 3) => ((hb4.frozen (p := ⟨k, j, none⟩) (by have := z.out; simp; omega)).trans (alloc_frozen (w := w3) (k := k) (j := j) (by have := z.out; omega))).trans (hf3 k j h)
      have ho0 : w4.cell? ⟨w3.heap.size, 0, none⟩ = some (.int .i64 (mx al (bl + 1))) := (hb4.cell (p := ⟨w3.heap.size, 0, none⟩) (by simp)).trans (by simp)
      have ho1 : w4.cell? ⟨w3.heap.size, 1, none⟩ = some (.int .i64 ah) := (hb4.cell (p := ⟨w3.heap.size, 1, none⟩) (by simp)).trans (by simp)
      clear hb4 ha3 hc3 hf3
      go_wp2
      exact bodyPost_ret (v := .tuple #[.agg #[.int .i64 (mx al (bl + 1)), .int .i64 ah], .bool true]) (by simp [results, Try.results4, go_sem, hr4]) rfl ⟨by rw [E.out.1, E.out.2.1, E.out.2.2], (K4.out.setCell (by simp; omega) _).setCell (by simp; omega) _⟩
    · have d9 : okB (mx al (bl + 1)) ah = false := decide_eq_false c9
      have E : Hid (refL 17 al ah bl bh = 0 ∧ refH 17 al ah bl bh = 0 ∧ refB 17 al ah bl bh = false) := ref_non (x := (mx al (bl + 1))) (y := ah) (by rfl) (by rfl) c9
      clear c9 c2
      go_enter Try.func4, Try.ntmps4
      go_wp2_with fail
      refine (l7Compares_c _ _).mono ?_
      rintro e w1 ⟨rfl, hb1⟩
      have B1 := hb1.mono (show w.heap.size + 3 ≤ _ by simp)
      clear hb1
      obtain ⟨hc1, hf1⟩ := bcellB B1
      have HB1 := hide B1
      clear B1
      go_wp2_with fail
      refine (sIvOk_c _ _ _).mono ?_
      rintro e w2 ⟨rfl, hb2⟩
      have B2 := (unhide HB1).trans (hb2.mono (by have := (unhide HB1).size; simp at this; omega))
      clear hb2 hc1 hf1 HB1
      obtain ⟨hc2, hf2⟩ := bcellB B2
      have HB2 := hide B2
      clear B2
      go_wp2_with fail
      refine (sIvOk_c _ _ _).mono ?_
      rintro e w3 ⟨rfl, hb3⟩
      have B3 := (unhide HB2).trans (hb3.mono (by have := (unhide HB2).size; simp at this; omega))
      clear hb3 hc2 hf2 HB2
      obtain ⟨hc3, hf3⟩ := bcellB B3
      have K : Hid (Below w.heap.size w w3) := ((((Below.refl _ _).alloc (Nat.le_refl _) _).alloc (by simp) _).alloc (by simp; omega) _).trans (B3.mono (by omega))
      have z : Hid (w.heap.size + 3 ≤ w3.heap.size) := by have := B3.size; simp at this; unfold Hid; omega
      clear B3
      have z0 : w.heap.size < w3.heap.size := by have := z.out; omega
      have z1 : w.heap.size + 1 < w3.heap.size := by have := z.out; omega
      have z2 : w.heap.size + 1 + 1 < w3.heap.size := by have := z.out; omega
      have ha3 := fun o k j (h : k < w.heap.size + 3) => (alloc_cell (w := w3) (o := o) (k := k) (j := j) (by have := z.out; omega)).trans (hc3 k j h)
      go_wp2_with fail
      refine (sIvOk_c _ _ _).mono ?_
      rintro e w4 ⟨rfl, hb4⟩
      have K4 : Hid (Below w.heap.size w w4) := (K.out.alloc (by have := z.out; omega) _).trans (hb4.mono (by simp; omega))
      have hr4 := fun k j (h : k < w.heap.size + 3) => (hb4.cell (p := ⟨k, j, none⟩) (by have := z.out; simp; omega)).trans (ha3 _ k j h)
      have hz4 := fun k j (h : k < w.heap.size + 3) => ((hb4.frozen (p := ⟨k, j, none⟩) (by have := z.out; simp; omega)).trans (alloc_frozen (w := w3) (k := k) (j := j) (by have := z.out; omega))).trans (hf3 k j h)
      have ho0 : w4.cell? ⟨w3.heap.size, 0, none⟩ = some (.int .i64 (mx al (bl + 1))) := (hb4.cell (p := ⟨w3.heap.size, 0, none⟩) (by simp)).trans (by simp)
      have ho1 : w4.cell? ⟨w3.heap.size, 1, none⟩ = some (.int .i64 ah) := (hb4.cell (p := ⟨w3.heap.size, 1, none⟩) (by simp)).trans (by simp)
      clear hb4 ha3 hc3 hf3
      go_wp2
      exact bodyPost_ret (v := .tuple #[.agg #[.int .i64 0, .int .i64 0], .bool false]) (by simp [results, Try.results4, go_sem, hr4]) rfl ⟨by rw [E.out.1, E.out.2.1, E.out.2.2], (K4.out.setCell (by simp; omega) _).setCell (by simp; omega) _⟩
theorem sRef18 (al ah bl bh : Int) (ha : In al) (hh : In ah) (hl : In bl) (hg : In bh) (c2 : al ≤ ah ∧ bl ≤ bh) (w : World) : Calls Try.prog 4 #[.int .i64 18, .agg #[.int .i64 al, .int .i64 ah], .agg #[.int .i64 bl, .int .i64 bh]] w fun e w' => e = .returned (.tuple #[.agg #[.int .i64 (refL 18 al ah bl bh), .int .i64 (refH 18 al ah bl bh)], .bool (refB 18 al ah bl bh)]) ∧ Below w.heap.size w w' := by
  have d1 : cmpB 18 = true := rfl
  have d2 : okB al ah = true := decide_eq_true c2.1
  have d3 : okB bl bh = true := decide_eq_true c2.2
  have q := hmx al bl
  by_cases c9 : (mx al bl) ≤ ah
  · have d9 : okB (mx al bl) ah = true := decide_eq_true c9
    have E : Hid (refL 18 al ah bl bh = (mx al bl) ∧ refH 18 al ah bl bh = ah ∧ refB 18 al ah bl bh = true) := ref_yes (by omega) (by rfl) (by rfl) c9
    clear c9 c2
    go_enter Try.func4, Try.ntmps4
    go_wp2_with fail
    refine (l7Compares_c _ _).mono ?_
    rintro e w1 ⟨rfl, hb1⟩
    have B1 := hb1.mono (show w.heap.size + 3 ≤ _ by simp)
    clear hb1
    obtain ⟨hc1, hf1⟩ := bcellB B1
    have HB1 := hide B1
    clear B1
    go_wp2_with fail
    refine (sIvOk_c _ _ _).mono ?_
    rintro e w2 ⟨rfl, hb2⟩
    have B2 := (unhide HB1).trans (hb2.mono (by have := (unhide HB1).size; simp at this; omega))
    clear hb2 hc1 hf1 HB1
    obtain ⟨hc2, hf2⟩ := bcellB B2
    have HB2 := hide B2
    clear B2
    go_wp2_with fail
    refine (sIvOk_c _ _ _).mono ?_
    rintro e w3 ⟨rfl, hb3⟩
    have B3 := (unhide HB2).trans (hb3.mono (by have := (unhide HB2).size; simp at this; omega))
    clear hb3 hc2 hf2 HB2
    obtain ⟨hc3, hf3⟩ := bcellB B3
    have K : Hid (Below w.heap.size w w3) := ((((Below.refl _ _).alloc (Nat.le_refl _) _).alloc (by simp) _).alloc (by simp; omega) _).trans (B3.mono (by omega))
    have z : Hid (w.heap.size + 3 ≤ w3.heap.size) := by have := B3.size; simp at this; unfold Hid; omega
    clear B3
    have z0 : w.heap.size < w3.heap.size := by have := z.out; omega
    have z1 : w.heap.size + 1 < w3.heap.size := by have := z.out; omega
    have z2 : w.heap.size + 1 + 1 < w3.heap.size := by have := z.out; omega
    have ha3 := fun o k j (h : k < w.heap.size + 3) => (alloc_cell (w := w3) (o := o) (k := k) (j := j) (by have := z.out; omega)).trans (hc3 k j h)
    go_wp2_with fail
    refine (sIvOk_c _ _ _).mono ?_
    rintro e w4 ⟨rfl, hb4⟩
    have K4 : Hid (Below w.heap.size w w4) := (K.out.alloc (by have := z.out; omega) _).trans (hb4.mono (by simp; omega))
    have hr4 := fun k j (h : k < w.heap.size + 3) => (hb4.cell (p := ⟨k, j, none⟩) (by have := z.out; simp; omega)).trans (ha3 _ k j h)
    have hz4 := fun k j (h : k < w.heap.size + 3) => ((hb4.frozen (p := ⟨k, j, none⟩) (by have := z.out; simp; omega)).trans (alloc_frozen (w := w3) (k := k) (j := j) (by have := z.out; omega))).trans (hf3 k j h)
    have ho0 : w4.cell? ⟨w3.heap.size, 0, none⟩ = some (.int .i64 (mx al bl)) := (hb4.cell (p := ⟨w3.heap.size, 0, none⟩) (by simp)).trans (by simp)
    have ho1 : w4.cell? ⟨w3.heap.size, 1, none⟩ = some (.int .i64 ah) := (hb4.cell (p := ⟨w3.heap.size, 1, none⟩) (by simp)).trans (by simp)
    clear hb4 ha3 hc3 hf3
    go_wp2
    exact bodyPost_ret (v := .tuple #[.agg #[.int .i64 (mx al bl), .int .i64 ah], .bool true]) (by simp [results, Try.results4, go_sem, hr4]) rfl ⟨by rw [E.out.1, E.out.2.1, E.out.2.2], (K4.out.setCell (by simp; omega) _).setCell (by simp; omega) _⟩
  · have d9 : okB (mx al bl) ah = false := decide_eq_false c9
    have E : Hid (refL 18 al ah bl bh = 0 ∧ refH 18 al ah bl bh = 0 ∧ refB 18 al ah bl bh = false) := ref_non (x := (mx al bl)) (y := ah) (by rfl) (by rfl) c9
    clear c9 c2
    go_enter Try.func4, Try.ntmps4
    go_wp2_with fail
    refine (l7Compares_c _ _).mono ?_
    rintro e w1 ⟨rfl, hb1⟩
    have B1 := hb1.mono (show w.heap.size + 3 ≤ _ by simp)
    clear hb1
    obtain ⟨hc1, hf1⟩ := bcellB B1
    have HB1 := hide B1
    clear B1
    go_wp2_with fail
    refine (sIvOk_c _ _ _).mono ?_
    rintro e w2 ⟨rfl, hb2⟩
    have B2 := (unhide HB1).trans (hb2.mono (by have := (unhide HB1).size; simp at this; omega))
    clear hb2 hc1 hf1 HB1
    obtain ⟨hc2, hf2⟩ := bcellB B2
    have HB2 := hide B2
    clear B2
    go_wp2_with fail
    refine (sIvOk_c _ _ _).mono ?_
    rintro e w3 ⟨rfl, hb3⟩
    have B3 := (unhide HB2).trans (hb3.mono (by have := (unhide HB2).size; simp at this; omega))
    clear hb3 hc2 hf2 HB2
    obtain ⟨hc3, hf3⟩ := bcellB B3
    have K : Hid (Below w.heap.size w w3) := ((((Below.refl _ _).alloc (Nat.le_refl _) _).alloc (by simp) _).alloc (by simp; omega) _).trans (B3.mono (by omega))
    have z : Hid (w.heap.size + 3 ≤ w3.heap.size) := by have := B3.size; simp at this; unfold Hid; omega
    clear B3
    have z0 : w.heap.size < w3.heap.size := by have := z.out; omega
    have z1 : w.heap.size + 1 < w3.heap.size := by have := z.out; omega
    have z2 : w.heap.size + 1 + 1 < w3.heap.size := by have := z.out; omega
    have ha3 := fun o k j (h : k < w.heap.size + 3) => (alloc_cell (w := w3) (o := o) (k := k) (j := j) (by have := z.out; omega)).trans (hc3 k j h)
    go_wp2_with fail
    refine (sIvOk_c _ _ _).mono ?_
    rintro e w4 ⟨rfl, hb4⟩
    have K4 : Hid (Below w.heap.size w w4) := (K.out.alloc (by have := z.out; omega) _).trans (hb4.mono (by simp; omega))
    have hr4 := fun k j (h : k < w.heap.size + 3) => (hb4.cell (p := ⟨k, j, none⟩) (by have := z.out; simp; omega)).trans (ha3 _ k j h)
    have hz4 := fun k j (h : k < w.heap.size + 3) => ((hb4.frozen (p := ⟨k, j, none⟩) (by have := z.out; simp; omega)).trans (alloc_frozen (w := w3) (k := k) (j := j) (by have := z.out; omega))).trans (hf3 k j h)
    have ho0 : w4.cell? ⟨w3.heap.size, 0, none⟩ = some (.int .i64 (mx al bl)) := (hb4.cell (p := ⟨w3.heap.size, 0, none⟩) (by simp)).trans (by simp)
    have ho1 : w4.cell? ⟨w3.heap.size, 1, none⟩ = some (.int .i64 ah) := (hb4.cell (p := ⟨w3.heap.size, 1, none⟩) (by simp)).trans (by simp)
    clear hb4 ha3 hc3 hf3
    go_wp2
    exact bodyPost_ret (v := .tuple #[.agg #[.int .i64 0, .int .i64 0], .bool false]) (by simp [results, Try.results4, go_sem, hr4]) rfl ⟨by rw [E.out.1, E.out.2.1, E.out.2.2], (K4.out.setCell (by simp; omega) _).setCell (by simp; omega) _⟩
set_option maxHeartbeats 2000000 in
theorem sRef16 (al ah bl bh : Int) (ha : In al) (hh : In ah) (hl : In bl) (hg : In bh) (c2 : al ≤ ah ∧ bl ≤ bh) (w : World) : Calls Try.prog 4 #[.int .i64 16, .agg #[.int .i64 al, .int .i64 ah], .agg #[.int .i64 bl, .int .i64 bh]] w fun e w' => e = .returned (.tuple #[.agg #[.int .i64 (refL 16 al ah bl bh), .int .i64 (refH 16 al ah bl bh)], .bool (refB 16 al ah bl bh)]) ∧ Below w.heap.size w w' := by
  have d1 : cmpB 16 = true := rfl
  have d2 : okB al ah = true := decide_eq_true c2.1
  have d3 : okB bl bh = true := decide_eq_true c2.2
  by_cases c5 : bl = bh
  · subst c5
    by_cases c6 : al = bl
    · subst c6
      by_cases c7 : al = ah
      · subst c7
        have E : Hid (refL 16 al al al al = 0 ∧ refH 16 al al al al = 0 ∧ refB 16 al al al al = false) := ref_non (x := al + 1) (y := al - 1) (by unfold refLo; rw [if_neg (by omega), if_neg (by omega), if_neg (by omega), if_pos rfl, if_pos ⟨rfl, rfl⟩]) (by unfold refHi; rw [if_neg (by omega), if_neg (by omega), if_neg (by omega), if_pos rfl, if_pos ⟨rfl, rfl⟩]) (by omega)
        clear c2
        go_enter Try.func4, Try.ntmps4
        go_wp2_with fail
        refine (l7Compares_c _ _).mono ?_
        rintro e w1 ⟨rfl, hb1⟩
        have B1 := hb1.mono (show w.heap.size + 3 ≤ _ by simp)
        clear hb1
        obtain ⟨hc1, hf1⟩ := bcellB B1
        have HB1 := hide B1
        clear B1
        go_wp2_with fail
        refine (sIvOk_c _ _ _).mono ?_
        rintro e w2 ⟨rfl, hb2⟩
        have B2 := (unhide HB1).trans (hb2.mono (by have := (unhide HB1).size; simp at this; omega))
        clear hb2 hc1 hf1 HB1
        obtain ⟨hc2, hf2⟩ := bcellB B2
        have HB2 := hide B2
        clear B2
        go_wp2_with fail
        refine (sIvOk_c _ _ _).mono ?_
        rintro e w3 ⟨rfl, hb3⟩
        have B3 := (unhide HB2).trans (hb3.mono (by have := (unhide HB2).size; simp at this; omega))
        clear hb3 hc2 hf2 HB2
        obtain ⟨hc3, hf3⟩ := bcellB B3
        have K : Hid (Below w.heap.size w w3) := ((((Below.refl _ _).alloc (Nat.le_refl _) _).alloc (by simp) _).alloc (by simp; omega) _).trans (B3.mono (by omega))
        have z : Hid (w.heap.size + 3 ≤ w3.heap.size) := by have := B3.size; simp at this; unfold Hid; omega
        clear B3
        have z0 : w.heap.size < w3.heap.size := by have := z.out; omega
        have z1 : w.heap.size + 1 < w3.heap.size := by have := z.out; omega
        have z2 : w.heap.size + 1 + 1 < w3.heap.size := by have := z.out; omega
        have ha3 := fun o k j (h : k < w.heap.size + 3) => (alloc_cell (w := w3) (o := o) (k := k) (j := j) (by have := z.out; omega)).trans (hc3 k j h)
        go_wp2
        exact bodyPost_ret (v := .tuple #[.agg #[.int .i64 0, .int .i64 0], .bool false]) (by simp [results, Try.results4, go_sem, hc3, ha3, z0, z1, z2]) rfl ⟨by rw [E.out.1, E.out.2.1, E.out.2.2], ((K.out.setCell (by simp; omega) _).setCell (by simp; omega) _).alloc (by have := z.out; simp [World.setCell]; omega) _⟩
      · have q1 : (al == ah) = false := by simpa using c7
        have q2 : (ah == al) = false := by simpa using fun h => c7 h.symm
        have e1 : wrap64 (al + 1) = al + 1 := w64 _ (by unfold In at *; omega)
        have d9 : okB (al + 1) ah = true := decide_eq_true (by omega)
        have E : Hid (refL 16 al ah al al = (al + 1) ∧ refH 16 al ah al al = ah ∧ refB 16 al ah al al = true) := ref_yes (by omega) (by unfold refLo; rw [if_neg (by omega), if_neg (by omega), if_neg (by omega), if_pos rfl, if_pos ⟨rfl, rfl⟩]) (by unfold refHi; rw [if_neg (by omega), if_neg (by omega), if_neg (by omega), if_pos rfl, if_neg (by omega)]) (by omega)
        clear c2 c7
        go_enter Try.func4, Try.ntmps4
        go_wp2_with fail
        refine (l7Compares_c _ _).mono ?_
        rintro e w1 ⟨rfl, hb1⟩
        have B1 := hb1.mono (show w.heap.size + 3 ≤ _ by simp)
        clear hb1
        obtain ⟨hc1, hf1⟩ := bcellB B1
        have HB1 := hide B1
        clear B1
        go_wp2_with fail
        refine (sIvOk_c _ _ _).mono ?_
        rintro e w2 ⟨rfl, hb2⟩
        have B2 := (unhide HB1).trans (hb2.mono (by have := (unhide HB1).size; simp at this; omega))
        clear hb2 hc1 hf1 HB1
        obtain ⟨hc2, hf2⟩ := bcellB B2
        have HB2 := hide B2
        clear B2
        go_wp2_with fail
        refine (sIvOk_c _ _ _).mono ?_
        rintro e w3 ⟨rfl, hb3⟩
        have B3 := (unhide HB2).trans (hb3.mono (by have := (unhide HB2).size; simp at this; omega))
        clear hb3 hc2 hf2 HB2
        obtain ⟨hc3, hf3⟩ := bcellB B3
        have K : Hid (Below w.heap.size w w3) := ((((Below.refl _ _).alloc (Nat.le_refl _) _).alloc (by simp) _).alloc (by simp; omega) _).trans (B3.mono (by omega))
        have z : Hid (w.heap.size + 3 ≤ w3.heap.size) := by have := B3.size; simp at this; unfold Hid; omega
        clear B3
        have z0 : w.heap.size < w3.heap.size := by have := z.out; omega
        have z1 : w.heap.size + 1 < w3.heap.size := by have := z.out; omega
        have z2 : w.heap.size + 1 + 1 < w3.heap.size := by have := z.out; omega
        have ha3 := fun o k j (h : k < w.heap.size + 3) => (alloc_cell (w := w3) (o := o) (k := k) (j := j) (by have := z.out; omega)).trans (hc3 k j h)
        go_wp2_with fail
        refine (sIvOk_c _ _ _).mono ?_
        rintro e w4 ⟨rfl, hb4⟩
        have K4 : Hid (Below w.heap.size w w4) := (K.out.alloc (by have := z.out; omega) _).trans (hb4.mono (by simp; omega))
        have hr4 := fun k j (h : k < w.heap.size + 3) => (hb4.cell (p := ⟨k, j, none⟩) (by have := z.out; simp; omega)).trans (ha3 _ k j h)
        have hz4 := fun k j (h : k < w.heap.size + 3) => ((hb4.frozen (p := ⟨k, j, none⟩) (by have := z.out; simp; omega)).trans (alloc_frozen (w := w3) (k := k) (j := j) (by have := z.out; omega))).trans (hf3 k j h)
        have ho0 : w4.cell? ⟨w3.heap.size, 0, none⟩ = some (.int .i64 (al + 1)) := (hb4.cell (p := ⟨w3.heap.size, 0, none⟩) (by simp)).trans (by simp)
        have ho1 : w4.cell? ⟨w3.heap.size, 1, none⟩ = some (.int .i64 ah) := (hb4.cell (p := ⟨w3.heap.size, 1, none⟩) (by simp)).trans (by simp)
        clear hb4 ha3 hc3 hf3
        go_wp2
        exact bodyPost_ret (v := .tuple #[.agg #[.int .i64 (al + 1), .int .i64 ah], .bool true]) (by simp [results, Try.results4, go_sem, hr4]) rfl ⟨by rw [E.out.1, E.out.2.1, E.out.2.2], (K4.out.setCell (by simp; omega) _).setCell (by simp; omega) _⟩
    · have q1 : (al == bl) = false := by simpa using c6
      by_cases c7 : ah = bl
      · subst c7
        have e1 : wrap64 (ah - 1) = ah - 1 := w64 _ (by unfold In at *; omega)
        have d9 : okB al (ah - 1) = true := decide_eq_true (by omega)
        have E : Hid (refL 16 al ah ah ah = al ∧ refH 16 al ah ah ah = (ah - 1) ∧ refB 16 al ah ah ah = true) := ref_yes (by omega) (by unfold refLo; rw [if_neg (by omega), if_neg (by omega), if_neg (by omega), if_pos rfl, if_neg (by omega)]) (by unfold refHi; rw [if_neg (by omega), if_neg (by omega), if_neg (by omega), if_pos rfl, if_pos ⟨rfl, rfl⟩]) (by omega)
        clear c2 c6
        go_enter Try.func4, Try.ntmps4
        go_wp2_with fail
        refine (l7Compares_c _ _).mono ?_
        rintro e w1 ⟨rfl, hb1⟩
        have B1 := hb1.mono (show w.heap.size + 3 ≤ _ by simp)
        clear hb1
        obtain ⟨hc1, hf1⟩ := bcellB B1
        have HB1 := hide B1
        clear B1
        go_wp2_with fail
        refine (sIvOk_c _ _ _).mono ?_
        rintro e w2 ⟨rfl, hb2⟩
        have B2 := (unhide HB1).trans (hb2.mono (by have := (unhide HB1).size; simp at this; omega))
        clear hb2 hc1 hf1 HB1
        obtain ⟨hc2, hf2⟩ := bcellB B2
        have HB2 := hide B2
        clear B2
        go_wp2_with fail
        refine (sIvOk_c _ _ _).mono ?_
        rintro e w3 ⟨rfl, hb3⟩
        have B3 := (unhide HB2).trans (hb3.mono (by have := (unhide HB2).size; simp at this; omega))
        clear hb3 hc2 hf2 HB2
        obtain ⟨hc3, hf3⟩ := bcellB B3
        have K : Hid (Below w.heap.size w w3) := ((((Below.refl _ _).alloc (Nat.le_refl _) _).alloc (by simp) _).alloc (by simp; omega) _).trans (B3.mono (by omega))
        have z : Hid (w.heap.size + 3 ≤ w3.heap.size) := by have := B3.size; simp at this; unfold Hid; omega
        clear B3
        have z0 : w.heap.size < w3.heap.size := by have := z.out; omega
        have z1 : w.heap.size + 1 < w3.heap.size := by have := z.out; omega
        have z2 : w.heap.size + 1 + 1 < w3.heap.size := by have := z.out; omega
        have ha3 := fun o k j (h : k < w.heap.size + 3) => (alloc_cell (w := w3) (o := o) (k := k) (j := j) (by have := z.out; omega)).trans (hc3 k j h)
        go_wp2_with fail
        refine (sIvOk_c _ _ _).mono ?_
        rintro e w4 ⟨rfl, hb4⟩
        have K4 : Hid (Below w.heap.size w w4) := (K.out.alloc (by have := z.out; omega) _).trans (hb4.mono (by simp; omega))
        have hr4 := fun k j (h : k < w.heap.size + 3) => (hb4.cell (p := ⟨k, j, none⟩) (by have := z.out; simp; omega)).trans (ha3 _ k j h)
        have hz4 := fun k j (h : k < w.heap.size + 3) => ((hb4.frozen (p := ⟨k, j, none⟩) (by have := z.out; simp; omega)).trans (alloc_frozen (w := w3) (k := k) (j := j) (by have := z.out; omega))).trans (hf3 k j h)
        have ho0 : w4.cell? ⟨w3.heap.size, 0, none⟩ = some (.int .i64 al) := (hb4.cell (p := ⟨w3.heap.size, 0, none⟩) (by simp)).trans (by simp)
        have ho1 : w4.cell? ⟨w3.heap.size, 1, none⟩ = some (.int .i64 (ah - 1)) := (hb4.cell (p := ⟨w3.heap.size, 1, none⟩) (by simp)).trans (by simp)
        clear hb4 ha3 hc3 hf3
        go_wp2
        exact bodyPost_ret (v := .tuple #[.agg #[.int .i64 al, .int .i64 (ah - 1)], .bool true]) (by simp [results, Try.results4, go_sem, hr4]) rfl ⟨by rw [E.out.1, E.out.2.1, E.out.2.2], (K4.out.setCell (by simp; omega) _).setCell (by simp; omega) _⟩
      · have q2 : (ah == bl) = false := by simpa using c7
        by_cases c8 : al = ah
        · subst c8
          have d9 : okB al al = true := decide_eq_true (by omega)
          have E : Hid (refL 16 al al bl bl = al ∧ refH 16 al al bl bl = al ∧ refB 16 al al bl bl = true) := ref_yes (by omega) (by unfold refLo; rw [if_neg (by omega), if_neg (by omega), if_neg (by omega), if_pos rfl, if_neg (by omega)]) (by unfold refHi; rw [if_neg (by omega), if_neg (by omega), if_neg (by omega), if_pos rfl, if_neg (by omega)]) (by omega)
          clear c2 c6 c7
          go_enter Try.func4, Try.ntmps4
          go_wp2_with fail
          refine (l7Compares_c _ _).mono ?_
          rintro e w1 ⟨rfl, hb1⟩
          have B1 := hb1.mono (show w.heap.size + 3 ≤ _ by simp)
          clear hb1
          obtain ⟨hc1, hf1⟩ := bcellB B1
          have HB1 := hide B1
          clear B1
          go_wp2_with fail
          refine (sIvOk_c _ _ _).mono ?_
          rintro e w2 ⟨rfl, hb2⟩
          have B2 := (unhide HB1).trans (hb2.mono (by have := (unhide HB1).size; simp at this; omega))
          clear hb2 hc1 hf1 HB1
          obtain ⟨hc2, hf2⟩ := bcellB B2
          have HB2 := hide B2
          clear B2
          go_wp2_with fail
          refine (sIvOk_c _ _ _).mono ?_
          rintro e w3 ⟨rfl, hb3⟩
          have B3 := (unhide HB2).trans (hb3.mono (by have := (unhide HB2).size; simp at this; omega))
          clear hb3 hc2 hf2 HB2
          obtain ⟨hc3, hf3⟩ := bcellB B3
          have K : Hid (Below w.heap.size w w3) := ((((Below.refl _ _).alloc (Nat.le_refl _) _).alloc (by simp) _).alloc (by simp; omega) _).trans (B3.mono (by omega))
          have z : Hid (w.heap.size + 3 ≤ w3.heap.size) := by have := B3.size; simp at this; unfold Hid; omega
          clear B3
          have z0 : w.heap.size < w3.heap.size := by have := z.out; omega
          have z1 : w.heap.size + 1 < w3.heap.size := by have := z.out; omega
          have z2 : w.heap.size + 1 + 1 < w3.heap.size := by have := z.out; omega
          have ha3 := fun o k j (h : k < w.heap.size + 3) => (alloc_cell (w := w3) (o := o) (k := k) (j := j) (by have := z.out; omega)).trans (hc3 k j h)
          go_wp2_with fail
          refine (sIvOk_c _ _ _).mono ?_
          rintro e w4 ⟨rfl, hb4⟩
          have K4 : Hid (Below w.heap.size w w4) := (K.out.alloc (by have := z.out; omega) _).trans (hb4.mono (by simp; omega))
          have hr4 := fun k j (h : k < w.heap.size + 3) => (hb4.cell (p := ⟨k, j, none⟩) (by have := z.out; simp; omega)).trans (ha3 _ k j h)
          have hz4 := fun k j (h : k < w.heap.size + 3) => ((hb4.frozen (p := ⟨k, j, none⟩) (by have := z.out; simp; omega)).trans (alloc_frozen (w := w3) (k := k) (j := j) (by have := z.out; omega))).trans (hf3 k j h)
          have ho0 : w4.cell? ⟨w3.heap.size, 0, none⟩ = some (.int .i64 al) := (hb4.cell (p := ⟨w3.heap.size, 0, none⟩) (by simp)).trans (by simp)
          have ho1 : w4.cell? ⟨w3.heap.size, 1, none⟩ = some (.int .i64 al) := (hb4.cell (p := ⟨w3.heap.size, 1, none⟩) (by simp)).trans (by simp)
          clear hb4 ha3 hc3 hf3
          go_wp2
          exact bodyPost_ret (v := .tuple #[.agg #[.int .i64 al, .int .i64 al], .bool true]) (by simp [results, Try.results4, go_sem, hr4]) rfl ⟨by rw [E.out.1, E.out.2.1, E.out.2.2], (K4.out.setCell (by simp; omega) _).setCell (by simp; omega) _⟩
        · have q3 : (al == ah) = false := by simpa using c8
          have d9 : okB al ah = true := decide_eq_true (by omega)
          have E : Hid (refL 16 al ah bl bl = al ∧ refH 16 al ah bl bl = ah ∧ refB 16 al ah bl bl = true) := ref_yes (by omega) (by unfold refLo; rw [if_neg (by omega), if_neg (by omega), if_neg (by omega), if_pos rfl, if_neg (by omega)]) (by unfold refHi; rw [if_neg (by omega), if_neg (by omega), if_neg (by omega), if_pos rfl, if_neg (by omega)]) (by omega)
          clear c2 c6 c7 c8
          go_enter Try.func4, Try.ntmps4
          go_wp2_with fail
          refine (l7Compares_c _ _).mono ?_
          rintro e w1 ⟨rfl, hb1⟩
          have B1 := hb1.mono (show w.heap.size + 3 ≤ _ by simp)
          clear hb1
          obtain ⟨hc1, hf1⟩ := bcellB B1
          have HB1 := hide B1
          clear B1
          go_wp2_with fail
          refine (sIvOk_c _ _ _).mono ?_
          rintro e w2 ⟨rfl, hb2⟩
          have B2 := (unhide HB1).trans (hb2.mono (by have := (unhide HB1).size; simp at this; omega))
          clear hb2 hc1 hf1 HB1
          obtain ⟨hc2, hf2⟩ := bcellB B2
          have HB2 := hide B2
          clear B2
          go_wp2_with fail
          refine (sIvOk_c _ _ _).mono ?_
          rintro e w3 ⟨rfl, hb3⟩
          have B3 := (unhide HB2).trans (hb3.mono (by have := (unhide HB2).size; simp at this; omega))
          clear hb3 hc2 hf2 HB2
          obtain ⟨hc3, hf3⟩ := bcellB B3
          have K : Hid (Below w.heap.size w w3) := ((((Below.refl _ _).alloc (Nat.le_refl _) _).alloc (by simp) _).alloc (by simp; omega) _).trans (B3.mono (by omega))
          have z : Hid (w.heap.size + 3 ≤ w3.heap.size) := by have := B3.size; simp at this; unfold Hid; omega
          clear B3
          have z0 : w.heap.size < w3.heap.size := by have := z.out; omega
          have z1 : w.heap.size + 1 < w3.heap.size := by have := z.out; omega
          have z2 : w.heap.size + 1 + 1 < w3.heap.size := by have := z.out; omega
          have ha3 := fun o k j (h : k < w.heap.size + 3) => (alloc_cell (w := w3) (o := o) (k := k) (j := j) (by have := z.out; omega)).trans (hc3 k j h)
          go_wp2_with fail
          refine (sIvOk_c _ _ _).mono ?_
          rintro e w4 ⟨rfl, hb4⟩
          have K4 : Hid (Below w.heap.size w w4) := (K.out.alloc (by have := z.out; omega) _).trans (hb4.mono (by simp; omega))
          have hr4 := fun k j (h : k < w.heap.size + 3) => (hb4.cell (p := ⟨k, j, none⟩) (by have := z.out; simp; omega)).trans (ha3 _ k j h)
          have hz4 := fun k j (h : k < w.heap.size + 3) => ((hb4.frozen (p := ⟨k, j, none⟩) (by have := z.out; simp; omega)).trans (alloc_frozen (w := w3) (k := k) (j := j) (by have := z.out; omega))).trans (hf3 k j h)
          have ho0 : w4.cell? ⟨w3.heap.size, 0, none⟩ = some (.int .i64 al) := (hb4.cell (p := ⟨w3.heap.size, 0, none⟩) (by simp)).trans (by simp)
          have ho1 : w4.cell? ⟨w3.heap.size, 1, none⟩ = some (.int .i64 ah) := (hb4.cell (p := ⟨w3.heap.size, 1, none⟩) (by simp)).trans (by simp)
          clear hb4 ha3 hc3 hf3
          go_wp2
          exact bodyPost_ret (v := .tuple #[.agg #[.int .i64 al, .int .i64 ah], .bool true]) (by simp [results, Try.results4, go_sem, hr4]) rfl ⟨by rw [E.out.1, E.out.2.1, E.out.2.2], (K4.out.setCell (by simp; omega) _).setCell (by simp; omega) _⟩
  · have q1 : (bl == bh) = false := by simpa using c5
    have d9 : okB al ah = true := decide_eq_true (by omega)
    have E : Hid (refL 16 al ah bl bh = al ∧ refH 16 al ah bl bh = ah ∧ refB 16 al ah bl bh = true) := ref_yes (by omega) (by unfold refLo; rw [if_neg (by omega), if_neg (by omega), if_neg (by omega), if_pos rfl, if_neg (by omega)]) (by unfold refHi; rw [if_neg (by omega), if_neg (by omega), if_neg (by omega), if_pos rfl, if_neg (by omega)]) (by omega)
    clear c2 c5
    go_enter Try.func4, Try.ntmps4
    go_wp2_with fail
    refine (l7Compares_c _ _).mono ?_
    rintro e w1 ⟨rfl, hb1⟩
    have B1 := hb1.mono (show w.heap.size + 3 ≤ _ by simp)
    clear hb1
    obtain ⟨hc1, hf1⟩ := bcellB B1
    have HB1 := hide B1
    clear B1
    go_wp2_with fail
    refine (sIvOk_c _ _ _).mono ?_
    rintro e w2 ⟨rfl, hb2⟩
    have B2 := (unhide HB1).trans (hb2.mono (by have := (unhide HB1).size; simp at this; omega))
    clear hb2 hc1 hf1 HB1
    obtain ⟨hc2, hf2⟩ := bcellB B2
    have HB2 := hide B2
    clear B2
    go_wp2_with fail
    refine (sIvOk_c _ _ _).mono ?_
    rintro e w3 ⟨rfl, hb3⟩
    have B3 := (unhide HB2).trans (hb3.mono (by have := (unhide HB2).size; simp at this; omega))
    clear hb3 hc2 hf2 HB2
    obtain ⟨hc3, hf3⟩ := bcellB B3
    have K : Hid (Below w.heap.size w w3) := ((((Below.refl _ _).alloc (Nat.le_refl _) _).alloc (by simp) _).alloc (by simp; omega) _).trans (B3.mono (by omega))
    have z : Hid (w.heap.size + 3 ≤ w3.heap.size) := by have := B3.size; simp at this; unfold Hid; omega
    clear B3
    have z0 : w.heap.size < w3.heap.size := by have := z.out; omega
    have z1 : w.heap.size + 1 < w3.heap.size := by have := z.out; omega
    have z2 : w.heap.size + 1 + 1 < w3.heap.size := by have := z.out; omega
    have ha3 := fun o k j (h : k < w.heap.size + 3) => (alloc_cell (w := w3) (o := o) (k := k) (j := j) (by have := z.out; omega)).trans (hc3 k j h)
    go_wp2_with fail
    refine (sIvOk_c _ _ _).mono ?_
    rintro e w4 ⟨rfl, hb4⟩
    have K4 : Hid (Below w.heap.size w w4) := (K.out.alloc (by have := z.out; omega) _).trans (hb4.mono (by simp; omega))
    have hr4 := fun k j (h : k < w.heap.size + 3) => (hb4.cell (p := ⟨k, j, none⟩) (by have := z.out; simp; omega)).trans (ha3 _ k j h)
    have hz4 := fun k j (h : k < w.heap.size + 3) => ((hb4.frozen (p := ⟨k, j, none⟩) (by have := z.out; simp; omega)).trans (alloc_frozen (w := w3) (k := k) (j := j) (by have := z.out; omega))).trans (hf3 k j h)
    have ho0 : w4.cell? ⟨w3.heap.size, 0, none⟩ = some (.int .i64 al) := (hb4.cell (p := ⟨w3.heap.size, 0, none⟩) (by simp)).trans (by simp)
    have ho1 : w4.cell? ⟨w3.heap.size, 1, none⟩ = some (.int .i64 ah) := (hb4.cell (p := ⟨w3.heap.size, 1, none⟩) (by simp)).trans (by simp)
    clear hb4 ha3 hc3 hf3
    go_wp2
    exact bodyPost_ret (v := .tuple #[.agg #[.int .i64 al, .int .i64 ah], .bool true]) (by simp [results, Try.results4, go_sem, hr4]) rfl ⟨by rw [E.out.1, E.out.2.1, E.out.2.2], (K4.out.setCell (by simp; omega) _).setCell (by simp; omega) _⟩
theorem sIvRefine_c (op al ah bl bh : Int) (ha : In al) (hh : In ah) (hl : In bl) (hg : In bh) (w : World) : Calls Try.prog 4 #[.int .i64 op, .agg #[.int .i64 al, .int .i64 ah], .agg #[.int .i64 bl, .int .i64 bh]] w fun e w' => e = .returned (.tuple #[.agg #[.int .i64 (refL op al ah bl bh), .int .i64 (refH op al ah bl bh)], .bool (refB op al ah bl bh)]) ∧ Below w.heap.size w w' := by
  by_cases c1 : 13 ≤ op ∧ op ≤ 18
  · have d1 : cmpB op = true := decide_eq_true c1
    by_cases c2 : al ≤ ah
    · have d2 : okB al ah = true := decide_eq_true c2
      by_cases c3 : bl ≤ bh
      · rcases (by omega : op = 13 ∨ op = 14 ∨ op = 15 ∨ op = 16 ∨ op = 17 ∨ op = 18) with rfl | rfl | rfl | rfl | rfl | rfl
        · exact sRef13 _ _ _ _ ha hh hl hg ⟨c2, c3⟩ w
        · exact sRef14 _ _ _ _ ha hh hl hg ⟨c2, c3⟩ w
        · exact sRef15 _ _ _ _ ha hh hl hg ⟨c2, c3⟩ w
        · exact sRef16 _ _ _ _ ha hh hl hg ⟨c2, c3⟩ w
        · exact sRef17 _ _ _ _ ha hh hl hg ⟨c2, c3⟩ w
        · exact sRef18 _ _ _ _ ha hh hl hg ⟨c2, c3⟩ w
      · have d3 : okB bl bh = false := decide_eq_false c3
        have E : Hid (refL op al ah bl bh = 0 ∧ refH op al ah bl bh = 0 ∧ refB op al ah bl bh = false) := ref_no (fun h => c3 h.2.2.2.1)
        clear c1 c2 c3
        go_enter Try.func4, Try.ntmps4
        go_wp2_with fail
        refine (l7Compares_c _ _).mono ?_
        rintro e w1 ⟨rfl, hb1⟩
        have B1 := hb1.mono (show w.heap.size + 3 ≤ _ by simp)
        clear hb1
        obtain ⟨hc1, hf1⟩ := bcellB B1
        have HB1 := hide B1
        clear B1
        go_wp2_with fail
        refine (sIvOk_c _ _ _).mono ?_
        rintro e w2 ⟨rfl, hb2⟩
        have B2 := (unhide HB1).trans (hb2.mono (by have := (unhide HB1).size; simp at this; omega))
        clear hb2 hc1 hf1 HB1
        obtain ⟨hc2, hf2⟩ := bcellB B2
        have HB2 := hide B2
        clear B2
        go_wp2_with fail
        refine (sIvOk_c _ _ _).mono ?_
        rintro e w3 ⟨rfl, hb3⟩
        have B3 := (unhide HB2).trans (hb3.mono (by have := (unhide HB2).size; simp at this; omega))
        clear hb3 hc2 hf2 HB2
        obtain ⟨hc3, hf3⟩ := bcellB B3
        have K : Hid (Below w.heap.size w w3) := ((((Below.refl _ _).alloc (Nat.le_refl _) _).alloc (by simp) _).alloc (by simp; omega) _).trans (B3.mono (by omega))
        have z : Hid (w.heap.size + 3 ≤ w3.heap.size) := by have := B3.size; simp at this; unfold Hid; omega
        clear B3
        go_wp2
        exact bodyPost_ret (v := .tuple #[.agg #[.int .i64 0, .int .i64 0], .bool false]) (by simp [results, Try.results4, go_sem, hc3, z.out]) rfl ⟨by rw [E.out.1, E.out.2.1, E.out.2.2], (K.out.setCell (by simp; omega) _).setCell (by simp; omega) _⟩
    · have d2 : okB al ah = false := decide_eq_false c2
      have E : Hid (refL op al ah bl bh = 0 ∧ refH op al ah bl bh = 0 ∧ refB op al ah bl bh = false) := ref_no (fun h => c2 h.2.2.1)
      clear c1 c2
      go_enter Try.func4, Try.ntmps4
      go_wp2_with fail
      refine (l7Compares_c _ _).mono ?_
      rintro e w1 ⟨rfl, hb1⟩
      have B1 := hb1.mono (show w.heap.size + 3 ≤ _ by simp)
      clear hb1
      obtain ⟨hc1, hf1⟩ := bcellB B1
      have HB1 := hide B1
      clear B1
      go_wp2_with fail
      refine (sIvOk_c _ _ _).mono ?_
      rintro e w2 ⟨rfl, hb2⟩
      have B2 := (unhide HB1).trans (hb2.mono (by have := (unhide HB1).size; simp at this; omega))
      clear hb2 hc1 hf1 HB1
      obtain ⟨hc2, hf2⟩ := bcellB B2
      have K : Hid (Below w.heap.size w w2) := ((((Below.refl _ _).alloc (Nat.le_refl _) _).alloc (by simp) _).alloc (by simp; omega) _).trans (B2.mono (by omega))
      have z : Hid (w.heap.size + 3 ≤ w2.heap.size) := by have := B2.size; simp at this; unfold Hid; omega
      clear B2
      go_wp2
      exact bodyPost_ret (v := .tuple #[.agg #[.int .i64 0, .int .i64 0], .bool false]) (by simp [results, Try.results4, go_sem, hc2, z.out]) rfl ⟨by rw [E.out.1, E.out.2.1, E.out.2.2], (K.out.setCell (by simp; omega) _).setCell (by simp; omega) _⟩
  · have d1 : cmpB op = false := decide_eq_false c1
    have E : Hid (refL op al ah bl bh = 0 ∧ refH op al ah bl bh = 0 ∧ refB op al ah bl bh = false) := ref_no (fun h => c1 ⟨h.1, h.2.1⟩)
    clear c1
    go_enter Try.func4, Try.ntmps4
    go_wp2_with fail
    refine (l7Compares_c _ _).mono ?_
    rintro e w1 ⟨rfl, hb1⟩
    have B1 := hb1.mono (show w.heap.size + 3 ≤ _ by simp)
    clear hb1
    obtain ⟨hc1, hf1⟩ := bcellB B1
    have K : Hid (Below w.heap.size w w1) := ((((Below.refl _ _).alloc (Nat.le_refl _) _).alloc (by simp) _).alloc (by simp; omega) _).trans (B1.mono (by omega))
    have z : Hid (w.heap.size + 3 ≤ w1.heap.size) := by have := B1.size; simp at this; unfold Hid; omega
    clear B1
    go_wp2
    exact bodyPost_ret (v := .tuple #[.agg #[.int .i64 0, .int .i64 0], .bool false]) (by simp [results, Try.results4, go_sem, hc1, z.out]) rfl ⟨by rw [E.out.1, E.out.2.1, E.out.2.2], (K.out.setCell (by simp; omega) _).setCell (by simp; omega) _⟩
end Go.Proofs.Ytlgjbfkhajphdaa
