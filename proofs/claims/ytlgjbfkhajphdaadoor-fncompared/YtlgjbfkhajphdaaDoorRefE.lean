/- What comparisons leave of an interval: the program's IvRefine. -/
import Derived.Test.YtlgjbfkhajphdaaDoorRefD
namespace Go.Proofs.YtlgjbfkhajphdaaDoor
open Go.RowKit Go.Iv
set_option linter.unusedSimpArgs false
set_option linter.unusedVariables false

theorem meet14 {al ah bl bh : Int} (ha : In al) (h : al ≤ ah ∧ bl ≤ bh) : refL 14 al ah bl bh = meetL al ah (-9223372036854775808) bh ∧ refH 14 al ah bl bh = meetH al ah (-9223372036854775808) bh ∧ refB 14 al ah bl bh = meetB al ah (-9223372036854775808) bh := by
  have e : mx al (-9223372036854775808) = al := by rw [mx_eq]; unfold In at ha; omega
  unfold meetL meetH meetB
  rw [e]
  by_cases c : al ≤ mn ah bh
  · obtain ⟨q1, q2, q3⟩ := ref_yes (op := 14) (al := al) (ah := ah) (bl := bl) (bh := bh) (x := al) (y := mn ah bh) (by omega) rfl rfl c
    rw [q1, q2, q3, if_pos c, if_pos c, decide_eq_true c]; exact ⟨rfl, rfl, rfl⟩
  · obtain ⟨q1, q2, q3⟩ := ref_non (op := 14) (al := al) (ah := ah) (bl := bl) (bh := bh) (x := al) (y := mn ah bh) rfl rfl c
    rw [q1, q2, q3, if_neg c, if_neg c, decide_eq_false c]; exact ⟨rfl, rfl, rfl⟩
theorem meet15 {al ah bl bh : Int}  (h : al ≤ ah ∧ bl ≤ bh) : refL 15 al ah bl bh = meetL al ah bl bh ∧ refH 15 al ah bl bh = meetH al ah bl bh ∧ refB 15 al ah bl bh = meetB al ah bl bh := by
  have e : mx al bl = mx al bl := by rfl
  unfold meetL meetH meetB
  rw [e]
  by_cases c : mx al bl ≤ mn ah bh
  · obtain ⟨q1, q2, q3⟩ := ref_yes (op := 15) (al := al) (ah := ah) (bl := bl) (bh := bh) (x := mx al bl) (y := mn ah bh) (by omega) rfl rfl c
    rw [q1, q2, q3, if_pos c, if_pos c, decide_eq_true c]; exact ⟨rfl, rfl, rfl⟩
  · obtain ⟨q1, q2, q3⟩ := ref_non (op := 15) (al := al) (ah := ah) (bl := bl) (bh := bh) (x := mx al bl) (y := mn ah bh) rfl rfl c
    rw [q1, q2, q3, if_neg c, if_neg c, decide_eq_false c]; exact ⟨rfl, rfl, rfl⟩
theorem meet18 {al ah bl bh : Int} (hh : In ah) (h : al ≤ ah ∧ bl ≤ bh) : refL 18 al ah bl bh = meetL al ah bl 9223372036854775807 ∧ refH 18 al ah bl bh = meetH al ah bl 9223372036854775807 ∧ refB 18 al ah bl bh = meetB al ah bl 9223372036854775807 := by
  have e : mn ah 9223372036854775807 = ah := by rw [mn_eq]; unfold In at hh; omega
  unfold meetL meetH meetB
  rw [e]
  by_cases c : mx al bl ≤ ah
  · obtain ⟨q1, q2, q3⟩ := ref_yes (op := 18) (al := al) (ah := ah) (bl := bl) (bh := bh) (x := mx al bl) (y := ah) (by omega) rfl rfl c
    rw [q1, q2, q3, if_pos c, if_pos c, decide_eq_true c]; exact ⟨rfl, rfl, rfl⟩
  · obtain ⟨q1, q2, q3⟩ := ref_non (op := 18) (al := al) (ah := ah) (bl := bl) (bh := bh) (x := mx al bl) (y := ah) rfl rfl c
    rw [q1, q2, q3, if_neg c, if_neg c, decide_eq_false c]; exact ⟨rfl, rfl, rfl⟩
theorem IvRefine_c (op al ah bl bh : Int) (ha : In al) (hh : In ah) (hl : In bl) (hg : In bh) (w : World) : Calls Tryd.prog 20 #[.int .i64 op, .agg #[.int .i64 al, .int .i64 ah], .agg #[.int .i64 bl, .int .i64 bh]] w fun e w' => e = .returned (.tuple #[.agg #[.int .i64 (refL op al ah bl bh), .int .i64 (refH op al ah bl bh)], .bool (refB op al ah bl bh)]) ∧ Below w.heap.size w w' := by
  by_cases c1 : 13 ≤ op ∧ op ≤ 18
  · have d1 : cmpB op = true := decide_eq_true c1
    by_cases c2 : al ≤ ah ∧ bl ≤ bh
    · have d2 : bothB al ah bl bh = true := decide_eq_true c2
      rcases (by omega : op = 13 ∨ op = 14 ∨ op = 15 ∨ op = 16 ∨ op = 17 ∨ op = 18) with rfl | rfl | rfl | rfl | rfl | rfl
      · by_cases c3 : al < bh
        · have E : Hid (refL 13 al ah bl bh = al ∧ refH 13 al ah bl bh = mn ah (bh - 1) ∧ refB 13 al ah bl bh = true) := ref_yes (by omega) rfl rfl (by rw [mn_eq]; omega)
          clear c1 c2
          go_enter Tryd.func20, Tryd.ntmps20
          go_wp2_with fail
          refine (isCompare_c _ _).mono ?_
          rintro e w1 ⟨rfl, hb1⟩
          have B1 := hb1.mono (show w.heap.size + 3 ≤ _ by simp)
          clear hb1
          obtain ⟨hc1, hf1⟩ := bcellB B1
          have HB1 := hide B1
          clear B1
          go_wp2_with fail
          refine (bothOk_c _ _ _ _ _).mono ?_
          rintro e w2 ⟨rfl, hb2⟩
          have B2 := (unhide HB1).trans (hb2.mono (by have := (unhide HB1).size; simp at this; omega))
          clear hb2 hc1 hf1 HB1
          obtain ⟨hc2, hf2⟩ := bcellB B2
          have HB2 := hide B2
          clear B2
          go_wp2_with fail
          refine (lessThan_t _ _ _ ha hh hg c3 _).mono ?_
          rintro e w3 ⟨rfl, hb3⟩
          have B3 := (unhide HB2).trans (hb3.mono (by have := (unhide HB2).size; simp at this; omega))
          clear hb3 hc2 hf2 HB2
          obtain ⟨hc3, hf3⟩ := bcellB B3
          have K : Hid (Below w.heap.size w w3) := ((((Below.refl _ _).alloc (Nat.le_refl _) _).alloc (by simp) _).alloc (by simp; omega) _).trans (B3.mono (by omega))
          have z : Hid (w.heap.size + 3 ≤ w3.heap.size) := by have := B3.size; simp at this; unfold Hid; omega
          clear B3
          go_wp2
          exact bodyPost_ret (v := .tuple #[.agg #[.int .i64 al, .int .i64 (mn ah (bh - 1))], .bool true]) (by simp [results, Tryd.results20, go_sem, hc3, z.out]) rfl ⟨by rw [E.out.1, E.out.2.1, E.out.2.2], (K.out.setCell (by simp; omega) _).setCell (by simp; omega) _⟩
        · have E : Hid (refL 13 al ah bl bh = 0 ∧ refH 13 al ah bl bh = 0 ∧ refB 13 al ah bl bh = false) := ref_non rfl rfl (by show ¬ al ≤ mn ah (bh - 1); rw [mn_eq]; omega)
          have c4 : bh ≤ al := by omega
          clear c1 c2 c3
          go_enter Tryd.func20, Tryd.ntmps20
          go_wp2_with fail
          refine (isCompare_c _ _).mono ?_
          rintro e w1 ⟨rfl, hb1⟩
          have B1 := hb1.mono (show w.heap.size + 3 ≤ _ by simp)
          clear hb1
          obtain ⟨hc1, hf1⟩ := bcellB B1
          have HB1 := hide B1
          clear B1
          go_wp2_with fail
          refine (bothOk_c _ _ _ _ _).mono ?_
          rintro e w2 ⟨rfl, hb2⟩
          have B2 := (unhide HB1).trans (hb2.mono (by have := (unhide HB1).size; simp at this; omega))
          clear hb2 hc1 hf1 HB1
          obtain ⟨hc2, hf2⟩ := bcellB B2
          have HB2 := hide B2
          clear B2
          go_wp2_with fail
          refine (lessThan_f _ _ _ c4 _).mono ?_
          rintro e w3 ⟨rfl, hb3⟩
          have B3 := (unhide HB2).trans (hb3.mono (by have := (unhide HB2).size; simp at this; omega))
          clear hb3 hc2 hf2 HB2
          obtain ⟨hc3, hf3⟩ := bcellB B3
          have K : Hid (Below w.heap.size w w3) := ((((Below.refl _ _).alloc (Nat.le_refl _) _).alloc (by simp) _).alloc (by simp; omega) _).trans (B3.mono (by omega))
          have z : Hid (w.heap.size + 3 ≤ w3.heap.size) := by have := B3.size; simp at this; unfold Hid; omega
          clear B3
          go_wp2
          exact bodyPost_ret (v := .tuple #[.agg #[.int .i64 0, .int .i64 0], .bool false]) (by simp [results, Tryd.results20, go_sem, hc3, z.out]) rfl ⟨by rw [E.out.1, E.out.2.1, E.out.2.2], (K.out.setCell (by simp; omega) _).setCell (by simp; omega) _⟩
      · have E : Hid (refL 14 al ah bl bh = meetL al ah (-9223372036854775808) bh ∧ refH 14 al ah bl bh = meetH al ah (-9223372036854775808) bh ∧ refB 14 al ah bl bh = meetB al ah (-9223372036854775808) bh) := meet14 ha c2
        clear c1 c2
        go_enter Tryd.func20, Tryd.ntmps20
        go_wp2_with fail
        refine (isCompare_c _ _).mono ?_
        rintro e w1 ⟨rfl, hb1⟩
        have B1 := hb1.mono (show w.heap.size + 3 ≤ _ by simp)
        clear hb1
        obtain ⟨hc1, hf1⟩ := bcellB B1
        have HB1 := hide B1
        clear B1
        go_wp2_with fail
        refine (bothOk_c _ _ _ _ _).mono ?_
        rintro e w2 ⟨rfl, hb2⟩
        have B2 := (unhide HB1).trans (hb2.mono (by have := (unhide HB1).size; simp at this; omega))
        clear hb2 hc1 hf1 HB1
        obtain ⟨hc2, hf2⟩ := bcellB B2
        have HB2 := hide B2
        clear B2
        go_wp2_with fail
        refine (IvMeet_c _ _ _ _ _).mono ?_
        rintro e w3 ⟨rfl, hb3⟩
        have B3 := (unhide HB2).trans (hb3.mono (by have := (unhide HB2).size; simp at this; omega))
        clear hb3 hc2 hf2 HB2
        obtain ⟨hc3, hf3⟩ := bcellB B3
        have K : Hid (Below w.heap.size w w3) := ((((Below.refl _ _).alloc (Nat.le_refl _) _).alloc (by simp) _).alloc (by simp; omega) _).trans (B3.mono (by omega))
        have z : Hid (w.heap.size + 3 ≤ w3.heap.size) := by have := B3.size; simp at this; unfold Hid; omega
        clear B3
        go_wp2
        exact bodyPost_ret (v := .tuple #[.agg #[.int .i64 (meetL al ah (-9223372036854775808) bh), .int .i64 (meetH al ah (-9223372036854775808) bh)], .bool (meetB al ah (-9223372036854775808) bh)]) (by simp [results, Tryd.results20, go_sem, hc3, z.out]) rfl ⟨by rw [E.out.1, E.out.2.1, E.out.2.2], (K.out.setCell (by simp; omega) _).setCell (by simp; omega) _⟩
      · have E : Hid (refL 15 al ah bl bh = meetL al ah bl bh ∧ refH 15 al ah bl bh = meetH al ah bl bh ∧ refB 15 al ah bl bh = meetB al ah bl bh) := meet15 c2
        clear c1 c2
        go_enter Tryd.func20, Tryd.ntmps20
        go_wp2_with fail
        refine (isCompare_c _ _).mono ?_
        rintro e w1 ⟨rfl, hb1⟩
        have B1 := hb1.mono (show w.heap.size + 3 ≤ _ by simp)
        clear hb1
        obtain ⟨hc1, hf1⟩ := bcellB B1
        have HB1 := hide B1
        clear B1
        go_wp2_with fail
        refine (bothOk_c _ _ _ _ _).mono ?_
        rintro e w2 ⟨rfl, hb2⟩
        have B2 := (unhide HB1).trans (hb2.mono (by have := (unhide HB1).size; simp at this; omega))
        clear hb2 hc1 hf1 HB1
        obtain ⟨hc2, hf2⟩ := bcellB B2
        have HB2 := hide B2
        clear B2
        go_wp2_with fail
        refine (IvMeet_c _ _ _ _ _).mono ?_
        rintro e w3 ⟨rfl, hb3⟩
        have B3 := (unhide HB2).trans (hb3.mono (by have := (unhide HB2).size; simp at this; omega))
        clear hb3 hc2 hf2 HB2
        obtain ⟨hc3, hf3⟩ := bcellB B3
        have K : Hid (Below w.heap.size w w3) := ((((Below.refl _ _).alloc (Nat.le_refl _) _).alloc (by simp) _).alloc (by simp; omega) _).trans (B3.mono (by omega))
        have z : Hid (w.heap.size + 3 ≤ w3.heap.size) := by have := B3.size; simp at this; unfold Hid; omega
        clear B3
        go_wp2
        exact bodyPost_ret (v := .tuple #[.agg #[.int .i64 (meetL al ah bl bh), .int .i64 (meetH al ah bl bh)], .bool (meetB al ah bl bh)]) (by simp [results, Tryd.results20, go_sem, hc3, z.out]) rfl ⟨by rw [E.out.1, E.out.2.1, E.out.2.2], (K.out.setCell (by simp; omega) _).setCell (by simp; omega) _⟩
      · obtain ⟨c3, c4⟩ := c2
        clear c1
        go_enter Tryd.func20, Tryd.ntmps20
        go_wp2_with fail
        refine (isCompare_c _ _).mono ?_
        rintro e w1 ⟨rfl, hb1⟩
        have B1 := hb1.mono (show w.heap.size + 3 ≤ _ by simp)
        clear hb1
        obtain ⟨hc1, hf1⟩ := bcellB B1
        have HB1 := hide B1
        clear B1
        go_wp2_with fail
        refine (bothOk_c _ _ _ _ _).mono ?_
        rintro e w2 ⟨rfl, hb2⟩
        have B2 := (unhide HB1).trans (hb2.mono (by have := (unhide HB1).size; simp at this; omega))
        clear hb2 hc1 hf1 HB1
        obtain ⟨hc2, hf2⟩ := bcellB B2
        have HB2 := hide B2
        clear B2
        go_wp2_with fail
        refine (unlike_c _ _ _ _ ha hh c3 c4 _).mono ?_
        rintro e w3 ⟨rfl, hb3⟩
        have B3 := (unhide HB2).trans (hb3.mono (by have := (unhide HB2).size; simp at this; omega))
        clear hb3 hc2 hf2 HB2
        obtain ⟨hc3, hf3⟩ := bcellB B3
        have K : Hid (Below w.heap.size w w3) := ((((Below.refl _ _).alloc (Nat.le_refl _) _).alloc (by simp) _).alloc (by simp; omega) _).trans (B3.mono (by omega))
        have z : Hid (w.heap.size + 3 ≤ w3.heap.size) := by have := B3.size; simp at this; unfold Hid; omega
        clear B3
        go_wp2
        exact bodyPost_ret (v := .tuple #[.agg #[.int .i64 (refL 16 al ah bl bh), .int .i64 (refH 16 al ah bl bh)], .bool (refB 16 al ah bl bh)]) (by simp [results, Tryd.results20, go_sem, hc3, z.out]) rfl ⟨rfl, (K.out.setCell (by simp; omega) _).setCell (by simp; omega) _⟩
      · by_cases c3 : bl < ah
        · have E : Hid (refL 17 al ah bl bh = mx al (bl + 1) ∧ refH 17 al ah bl bh = ah ∧ refB 17 al ah bl bh = true) := ref_yes (by omega) rfl rfl (by rw [mx_eq]; omega)
          clear c1 c2
          go_enter Tryd.func20, Tryd.ntmps20
          go_wp2_with fail
          refine (isCompare_c _ _).mono ?_
          rintro e w1 ⟨rfl, hb1⟩
          have B1 := hb1.mono (show w.heap.size + 3 ≤ _ by simp)
          clear hb1
          obtain ⟨hc1, hf1⟩ := bcellB B1
          have HB1 := hide B1
          clear B1
          go_wp2_with fail
          refine (bothOk_c _ _ _ _ _).mono ?_
          rintro e w2 ⟨rfl, hb2⟩
          have B2 := (unhide HB1).trans (hb2.mono (by have := (unhide HB1).size; simp at this; omega))
          clear hb2 hc1 hf1 HB1
          obtain ⟨hc2, hf2⟩ := bcellB B2
          have HB2 := hide B2
          clear B2
          go_wp2_with fail
          refine (moreThan_t _ _ _ ha hh hl c3 _).mono ?_
          rintro e w3 ⟨rfl, hb3⟩
          have B3 := (unhide HB2).trans (hb3.mono (by have := (unhide HB2).size; simp at this; omega))
          clear hb3 hc2 hf2 HB2
          obtain ⟨hc3, hf3⟩ := bcellB B3
          have K : Hid (Below w.heap.size w w3) := ((((Below.refl _ _).alloc (Nat.le_refl _) _).alloc (by simp) _).alloc (by simp; omega) _).trans (B3.mono (by omega))
          have z : Hid (w.heap.size + 3 ≤ w3.heap.size) := by have := B3.size; simp at this; unfold Hid; omega
          clear B3
          go_wp2
          exact bodyPost_ret (v := .tuple #[.agg #[.int .i64 (mx al (bl + 1)), .int .i64 ah], .bool true]) (by simp [results, Tryd.results20, go_sem, hc3, z.out]) rfl ⟨by rw [E.out.1, E.out.2.1, E.out.2.2], (K.out.setCell (by simp; omega) _).setCell (by simp; omega) _⟩
        · have E : Hid (refL 17 al ah bl bh = 0 ∧ refH 17 al ah bl bh = 0 ∧ refB 17 al ah bl bh = false) := ref_non rfl rfl (by show ¬ mx al (bl + 1) ≤ ah; rw [mx_eq]; omega)
          have c4 : ah ≤ bl := by omega
          clear c1 c2 c3
          go_enter Tryd.func20, Tryd.ntmps20
          go_wp2_with fail
          refine (isCompare_c _ _).mono ?_
          rintro e w1 ⟨rfl, hb1⟩
          have B1 := hb1.mono (show w.heap.size + 3 ≤ _ by simp)
          clear hb1
          obtain ⟨hc1, hf1⟩ := bcellB B1
          have HB1 := hide B1
          clear B1
          go_wp2_with fail
          refine (bothOk_c _ _ _ _ _).mono ?_
          rintro e w2 ⟨rfl, hb2⟩
          have B2 := (unhide HB1).trans (hb2.mono (by have := (unhide HB1).size; simp at this; omega))
          clear hb2 hc1 hf1 HB1
          obtain ⟨hc2, hf2⟩ := bcellB B2
          have HB2 := hide B2
          clear B2
          go_wp2_with fail
          refine (moreThan_f _ _ _ c4 _).mono ?_
          rintro e w3 ⟨rfl, hb3⟩
          have B3 := (unhide HB2).trans (hb3.mono (by have := (unhide HB2).size; simp at this; omega))
          clear hb3 hc2 hf2 HB2
          obtain ⟨hc3, hf3⟩ := bcellB B3
          have K : Hid (Below w.heap.size w w3) := ((((Below.refl _ _).alloc (Nat.le_refl _) _).alloc (by simp) _).alloc (by simp; omega) _).trans (B3.mono (by omega))
          have z : Hid (w.heap.size + 3 ≤ w3.heap.size) := by have := B3.size; simp at this; unfold Hid; omega
          clear B3
          go_wp2
          exact bodyPost_ret (v := .tuple #[.agg #[.int .i64 0, .int .i64 0], .bool false]) (by simp [results, Tryd.results20, go_sem, hc3, z.out]) rfl ⟨by rw [E.out.1, E.out.2.1, E.out.2.2], (K.out.setCell (by simp; omega) _).setCell (by simp; omega) _⟩
      · have E : Hid (refL 18 al ah bl bh = meetL al ah bl 9223372036854775807 ∧ refH 18 al ah bl bh = meetH al ah bl 9223372036854775807 ∧ refB 18 al ah bl bh = meetB al ah bl 9223372036854775807) := meet18 hh c2
        clear c1 c2
        go_enter Tryd.func20, Tryd.ntmps20
        go_wp2_with fail
        refine (isCompare_c _ _).mono ?_
        rintro e w1 ⟨rfl, hb1⟩
        have B1 := hb1.mono (show w.heap.size + 3 ≤ _ by simp)
        clear hb1
        obtain ⟨hc1, hf1⟩ := bcellB B1
        have HB1 := hide B1
        clear B1
        go_wp2_with fail
        refine (bothOk_c _ _ _ _ _).mono ?_
        rintro e w2 ⟨rfl, hb2⟩
        have B2 := (unhide HB1).trans (hb2.mono (by have := (unhide HB1).size; simp at this; omega))
        clear hb2 hc1 hf1 HB1
        obtain ⟨hc2, hf2⟩ := bcellB B2
        have HB2 := hide B2
        clear B2
        go_wp2_with fail
        refine (IvMeet_c _ _ _ _ _).mono ?_
        rintro e w3 ⟨rfl, hb3⟩
        have B3 := (unhide HB2).trans (hb3.mono (by have := (unhide HB2).size; simp at this; omega))
        clear hb3 hc2 hf2 HB2
        obtain ⟨hc3, hf3⟩ := bcellB B3
        have K : Hid (Below w.heap.size w w3) := ((((Below.refl _ _).alloc (Nat.le_refl _) _).alloc (by simp) _).alloc (by simp; omega) _).trans (B3.mono (by omega))
        have z : Hid (w.heap.size + 3 ≤ w3.heap.size) := by have := B3.size; simp at this; unfold Hid; omega
        clear B3
        go_wp2
        exact bodyPost_ret (v := .tuple #[.agg #[.int .i64 (meetL al ah bl 9223372036854775807), .int .i64 (meetH al ah bl 9223372036854775807)], .bool (meetB al ah bl 9223372036854775807)]) (by simp [results, Tryd.results20, go_sem, hc3, z.out]) rfl ⟨by rw [E.out.1, E.out.2.1, E.out.2.2], (K.out.setCell (by simp; omega) _).setCell (by simp; omega) _⟩
    · have d2 : bothB al ah bl bh = false := decide_eq_false c2
      have E : Hid (refL op al ah bl bh = 0 ∧ refH op al ah bl bh = 0 ∧ refB op al ah bl bh = false) := ref_no (fun h => c2 ⟨h.2.2.1, h.2.2.2.1⟩)
      clear c1 c2
      go_enter Tryd.func20, Tryd.ntmps20
      go_wp2_with fail
      refine (isCompare_c _ _).mono ?_
      rintro e w1 ⟨rfl, hb1⟩
      have B1 := hb1.mono (show w.heap.size + 3 ≤ _ by simp)
      clear hb1
      obtain ⟨hc1, hf1⟩ := bcellB B1
      have HB1 := hide B1
      clear B1
      go_wp2_with fail
      refine (bothOk_c _ _ _ _ _).mono ?_
      rintro e w2 ⟨rfl, hb2⟩
      have B2 := (unhide HB1).trans (hb2.mono (by have := (unhide HB1).size; simp at this; omega))
      clear hb2 hc1 hf1 HB1
      obtain ⟨hc2, hf2⟩ := bcellB B2
      have K : Hid (Below w.heap.size w w2) := ((((Below.refl _ _).alloc (Nat.le_refl _) _).alloc (by simp) _).alloc (by simp; omega) _).trans (B2.mono (by omega))
      have z : Hid (w.heap.size + 3 ≤ w2.heap.size) := by have := B2.size; simp at this; unfold Hid; omega
      clear B2
      go_wp2
      exact bodyPost_ret (v := .tuple #[.agg #[.int .i64 0, .int .i64 0], .bool false]) (by simp [results, Tryd.results20, go_sem, hc2, z.out]) rfl ⟨by rw [E.out.1, E.out.2.1, E.out.2.2], (K.out.setCell (by simp; omega) _).setCell (by simp; omega) _⟩
  · have d1 : cmpB op = false := decide_eq_false c1
    have E : Hid (refL op al ah bl bh = 0 ∧ refH op al ah bl bh = 0 ∧ refB op al ah bl bh = false) := ref_no (fun h => c1 ⟨h.1, h.2.1⟩)
    clear c1
    go_enter Tryd.func20, Tryd.ntmps20
    go_wp2_with fail
    refine (isCompare_c _ _).mono ?_
    rintro e w1 ⟨rfl, hb1⟩
    have B1 := hb1.mono (show w.heap.size + 3 ≤ _ by simp)
    clear hb1
    obtain ⟨hc1, hf1⟩ := bcellB B1
    have K : Hid (Below w.heap.size w w1) := ((((Below.refl _ _).alloc (Nat.le_refl _) _).alloc (by simp) _).alloc (by simp; omega) _).trans (B1.mono (by omega))
    have z : Hid (w.heap.size + 3 ≤ w1.heap.size) := by have := B1.size; simp at this; unfold Hid; omega
    clear B1
    go_wp2
    exact bodyPost_ret (v := .tuple #[.agg #[.int .i64 0, .int .i64 0], .bool false]) (by simp [results, Tryd.results20, go_sem, hc1, z.out]) rfl ⟨by rw [E.out.1, E.out.2.1, E.out.2.2], (K.out.setCell (by simp; omega) _).setCell (by simp; omega) _⟩
end Go.Proofs.YtlgjbfkhajphdaaDoor
