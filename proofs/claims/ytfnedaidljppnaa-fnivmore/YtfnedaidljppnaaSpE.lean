/- The specification's sums, differences and products of intervals. -/
import Derived.Test.YtfnedaidljppnaaSpD43
import Derived.Test.YtfnedaidljppnaaSpD45
import Derived.Test.YtfnedaidljppnaaSpD42
import Derived.Test.YtfnedaidljppnaaOpD
namespace Go.Proofs.Ytfnedaidljppnaa
open Go.RowKit Go.Iv
set_option linter.unusedSimpArgs false

theorem corL_one (f : Int → Int → Int) (al ah bl bh : Int) : spanL (corL f al ah [(bl, bh)]) = spanL [f al bl, f al bh, f ah bl, f ah bh] := by
  simp only [corL, List.flatMap_cons, List.flatMap_nil, List.append_nil, spanL, minL, maxL]
  congr 1 <;> omega

set_option maxHeartbeats 1000000 in
theorem op43 (al ah bl bh : Int) (w : World) (hal : In al) (hah : In ah) (hbl : In bl) (hbh : In bh) : Calls Try.prog 46 #[.int .i64 43, .agg #[.int .i64 al, .int .i64 ah], .agg #[.int .i64 bl, .int .i64 bh]] w fun e w' => e = .returned (.agg #[.int .i64 (corV (fun x y => x + y) al ah bl bh).lo, .int .i64 (corV (fun x y => x + y) al ah bl bh).hi, .bool (corV (fun x y => x + y) al ah bl bh).live, .int .i64 (corV (fun x y => x + y) al ah bl bh).al]) ∧ Below w.heap.size w w' := by
  obtain ⟨V, hV⟩ : ∃ V, V = corV (fun x y => x + y) al ah bl bh := ⟨_, rfl⟩
  rw [← hV]
  by_cases h1 : al ≤ ah
  · have e1 : okB al ah = true := decide_eq_true h1
    by_cases h2 : bl ≤ bh
    · have e2 : okB bl bh = true := decide_eq_true h2
      have e3 := hide (show spanL (corL (fun x y => x + y) al ah [(bl, bh)]) = V by rw [corL_one, hV]; exact (if_pos ⟨h1, h2⟩).symm)
      have HI := hide (And.intro hal (And.intro hah (And.intro hbl hbh)))
      clear hV h1 h2 hal hah hbl hbh
      go_enter Try.func46, Try.ntmps46
      go_wp2_with fail
      refine (sIvOk_c _ _ _).mono ?_
      rintro e w1 ⟨rfl, hb1⟩
      have B1 := hb1.mono (show w.heap.size + 3 ≤ _ by simp)
      clear hb1
      obtain ⟨hc1, hf1⟩ := bcellB B1
      have HB1 := hide B1
      clear B1
      go_wp2_with fail
      refine (sIvOk_c _ _ _).mono ?_
      rintro e w2 ⟨rfl, hb2⟩
      have B2 := (unhide HB1).trans (hb2.mono (by have := (unhide HB1).size; simp at this; omega))
      clear hb2 hc1 hf1 HB1
      obtain ⟨hc2, hf2⟩ := bcellB B2
      have HB2 := hide B2
      clear B2
      go_wp2_with fail
      refine (box43 al ah [(bl, bh)] w2.heap.size 1 _ (by simp) (by simp) (by simp) ?_ (unhide HI).1 (unhide HI).2.1 ?_).mono ?_
      · intro i hi
        obtain rfl : i = 0 := by simp at hi; omega
        simp
      · intro i hi
        obtain rfl : i = 0 := by simp at hi; omega
        exact ⟨(unhide HI).2.2.1, (unhide HI).2.2.2⟩
      rintro e w3 ⟨rfl, hb3⟩
      rw [unhide e3]
      have B3 := ((unhide HB2).alloc (by have := (unhide HB2).size; simp at this; omega) _).trans (hb3.mono (by have := (unhide HB2).size; simp at this ⊢; omega))
      clear hb3 HB2 hc2 hf2
      obtain ⟨hc3, hf3⟩ := bcellB B3
      have K3 := hide (((((Below.refl _ w).alloc (Nat.le_refl _) _).alloc (by simp) _).alloc (by simp; omega) _).trans (B3.mono (by omega)))
      clear B3
      go_wp2
      exact bodyPost_ret (v := .agg #[.int .i64 (V).lo, .int .i64 (V).hi, .bool (V).live, .int .i64 (V).al]) (by simp [results, Try.results46, go_sem, hc3]) rfl ⟨rfl, ((((unhide K3).setCell (by simp; omega) _).setCell (by simp; omega) _).setCell (by simp; omega) _).setCell (by simp; omega) _⟩
    · have e2 : okB bl bh = false := decide_eq_false h2
      have e3 := hide (show V = zeroV by rw [hV]; exact if_neg (by omega))
      clear hV h1 h2 hal hah hbl hbh
      go_enter Try.func46, Try.ntmps46
      go_wp2_with fail
      refine (sIvOk_c _ _ _).mono ?_
      rintro e w1 ⟨rfl, hb1⟩
      have B1 := hb1.mono (show w.heap.size + 3 ≤ _ by simp)
      clear hb1
      obtain ⟨hc1, hf1⟩ := bcellB B1
      have HB1 := hide B1
      clear B1
      go_wp2_with fail
      refine (sIvOk_c _ _ _).mono ?_
      rintro e w2 ⟨rfl, hb2⟩
      have B2 := (unhide HB1).trans (hb2.mono (by have := (unhide HB1).size; simp at this; omega))
      clear hb2 hc1 hf1 HB1
      obtain ⟨hc2, hf2⟩ := bcellB B2
      have K3 := hide (((((Below.refl _ w).alloc (Nat.le_refl _) _).alloc (by simp) _).alloc (by simp; omega) _).trans (B2.mono (by omega)))
      clear B2
      go_wp2
      exact bodyPost_ret (v := .agg #[.int .i64 0, .int .i64 0, .bool false, .int .i64 0]) (by simp [results, Try.results46, go_sem, hc2]) rfl ⟨by rw [unhide e3]; rfl, ((((unhide K3).setCell (by simp; omega) _).setCell (by simp; omega) _).setCell (by simp; omega) _).setCell (by simp; omega) _⟩
  · have e1 : okB al ah = false := decide_eq_false h1
    have e3 := hide (show V = zeroV by rw [hV]; exact if_neg (by omega))
    clear hV h1 hal hah hbl hbh
    go_enter Try.func46, Try.ntmps46
    go_wp2_with fail
    refine (sIvOk_c _ _ _).mono ?_
    rintro e w1 ⟨rfl, hb1⟩
    have B1 := hb1.mono (show w.heap.size + 3 ≤ _ by simp)
    clear hb1
    obtain ⟨hc1, hf1⟩ := bcellB B1
    have K3 := hide (((((Below.refl _ w).alloc (Nat.le_refl _) _).alloc (by simp) _).alloc (by simp; omega) _).trans (B1.mono (by omega)))
    clear B1
    go_wp2
    exact bodyPost_ret (v := .agg #[.int .i64 0, .int .i64 0, .bool false, .int .i64 0]) (by simp [results, Try.results46, go_sem, hc1]) rfl ⟨by rw [unhide e3]; rfl, ((((unhide K3).setCell (by simp; omega) _).setCell (by simp; omega) _).setCell (by simp; omega) _).setCell (by simp; omega) _⟩
theorem sIvAdd_c (al ah bl bh : Int) (hal : In al) (hah : In ah) (hbl : In bl) (hbh : In bh) (w : World) : Calls Try.prog 24 #[.agg #[.int .i64 al, .int .i64 ah], .agg #[.int .i64 bl, .int .i64 bh]] w fun e w' => e = .returned (.agg #[.int .i64 (corV (fun x y => x + y) al ah bl bh).lo, .int .i64 (corV (fun x y => x + y) al ah bl bh).hi, .bool (corV (fun x y => x + y) al ah bl bh).live, .int .i64 (corV (fun x y => x + y) al ah bl bh).al]) ∧ Below w.heap.size w w' := by
  obtain ⟨V, hV⟩ : ∃ V, V = corV (fun x y => x + y) al ah bl bh := ⟨_, rfl⟩
  have HI := hide (And.intro hal (And.intro hah (And.intro hbl hbh)))
  rw [← hV]
  have HV := hide hV
  clear hV hal hah hbl hbh
  go_enter Try.func24, Try.ntmps24
  go_wp2_with fail
  refine (op43 _ _ _ _ _ (unhide HI).1 (unhide HI).2.1 (unhide HI).2.2.1 (unhide HI).2.2.2).mono ?_
  rintro e w1 ⟨rfl, hb1⟩
  rw [← unhide HV]
  have B1 := hb1.mono (show w.heap.size + 3 ≤ _ by simp)
  obtain ⟨hc1, hf1⟩ := bcellB B1
  have K1 := hide (((((Below.refl _ w).alloc (Nat.le_refl _) _).alloc (by simp) _).alloc (by simp; omega) _).trans (B1.mono (by omega)))
  clear B1
  clear hb1
  go_wp2
  exact bodyPost_ret (v := .agg #[.int .i64 (V).lo, .int .i64 (V).hi, .bool (V).live, .int .i64 (V).al]) (by simp [results, Try.results24, go_sem, hc1]) rfl ⟨rfl, ((((unhide K1).setCell (by simp; omega) _).setCell (by simp; omega) _).setCell (by simp; omega) _).setCell (by simp; omega) _⟩
set_option maxHeartbeats 1000000 in
theorem op45 (al ah bl bh : Int) (w : World) (hal : In al) (hah : In ah) (hbl : In bl) (hbh : In bh) : Calls Try.prog 46 #[.int .i64 45, .agg #[.int .i64 al, .int .i64 ah], .agg #[.int .i64 bl, .int .i64 bh]] w fun e w' => e = .returned (.agg #[.int .i64 (corV (fun x y => x - y) al ah bl bh).lo, .int .i64 (corV (fun x y => x - y) al ah bl bh).hi, .bool (corV (fun x y => x - y) al ah bl bh).live, .int .i64 (corV (fun x y => x - y) al ah bl bh).al]) ∧ Below w.heap.size w w' := by
  obtain ⟨V, hV⟩ : ∃ V, V = corV (fun x y => x - y) al ah bl bh := ⟨_, rfl⟩
  rw [← hV]
  by_cases h1 : al ≤ ah
  · have e1 : okB al ah = true := decide_eq_true h1
    by_cases h2 : bl ≤ bh
    · have e2 : okB bl bh = true := decide_eq_true h2
      have e3 := hide (show spanL (corL (fun x y => x - y) al ah [(bl, bh)]) = V by rw [corL_one, hV]; exact (if_pos ⟨h1, h2⟩).symm)
      have HI := hide (And.intro hal (And.intro hah (And.intro hbl hbh)))
      clear hV h1 h2 hal hah hbl hbh
      go_enter Try.func46, Try.ntmps46
      go_wp2_with fail
      refine (sIvOk_c _ _ _).mono ?_
      rintro e w1 ⟨rfl, hb1⟩
      have B1 := hb1.mono (show w.heap.size + 3 ≤ _ by simp)
      clear hb1
      obtain ⟨hc1, hf1⟩ := bcellB B1
      have HB1 := hide B1
      clear B1
      go_wp2_with fail
      refine (sIvOk_c _ _ _).mono ?_
      rintro e w2 ⟨rfl, hb2⟩
      have B2 := (unhide HB1).trans (hb2.mono (by have := (unhide HB1).size; simp at this; omega))
      clear hb2 hc1 hf1 HB1
      obtain ⟨hc2, hf2⟩ := bcellB B2
      have HB2 := hide B2
      clear B2
      go_wp2_with fail
      refine (box45 al ah [(bl, bh)] w2.heap.size 1 _ (by simp) (by simp) (by simp) ?_ (unhide HI).1 (unhide HI).2.1 ?_).mono ?_
      · intro i hi
        obtain rfl : i = 0 := by simp at hi; omega
        simp
      · intro i hi
        obtain rfl : i = 0 := by simp at hi; omega
        exact ⟨(unhide HI).2.2.1, (unhide HI).2.2.2⟩
      rintro e w3 ⟨rfl, hb3⟩
      rw [unhide e3]
      have B3 := ((unhide HB2).alloc (by have := (unhide HB2).size; simp at this; omega) _).trans (hb3.mono (by have := (unhide HB2).size; simp at this ⊢; omega))
      clear hb3 HB2 hc2 hf2
      obtain ⟨hc3, hf3⟩ := bcellB B3
      have K3 := hide (((((Below.refl _ w).alloc (Nat.le_refl _) _).alloc (by simp) _).alloc (by simp; omega) _).trans (B3.mono (by omega)))
      clear B3
      go_wp2
      exact bodyPost_ret (v := .agg #[.int .i64 (V).lo, .int .i64 (V).hi, .bool (V).live, .int .i64 (V).al]) (by simp [results, Try.results46, go_sem, hc3]) rfl ⟨rfl, ((((unhide K3).setCell (by simp; omega) _).setCell (by simp; omega) _).setCell (by simp; omega) _).setCell (by simp; omega) _⟩
    · have e2 : okB bl bh = false := decide_eq_false h2
      have e3 := hide (show V = zeroV by rw [hV]; exact if_neg (by omega))
      clear hV h1 h2 hal hah hbl hbh
      go_enter Try.func46, Try.ntmps46
      go_wp2_with fail
      refine (sIvOk_c _ _ _).mono ?_
      rintro e w1 ⟨rfl, hb1⟩
      have B1 := hb1.mono (show w.heap.size + 3 ≤ _ by simp)
      clear hb1
      obtain ⟨hc1, hf1⟩ := bcellB B1
      have HB1 := hide B1
      clear B1
      go_wp2_with fail
      refine (sIvOk_c _ _ _).mono ?_
      rintro e w2 ⟨rfl, hb2⟩
      have B2 := (unhide HB1).trans (hb2.mono (by have := (unhide HB1).size; simp at this; omega))
      clear hb2 hc1 hf1 HB1
      obtain ⟨hc2, hf2⟩ := bcellB B2
      have K3 := hide (((((Below.refl _ w).alloc (Nat.le_refl _) _).alloc (by simp) _).alloc (by simp; omega) _).trans (B2.mono (by omega)))
      clear B2
      go_wp2
      exact bodyPost_ret (v := .agg #[.int .i64 0, .int .i64 0, .bool false, .int .i64 0]) (by simp [results, Try.results46, go_sem, hc2]) rfl ⟨by rw [unhide e3]; rfl, ((((unhide K3).setCell (by simp; omega) _).setCell (by simp; omega) _).setCell (by simp; omega) _).setCell (by simp; omega) _⟩
  · have e1 : okB al ah = false := decide_eq_false h1
    have e3 := hide (show V = zeroV by rw [hV]; exact if_neg (by omega))
    clear hV h1 hal hah hbl hbh
    go_enter Try.func46, Try.ntmps46
    go_wp2_with fail
    refine (sIvOk_c _ _ _).mono ?_
    rintro e w1 ⟨rfl, hb1⟩
    have B1 := hb1.mono (show w.heap.size + 3 ≤ _ by simp)
    clear hb1
    obtain ⟨hc1, hf1⟩ := bcellB B1
    have K3 := hide (((((Below.refl _ w).alloc (Nat.le_refl _) _).alloc (by simp) _).alloc (by simp; omega) _).trans (B1.mono (by omega)))
    clear B1
    go_wp2
    exact bodyPost_ret (v := .agg #[.int .i64 0, .int .i64 0, .bool false, .int .i64 0]) (by simp [results, Try.results46, go_sem, hc1]) rfl ⟨by rw [unhide e3]; rfl, ((((unhide K3).setCell (by simp; omega) _).setCell (by simp; omega) _).setCell (by simp; omega) _).setCell (by simp; omega) _⟩
theorem sIvSub_c (al ah bl bh : Int) (hal : In al) (hah : In ah) (hbl : In bl) (hbh : In bh) (w : World) : Calls Try.prog 26 #[.agg #[.int .i64 al, .int .i64 ah], .agg #[.int .i64 bl, .int .i64 bh]] w fun e w' => e = .returned (.agg #[.int .i64 (corV (fun x y => x - y) al ah bl bh).lo, .int .i64 (corV (fun x y => x - y) al ah bl bh).hi, .bool (corV (fun x y => x - y) al ah bl bh).live, .int .i64 (corV (fun x y => x - y) al ah bl bh).al]) ∧ Below w.heap.size w w' := by
  obtain ⟨V, hV⟩ : ∃ V, V = corV (fun x y => x - y) al ah bl bh := ⟨_, rfl⟩
  have HI := hide (And.intro hal (And.intro hah (And.intro hbl hbh)))
  rw [← hV]
  have HV := hide hV
  clear hV hal hah hbl hbh
  go_enter Try.func26, Try.ntmps26
  go_wp2_with fail
  refine (op45 _ _ _ _ _ (unhide HI).1 (unhide HI).2.1 (unhide HI).2.2.1 (unhide HI).2.2.2).mono ?_
  rintro e w1 ⟨rfl, hb1⟩
  rw [← unhide HV]
  have B1 := hb1.mono (show w.heap.size + 3 ≤ _ by simp)
  obtain ⟨hc1, hf1⟩ := bcellB B1
  have K1 := hide (((((Below.refl _ w).alloc (Nat.le_refl _) _).alloc (by simp) _).alloc (by simp; omega) _).trans (B1.mono (by omega)))
  clear B1
  clear hb1
  go_wp2
  exact bodyPost_ret (v := .agg #[.int .i64 (V).lo, .int .i64 (V).hi, .bool (V).live, .int .i64 (V).al]) (by simp [results, Try.results26, go_sem, hc1]) rfl ⟨rfl, ((((unhide K1).setCell (by simp; omega) _).setCell (by simp; omega) _).setCell (by simp; omega) _).setCell (by simp; omega) _⟩
set_option maxHeartbeats 1000000 in
theorem op42 (al ah bl bh : Int) (w : World) (hal : In al) (hah : In ah) (hbl : In bl) (hbh : In bh) : Calls Try.prog 46 #[.int .i64 42, .agg #[.int .i64 al, .int .i64 ah], .agg #[.int .i64 bl, .int .i64 bh]] w fun e w' => e = .returned (.agg #[.int .i64 (corV (fun x y => x * y) al ah bl bh).lo, .int .i64 (corV (fun x y => x * y) al ah bl bh).hi, .bool (corV (fun x y => x * y) al ah bl bh).live, .int .i64 (corV (fun x y => x * y) al ah bl bh).al]) ∧ Below w.heap.size w w' := by
  obtain ⟨V, hV⟩ : ∃ V, V = corV (fun x y => x * y) al ah bl bh := ⟨_, rfl⟩
  rw [← hV]
  by_cases h1 : al ≤ ah
  · have e1 : okB al ah = true := decide_eq_true h1
    by_cases h2 : bl ≤ bh
    · have e2 : okB bl bh = true := decide_eq_true h2
      have e3 := hide (show spanL (corL (fun x y => x * y) al ah [(bl, bh)]) = V by rw [corL_one, hV]; exact (if_pos ⟨h1, h2⟩).symm)
      have HI := hide (And.intro hal (And.intro hah (And.intro hbl hbh)))
      clear hV h1 h2 hal hah hbl hbh
      go_enter Try.func46, Try.ntmps46
      go_wp2_with fail
      refine (sIvOk_c _ _ _).mono ?_
      rintro e w1 ⟨rfl, hb1⟩
      have B1 := hb1.mono (show w.heap.size + 3 ≤ _ by simp)
      clear hb1
      obtain ⟨hc1, hf1⟩ := bcellB B1
      have HB1 := hide B1
      clear B1
      go_wp2_with fail
      refine (sIvOk_c _ _ _).mono ?_
      rintro e w2 ⟨rfl, hb2⟩
      have B2 := (unhide HB1).trans (hb2.mono (by have := (unhide HB1).size; simp at this; omega))
      clear hb2 hc1 hf1 HB1
      obtain ⟨hc2, hf2⟩ := bcellB B2
      have HB2 := hide B2
      clear B2
      go_wp2_with fail
      refine (box42 al ah [(bl, bh)] w2.heap.size 1 _ (by simp) (by simp) (by simp) ?_ (unhide HI).1 (unhide HI).2.1 ?_).mono ?_
      · intro i hi
        obtain rfl : i = 0 := by simp at hi; omega
        simp
      · intro i hi
        obtain rfl : i = 0 := by simp at hi; omega
        exact ⟨(unhide HI).2.2.1, (unhide HI).2.2.2⟩
      rintro e w3 ⟨rfl, hb3⟩
      rw [unhide e3]
      have B3 := ((unhide HB2).alloc (by have := (unhide HB2).size; simp at this; omega) _).trans (hb3.mono (by have := (unhide HB2).size; simp at this ⊢; omega))
      clear hb3 HB2 hc2 hf2
      obtain ⟨hc3, hf3⟩ := bcellB B3
      have K3 := hide (((((Below.refl _ w).alloc (Nat.le_refl _) _).alloc (by simp) _).alloc (by simp; omega) _).trans (B3.mono (by omega)))
      clear B3
      go_wp2
      exact bodyPost_ret (v := .agg #[.int .i64 (V).lo, .int .i64 (V).hi, .bool (V).live, .int .i64 (V).al]) (by simp [results, Try.results46, go_sem, hc3]) rfl ⟨rfl, ((((unhide K3).setCell (by simp; omega) _).setCell (by simp; omega) _).setCell (by simp; omega) _).setCell (by simp; omega) _⟩
    · have e2 : okB bl bh = false := decide_eq_false h2
      have e3 := hide (show V = zeroV by rw [hV]; exact if_neg (by omega))
      clear hV h1 h2 hal hah hbl hbh
      go_enter Try.func46, Try.ntmps46
      go_wp2_with fail
      refine (sIvOk_c _ _ _).mono ?_
      rintro e w1 ⟨rfl, hb1⟩
      have B1 := hb1.mono (show w.heap.size + 3 ≤ _ by simp)
      clear hb1
      obtain ⟨hc1, hf1⟩ := bcellB B1
      have HB1 := hide B1
      clear B1
      go_wp2_with fail
      refine (sIvOk_c _ _ _).mono ?_
      rintro e w2 ⟨rfl, hb2⟩
      have B2 := (unhide HB1).trans (hb2.mono (by have := (unhide HB1).size; simp at this; omega))
      clear hb2 hc1 hf1 HB1
      obtain ⟨hc2, hf2⟩ := bcellB B2
      have K3 := hide (((((Below.refl _ w).alloc (Nat.le_refl _) _).alloc (by simp) _).alloc (by simp; omega) _).trans (B2.mono (by omega)))
      clear B2
      go_wp2
      exact bodyPost_ret (v := .agg #[.int .i64 0, .int .i64 0, .bool false, .int .i64 0]) (by simp [results, Try.results46, go_sem, hc2]) rfl ⟨by rw [unhide e3]; rfl, ((((unhide K3).setCell (by simp; omega) _).setCell (by simp; omega) _).setCell (by simp; omega) _).setCell (by simp; omega) _⟩
  · have e1 : okB al ah = false := decide_eq_false h1
    have e3 := hide (show V = zeroV by rw [hV]; exact if_neg (by omega))
    clear hV h1 hal hah hbl hbh
    go_enter Try.func46, Try.ntmps46
    go_wp2_with fail
    refine (sIvOk_c _ _ _).mono ?_
    rintro e w1 ⟨rfl, hb1⟩
    have B1 := hb1.mono (show w.heap.size + 3 ≤ _ by simp)
    clear hb1
    obtain ⟨hc1, hf1⟩ := bcellB B1
    have K3 := hide (((((Below.refl _ w).alloc (Nat.le_refl _) _).alloc (by simp) _).alloc (by simp; omega) _).trans (B1.mono (by omega)))
    clear B1
    go_wp2
    exact bodyPost_ret (v := .agg #[.int .i64 0, .int .i64 0, .bool false, .int .i64 0]) (by simp [results, Try.results46, go_sem, hc1]) rfl ⟨by rw [unhide e3]; rfl, ((((unhide K3).setCell (by simp; omega) _).setCell (by simp; omega) _).setCell (by simp; omega) _).setCell (by simp; omega) _⟩
theorem sIvMul_c (al ah bl bh : Int) (hal : In al) (hah : In ah) (hbl : In bl) (hbh : In bh) (w : World) : Calls Try.prog 28 #[.agg #[.int .i64 al, .int .i64 ah], .agg #[.int .i64 bl, .int .i64 bh]] w fun e w' => e = .returned (.agg #[.int .i64 (corV (fun x y => x * y) al ah bl bh).lo, .int .i64 (corV (fun x y => x * y) al ah bl bh).hi, .bool (corV (fun x y => x * y) al ah bl bh).live, .int .i64 (corV (fun x y => x * y) al ah bl bh).al]) ∧ Below w.heap.size w w' := by
  obtain ⟨V, hV⟩ : ∃ V, V = corV (fun x y => x * y) al ah bl bh := ⟨_, rfl⟩
  have HI := hide (And.intro hal (And.intro hah (And.intro hbl hbh)))
  rw [← hV]
  have HV := hide hV
  clear hV hal hah hbl hbh
  go_enter Try.func28, Try.ntmps28
  go_wp2_with fail
  refine (op42 _ _ _ _ _ (unhide HI).1 (unhide HI).2.1 (unhide HI).2.2.1 (unhide HI).2.2.2).mono ?_
  rintro e w1 ⟨rfl, hb1⟩
  rw [← unhide HV]
  have B1 := hb1.mono (show w.heap.size + 3 ≤ _ by simp)
  obtain ⟨hc1, hf1⟩ := bcellB B1
  have K1 := hide (((((Below.refl _ w).alloc (Nat.le_refl _) _).alloc (by simp) _).alloc (by simp; omega) _).trans (B1.mono (by omega)))
  clear B1
  clear hb1
  go_wp2
  exact bodyPost_ret (v := .agg #[.int .i64 (V).lo, .int .i64 (V).hi, .bool (V).live, .int .i64 (V).al]) (by simp [results, Try.results28, go_sem, hc1]) rfl ⟨rfl, ((((unhide K1).setCell (by simp; omega) _).setCell (by simp; omega) _).setCell (by simp; omega) _).setCell (by simp; omega) _⟩
end Go.Proofs.Ytfnedaidljppnaa
